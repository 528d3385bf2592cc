/- Texts laid together: He4 HdMath3 HdMath4 HdMath5 HdMath6 HdMath7 He5 Mo5 Pl1 Pl2 Pl3. -/
import Derived.Test.YtodpbghkjnlfdaaHe3
import Derived.Test.YtodpbghkjnlfdaaMg05
import Derived.Test.YtodpbghkjnlfdaaMg04
import Derived.Test.YtodpbghkjnlfdaaOk5
import Derived.Test.YtodpbghkjnlfdaaRows
import Derived.Test.YtodpbghkjnlfdaaMg16
import Derived.Scope
import Derived.WalkMore
import Derived.Deep.RegionHeld3
/- The model's small move is the function move. -/
namespace Go.Proofs.Ytodpbghkjnlfdaa.ce
open Go.ChangeShapes Go.WideShapes Go.ChangeAt Go.RowKit
set_option linter.unusedVariables false

/-- a hand whose next move is in bounds -/
structure Bd (n : Nat) (d : Hd) : Prop where
  kind : d.kind = 1 ∨ d.kind = 2 ∨ d.kind = 3
  step : d.step = 0 ∨ d.step = 1 ∨ d.step = 2 ∨ d.step = 3 ∨ d.step = 4 ∨ d.step = 5
  here : d.step = 1 ∨ d.step = 2 → d.here = -1 ∨ 0 ≤ d.here
  hern : d.here < (n : Int)
  mark : d.step = 4 → 0 ≤ d.here
  own : d.own < 0 ∨ d.own < (n : Int)
theorem OkH.bd {H : List C} {d : Hd} (ok : OkH H d) (h1 : 1 ≤ H.length) : Bd H.length d := by
  have hk := ok.kind
  have hs := ok.step
  by_cases hi : d.step = 0 ∨ d.step = 5
  · have h := ok.idle hi
    refine ⟨by omega, by omega, fun _ => .inl h.2, by rw [h.2]; omega, fun e => by omega, ?_⟩
    rcases ok.own with e | e
    · exact .inl (by omega)
    · exact .inr e.2.1.2
  · have h := ok.way hi
    have hm := ok.mark
    refine ⟨by omega, by omega, fun _ => by omega, by omega, fun e => ?_, ?_⟩
    · have h2 := (hm e).1
      have hky := ok.key
      unfold there at h2
      split at h2
      · assumption
      · omega
    · rcases ok.own with e | e
      · exact .inl (by omega)
      · exact .inr e.2.1.2

theorem l5MoveA (H : List C) (d : Hd) (v : Value) (lo g q f : Nat) (ty : TypeId) (A B : List Value) (w : World) (m : Me w lo g q f ty A B v H d) (bd : Bd H.length d) :
    Calls Try.prog 47 #[v, .pointer (some ⟨q, f, none⟩)] w fun er w' => ∃ v' g', er = .returned v' ∧ Me w' lo g' q f ty A B v' (move H d).1 (move H d).2 ∧ Mw lo q w w' := by
  obtain ⟨k, x, y, s, l, e, o, t⟩ := d
  have hk := bd.kind
  have hs := bd.step
  have hh := bd.here
  have hn := bd.hern
  have hm := bd.mark
  have ho := bd.own
  simp only at hk hs hh hn hm ho
  clear bd
  rcases hs with rfl | rfl | rfl | rfl | rfl | rfl
  · exact mv_start H k x y l e o t v lo g q f ty A B w m
  · rcases hh (.inl rfl) with rfl | h0
    · have e1 : move H ⟨k, x, y, 1, l, -1, o, t⟩ = (H, ⟨k, x, y, 2, l, -1, o, t⟩) := by simp [move, moveW, stops]
      rw [e1]
      exact mv_walk_end H k x y l 0 o t v lo g q f ty A B w m
    · have hne : ¬ e = -1 := by omega
      cases hg : (nth H e).gone with
      | false =>
        by_cases hkk : x ≤ (nth H e).key
        · have e1 : move H ⟨k, x, y, 1, l, e, o, t⟩ = (H, ⟨k, x, y, 2, l, e, o, t⟩) := by simp [move, moveW, stops, hg, hkk]
          rw [e1]
          exact mv_walk_stop H k x y l e o t v lo g q f ty A B w m h0 hn hg hkk
        · have e1 : move H ⟨k, x, y, 1, l, e, o, t⟩ = (H, ⟨k, x, y, 1, e, (nth H e).next, o, t⟩) := by simp [move, moveW, stops, hg, hkk, hne]
          rw [e1]
          exact mv_walk_on H k x y l e o t v lo g q f ty A B w m h0 hn hg hkk
      | true =>
        by_cases hsw : swapOk H l e (nth H e).next
        · have e1 : move H ⟨k, x, y, 1, l, e, o, t⟩ = (swapH H l (nth H e).next, ⟨k, x, y, 1, l, (nth H e).next, o, t⟩) := by simp [move, moveW, stops, hg, hne, hsw]
          rw [e1]
          exact mv_walk_pass H k x y l e o t v lo g q f ty A B w m h0 hn hg hsw
        · have e1 : move H ⟨k, x, y, 1, l, e, o, t⟩ = (H, startD ⟨k, x, y, 1, l, e, o, t⟩) := by simp [move, moveW, stops, hg, hne, hsw]
          rw [e1]
          exact mv_walk_lost H k x y l e o t v lo g q f ty A B w m h0 hn hg hsw
  · rcases hh (.inr rfl) with rfl | h0
    · rcases hk with rfl | rfl | rfl
      · have e1 : move H ⟨1, x, y, 2, l, -1, o, t⟩ = movePut H ⟨1, x, y, 2, l, -1, o, t⟩ := by simp [move, moveA, found]
        rw [e1]
        exact mv_act1_end H 0 x y l 0 o t v lo g q f ty A B w m ho
      · have e1 : move H ⟨2, x, y, 2, l, -1, o, t⟩ = (H, doneD ⟨2, x, y, 2, l, -1, o, t⟩ false) := by simp [move, moveA, found]
        rw [e1]
        exact mv_act2_end H 0 x y l 0 o t v lo g q f ty A B w m
      · have e1 : move H ⟨3, x, y, 2, l, -1, o, t⟩ = (H, doneD ⟨3, x, y, 2, l, -1, o, t⟩ false) := by simp [move, moveA, found]
        rw [e1]
        exact mv_act3_end H 0 x y l 0 o t v lo g q f ty A B w m
    · by_cases hkk : (nth H e).key = x
      · rcases hk with rfl | rfl | rfl
        · have e1 : move H ⟨1, x, y, 2, l, e, o, t⟩ = (H, doneD ⟨1, x, y, 2, l, e, o, t⟩ false) := by simp [move, moveA, found, h0, hkk]
          rw [e1]
          exact mv_act1_found H 0 x y l e o t v lo g q f ty A B w m h0 hn hkk
        · have e1 : move H ⟨2, x, y, 2, l, e, o, t⟩ = (H, ⟨2, x, y, 4, l, e, o, t⟩) := by simp [move, moveA, found, h0, hkk]
          rw [e1]
          exact mv_act2_found H 0 x y l e o t v lo g q f ty A B w m h0 hn hkk
        · have e1 : move H ⟨3, x, y, 2, l, e, o, t⟩ = (H, doneD ⟨3, x, y, 2, l, e, o, t⟩ true) := by simp [move, moveA, found, h0, hkk]
          rw [e1]
          exact mv_act3_found H 0 x y l e o t v lo g q f ty A B w m h0 hn hkk
      · rcases hk with rfl | rfl | rfl
        · have e1 : move H ⟨1, x, y, 2, l, e, o, t⟩ = movePut H ⟨1, x, y, 2, l, e, o, t⟩ := by simp [move, moveA, found, hkk]
          rw [e1]
          exact mv_act1_other H 0 x y l e o t v lo g q f ty A B w m h0 hn hkk ho
        · have e1 : move H ⟨2, x, y, 2, l, e, o, t⟩ = (H, doneD ⟨2, x, y, 2, l, e, o, t⟩ false) := by simp [move, moveA, found, hkk]
          rw [e1]
          exact mv_act2_other H 0 x y l e o t v lo g q f ty A B w m h0 hn hkk
        · have e1 : move H ⟨3, x, y, 2, l, e, o, t⟩ = (H, doneD ⟨3, x, y, 2, l, e, o, t⟩ false) := by simp [move, moveA, found, hkk]
          rw [e1]
          exact mv_act3_other H 0 x y l e o t v lo g q f ty A B w m h0 hn hkk
  · by_cases hsw : swapOk H l e o
    · have e1 : move H ⟨k, x, y, 3, l, e, o, t⟩ = (swapH H l o, doneD ⟨k, x, y, 3, l, e, o, t⟩ true) := by simp [move, moveL, hsw]
      rw [e1]
      exact mv_link H k x y l e o t v lo g q f ty A B w m hsw
    · have e1 : move H ⟨k, x, y, 3, l, e, o, t⟩ = (H, startD ⟨k, x, y, 3, l, e, o, t⟩) := by simp [move, moveL, hsw]
      rw [e1]
      exact mv_link_lost H k x y l e o t v lo g q f ty A B w m hsw
  · have h0 := hm rfl
    cases hg : (nth H e).gone with
    | true =>
      have e1 : move H ⟨k, x, y, 4, l, e, o, t⟩ = (H, startD ⟨k, x, y, 4, l, e, o, t⟩) := by simp [move, moveM, hg]
      rw [e1]
      exact mv_mark_lost H k x y l e o t v lo g q f ty A B w m h0 hn hg
    | false =>
      have e1 : move H ⟨k, x, y, 4, l, e, o, t⟩ = (strike1 H e (nth H e).next, doneD ⟨k, x, y, 4, l, e, o, t⟩ true) := by simp [move, moveM, hg]
      rw [e1]
      exact mv_mark H k x y l e o t v lo g q f ty A B w m h0 hn hg
  · exact mv_done H k x y l e o t v lo g q f ty A B w m
end Go.Proofs.Ytodpbghkjnlfdaa.ce
/- One small move of a right hand beside a right heap keeps both right, and changes who lives only where it says yes. -/
namespace Go.Proofs.Ytodpbghkjnlfdaa.ce
open Go.ChangeShapes Go.WideShapes Go.ChangeAt Go.RowKit
set_option linter.unusedVariables false

def OwnFree (H : List C) (d : Hd) : Prop := d.own = -1 ∨ (d.kind = 1 ∧ (1 ≤ d.own ∧ d.own < (H.length : Int)) ∧ (nth H d.own).key = d.key ∧ (nth H d.own).value = d.value ∧ (d.step = 3 → (nth H d.own).next = d.here) ∧ (nth H d.own).gone = false ∧ d.own ∉ chain H)
theorem way_mk {H : List C} {d : Hd} (h1 : 1 ≤ d.kind ∧ d.kind ≤ 3) (h2 : 1 ≤ d.key ∧ d.key ≤ 65535) (hs : 1 ≤ d.step ∧ d.step ≤ 4) (ht : d.told = 0) (hl : has H d.left) (hk : (nth H d.left).key < d.key) (hx : d.here = -1 ∨ 1 ≤ d.here ∧ d.here < (H.length : Int))
    (inH : 0 ≤ d.here → (nth H d.here).gone = false → d.here ∈ chain H) (inL : (nth H d.left).gone = false → d.left ∈ chain H) (act : d.step = 2 → d.key ≤ there H d) (link : d.step = 3 → d.key < there H d ∧ d.kind = 1 ∧ 0 ≤ d.own) (mark : d.step = 4 → there H d = d.key ∧ d.kind = 2) (own : OwnFree H d) : OkH H d :=
  { kind := h1, key := h2, step := ⟨by omega, by omega⟩, idle := fun e => by omega, way := fun _ => ⟨hl, hk, hx⟩
    told := ⟨⟨fun e => by omega, fun e => absurd ht e⟩, by omega, by omega⟩
    inH := inH, inL := fun _ => inL, act := act, link := link, mark := mark
    own := by
      rcases own with e | ⟨a, b, c, e, f, g⟩
      · exact .inl e
      · exact .inr ⟨a, b, c, e, f, .inr g⟩ }
theorem OkH.free {H : List C} {d : Hd} (h : OkH H d) (hs : d.step ≠ 5) : OwnFree H d := h.own' hs

theorem start_keeps {H : List C} {d : Hd} (hok : heapOk H) (h : OkH H d) (hs : d.step ≠ 5) : Keeps H d H (startD d) :=
  keeps_same hok (start_ok h hs) rfl rfl rfl (fun e => by have := told_of h hs; simp [startD] at e; omega)
theorem no_keeps {H : List C} {d : Hd} (hok : heapOk H) (h : OkH H d) : Keeps H d H (doneD d false) :=
  keeps_same hok (done_ok h false) rfl rfl rfl (fun e => by simp [doneD] at e)

theorem next_fit {H : List C} (hok : heapOk H) {p : Int} (hp : has H p) : (nth H p).next = -1 ∨ 1 ≤ (nth H p).next ∧ (nth H p).next < (H.length : Int) ∧ (nth H p).key < (nth H (nth H p).next).key ∧ has H (nth H p).next := by
  have u := up_ok hok
  rcases u.next p hp with h | h
  · exact .inl h
  · refine .inr ⟨?_, h.1.2, h.2, h.1⟩
    have h0 := h.1.1
    have hk := u.keys p hp
    have h00 := hok.2.1.1
    by_cases hz : (nth H p).next = 0
    · have h1 := h.2
      rw [hz, h00] at h1
      omega
    · omega
theorem zero_in {H : List C} (u : Up H) : (0 : Int) ∈ chain H := by obtain ⟨L, e, -⟩ := chain_head u; rw [e]; simp

theorem move_0 {H : List C} {d : Hd} (hok : heapOk H) (h : OkH H d) (hs : d.step = 0) : Keeps H d (move H d).1 (move H d).2 := by
  have u := up_ok hok
  have hs5 : d.step ≠ 5 := by omega
  have T := told_of h hs5
  have F := h.free hs5
  obtain ⟨k, x, y, s, l, e, o, t⟩ := d
  simp only at hs T
  subst hs T
  show Keeps H _ H ⟨k, x, y, 1, 0, (nth H 0).next, o, 0⟩
  have h0 := has_zero u
  have hin := zero_in u
  refine keeps_same hok (way_mk h.kind h.key ⟨by simp, by simp⟩ rfl h0 ?_ ?_ (fun hp _ => chain_next u hin hp) (fun _ => hin) (fun e => by simp at e) (fun e => by simp at e) (fun e => by simp at e) ?_) rfl rfl rfl (fun e => by simp at e)
  · have h1 := hok.2.1.1
    have h2 := h.key
    simp only at h2 ⊢
    omega
  · rcases next_fit hok h0 with e | e
    · exact .inl e
    · exact .inr ⟨e.1, e.2.1⟩
  · rcases F with F | ⟨a, b, c, f, g, z⟩
    · exact .inl F
    · exact .inr ⟨a, b, c, f, fun e => by simp at e, z⟩

theorem move_1 {H : List C} {d : Hd} (hok : heapOk H) (h : OkH H d) (hs : d.step = 1) : Keeps H d (move H d).1 (move H d).2 := by
  have u := up_ok hok
  have hs5 : d.step ≠ 5 := by omega
  have T := told_of h hs5
  have F := h.free hs5
  have W := h.way (by omega)
  have em : move H d = moveW H d := by unfold move; rw [if_neg (by omega), if_pos hs]
  rw [em]
  unfold moveW
  by_cases hst : stops H d
  · rw [if_pos hst]
    obtain ⟨k, x, y, s, l, e, o, t⟩ := d
    simp only at hs T W
    subst hs T
    refine keeps_same hok (way_mk h.kind h.key ⟨by simp, by simp⟩ rfl W.1 W.2.1 W.2.2 h.inH (fun g => h.inL W.1.1 g) (fun _ => ?_) (fun e => by simp at e) (fun e => by simp at e) ?_) rfl rfl rfl (fun e => by simp at e)
    · have hk := h.key
      unfold there
      simp only at hk ⊢
      rcases hst with e' | e'
      · simp only at e'
        subst e'
        rw [if_neg (by omega)]
        omega
      · simp only at e'
        split
        · exact e'.2
        · omega
    · rcases F with F | ⟨a, b, c, f, g, z⟩
      · exact .inl F
      · exact .inr ⟨a, b, c, f, fun e => by simp at e, z⟩
  · rw [if_neg hst]
    have hh : 1 ≤ d.here ∧ d.here < (H.length : Int) := by
      rcases W.2.2 with e | e
      · exact absurd (.inl e) hst
      · exact e
    have hhas : has H d.here := ⟨by omega, hh.2⟩
    by_cases hg : (nth H d.here).gone = true
    · rw [if_pos hg]
      by_cases hsw : swapOk H d.left d.here (nth H d.here).next
      · rw [if_pos hsw]
        obtain ⟨i, hi0, hi⟩ := has_nat W.1
        have hgl := hsw.1.2.1
        have hnl := hsw.1.2.2
        have hin : d.left ∈ chain H := h.inL W.1.1 hgl
        rw [hi0] at hsw hin hnl hgl ⊢
        have hok' := heapOk_swap hok i hi _ _ hsw
        have u' := up_ok hok'
        obtain ⟨A, B, e1, e2⟩ := pass_chain hok i hi d.here hin hnl (by omega) hok'
        have hsub : ∀ z, z ∈ chain (swapH H i (nth H d.here).next) → z ∈ chain H := fun z hz => by
          rw [e2] at hz; rw [e1]
          rcases List.mem_append.1 hz with q | q
          · exact List.mem_append.2 (.inl q)
          · rcases List.mem_cons.1 q with q | q
            · exact List.mem_append.2 (.inr (by rw [q]; simp))
            · exact List.mem_append.2 (.inr (by simp [q]))
        have hin' : (i : Int) ∈ chain (swapH H i (nth H d.here).next) := by rw [e2]; simp
        have hnx : (nth (swapH H i (nth H d.here).next) i).next = (nth H d.here).next := swapH_next_same H i hi _
        have nf := fun p => swapH_nth H i hi (nth H d.here).next p
        refine ⟨hok', way_mk (H := swapH H i (nth H d.here).next) h.kind h.key ⟨by simp [hs], by simp [hs]⟩ T ?_ ?_ ?_ (fun hp _ => ?_) (fun _ => ?_) (fun e => by simp [hs] at e) (fun e => by simp [hs] at e) (fun e => by simp [hs] at e) ?_, rfl, rfl, rfl, .inr ⟨fun e => by simp at e; omega, pass_living hok i hi d.here hin hnl (by omega) hg hok'⟩⟩
        · simp only
          exact ⟨by omega, by rw [swapH_len]; omega⟩
        · simp only
          rw [(nf i).1, ← hi0]
          exact W.2.1
        · simp only [swapH_len]
          rcases next_fit hok hhas with e | e
          · exact .inl e
          · exact .inr ⟨e.1, e.2.1⟩
        · have := chain_next u' hin' (by rw [hnx]; exact hp)
          rw [hnx] at this
          exact this
        · simp only
          exact hin'
        · rcases F with F | ⟨a, b, c, f, g, z1, z2⟩
          · exact .inl F
          · refine .inr ⟨a, by rw [swapH_len]; exact b, ?_, ?_, fun e => by simp [hs] at e, ?_, fun q => z2 (hsub _ q)⟩
            · rw [(nf _).1]; exact c
            · rw [(nf _).2.1]; exact f
            · rw [(nf _).2.2]; exact z1
      · rw [if_neg hsw]
        exact start_keeps hok h hs5
    · rw [if_neg hg]
      have hg' : (nth H d.here).gone = false := by simpa using hg
      have hin := h.inH (by omega) hg'
      have hlt : (nth H d.here).key < d.key := by
        have : ¬ d.key ≤ (nth H d.here).key := fun q => hst (.inr ⟨hg', q⟩)
        omega
      refine keeps_same hok (way_mk h.kind h.key ⟨by simp [hs], by simp [hs]⟩ T hhas hlt ?_ (fun hp _ => chain_next u hin hp) (fun _ => hin) (fun e => by simp [hs] at e) (fun e => by simp [hs] at e) (fun e => by simp [hs] at e) ?_) rfl rfl rfl (fun e => by simp at e; omega)
      · rcases next_fit hok hhas with e | e
        · exact .inl e
        · exact .inr ⟨e.1, e.2.1⟩
      · rcases F with F | ⟨a, b, c, f, g, z⟩
        · exact .inl F
        · exact .inr ⟨a, b, c, f, fun e => by simp [hs] at e, z⟩

theorem done_mk {H : List C} {d : Hd} (h1 : 1 ≤ d.kind ∧ d.kind ≤ 3) (h2 : 1 ≤ d.key ∧ d.key ≤ 65535) (yes : Bool) (own : d.own = -1 ∨ (d.kind = 1 ∧ (1 ≤ d.own ∧ d.own < (H.length : Int)) ∧ (nth H d.own).key = d.key ∧ (nth H d.own).value = d.value)) : OkH H (doneD d yes) :=
  { kind := h1, key := h2, step := ⟨by simp [doneD], by simp [doneD]⟩, idle := fun _ => ⟨rfl, rfl⟩, way := fun hn => absurd (.inr rfl) hn
    told := ⟨by simp only [doneD]; cases yes <;> simp, by simp only [doneD]; cases yes <;> simp, by simp only [doneD]; cases yes <;> simp⟩
    inH := fun h0 => by simp [doneD] at h0
    inL := fun h0 => by simp [doneD] at h0
    act := fun e => by simp [doneD] at e
    link := fun e => by simp [doneD] at e
    mark := fun e => by simp [doneD] at e
    own := by
      rcases own with e | ⟨a, b, c, e⟩
      · exact .inl e
      · exact .inr ⟨a, b, c, e, fun e => by simp [doneD] at e, .inl rfl⟩ }

theorem move_put {H : List C} {d : Hd} (hok : heapOk H) (h : OkH H d) (hs : d.step = 2) (hk : d.kind = 1) (hf : ¬ found H d) : Keeps H d (movePut H d).1 (movePut H d).2 := by
  have u := up_ok hok
  have hs5 : d.step ≠ 5 := by omega
  have T := told_of h hs5
  have F := h.free hs5
  have W := h.way (by omega)
  have ha := h.act hs
  have hth : d.key < there H d := by
    unfold there at ha ⊢
    have hkk := h.key
    by_cases h0 : 0 ≤ d.here
    · rw [if_pos h0] at ha ⊢
      have : ¬ (nth H d.here).key = d.key := fun e => hf ⟨h0, e⟩
      omega
    · rw [if_neg h0]; omega
  have hhas : 0 ≤ d.here → has H d.here := fun h0 => by
    rcases W.2.2 with e | e
    · omega
    · exact ⟨h0, e.2⟩
  unfold movePut
  by_cases ho : d.own < 0
  · rw [if_pos ho]
    by_cases hN : freshN H d.key d.value d.here < 0
    · rw [if_pos hN]
      exact no_keeps hok h
    · rw [if_neg hN]
      obtain ⟨eN, eH, hok'⟩ := (fresh_two H d.key d.value d.here).resolve_left (by omega)
      rw [eN, eH]
      have ec := fresh_chain hok (cell d.key d.value d.here) hok'
      have hlast : nth (H ++ [cell d.key d.value d.here]) (H.length : Int) = cell d.key d.value d.here := by
        have := nth_nat (H ++ [cell d.key d.value d.here]) H.length (by simp)
        rw [this]; simp
      have hleft : nth (H ++ [cell d.key d.value d.here]) d.left = nth H d.left := nth_snoc H _ _ W.1
      have hhere : 0 ≤ d.here → nth (H ++ [cell d.key d.value d.here]) d.here = nth H d.here := fun h0 => nth_snoc H _ _ (hhas h0)
      refine ⟨hok', way_mk (H := H ++ [cell d.key d.value d.here]) h.kind h.key ⟨by simp, by simp⟩ T ?_ ?_ ?_ (fun hp hg => ?_) (fun hg => ?_) (fun e => by simp at e) (fun _ => ⟨?_, hk, ?_⟩) (fun e => by simp at e) ?_, rfl, rfl, rfl, .inr ⟨fun e => by simp at e; omega, fresh_living hok _ hok'⟩⟩
      · exact ⟨W.1.1, by rw [snoc_len]; have := W.1.2; show d.left < _; omega⟩
      · show (nth (H ++ [cell d.key d.value d.here]) d.left).key < d.key
        rw [hleft]; exact W.2.1
      · rcases W.2.2 with e | e
        · exact .inl e
        · exact .inr ⟨e.1, by rw [snoc_len]; show d.here < _; omega⟩
      · rw [ec]
        simp only at hp hg ⊢
        rw [hhere hp] at hg
        exact h.inH hp hg
      · rw [ec]
        simp only at hg ⊢
        rw [hleft] at hg
        exact h.inL W.1.1 hg
      · unfold there at hth ⊢
        simp only
        split
        · rename_i h0
          rw [hhere h0]
          rw [if_pos h0] at hth
          exact hth
        · have := h.key; omega
      · simp only; omega
      · refine .inr ⟨hk, ⟨by simp only; have := hok.1.1; omega, by rw [snoc_len]; simp only; omega⟩, ?_, ?_, fun _ => ?_, ?_, fun hm => ?_⟩
        · simp only; rw [hlast]; rfl
        · simp only; rw [hlast]; rfl
        · simp only; rw [hlast]; rfl
        · simp only; rw [hlast]; rfl
        · simp only at hm
          rw [ec] at hm
          have := (chain_hasX u hm).2
          omega
  · rw [if_neg ho]
    rcases F with F | ⟨a, b, c, f, g, z1, z2⟩
    · omega
    obtain ⟨i, hi0, hi⟩ := has_nat (H := H) (p := d.own) ⟨by omega, b.2⟩
    rw [hi0] at b c f g z1 z2 ⊢
    have en := nth_nat H i hi
    have hlead : leads H d.key d.here := by
      unfold there at hth
      rcases W.2.2 with e | e
      · exact .inl e
      · rw [if_pos (by omega)] at hth
        exact .inr ⟨⟨by omega, e.2⟩, hth⟩
    have hok' : heapOk (swapH H i d.here) := by
      have := heapOk_set hok i hi { nth H i with next := d.here } (by rw [en]) (fun e => by omega) (by show leads H (nth H i).key d.here; rw [c]; exact hlead)
      unfold swapH
      simpa using this
    have ec := outside_chain hok i d.here z2 hok'
    have nf := fun p => swapH_nth H i hi d.here p
    refine ⟨hok', way_mk (H := swapH H i d.here) h.kind h.key ⟨by simp, by simp⟩ T ?_ ?_ ?_ (fun hp hg => ?_) (fun hg => ?_) (fun e => by simp at e) (fun _ => ⟨?_, hk, ?_⟩) (fun e => by simp at e) ?_, rfl, rfl, rfl, .inr ⟨fun e => by simp at e; omega, outside_living hok i hi d.here z2 hok'⟩⟩
    · exact ⟨W.1.1, by rw [swapH_len]; exact W.1.2⟩
    · simp only; rw [(nf _).1]; exact W.2.1
    · rw [swapH_len]; exact W.2.2
    · rw [ec]
      simp only at hp hg ⊢
      rw [(nf _).2.2] at hg
      exact h.inH hp hg
    · rw [ec]
      simp only at hg ⊢
      rw [(nf _).2.2] at hg
      exact h.inL W.1.1 hg
    · unfold there at hth ⊢
      simp only
      rw [(nf _).1]
      exact hth
    · simp only; omega
    · refine .inr ⟨hk, ⟨by simp only; omega, by rw [swapH_len]; simp only; omega⟩, ?_, ?_, fun _ => ?_, ?_, fun hm => ?_⟩
      · simp only; rw [(nf _).1]; exact c
      · simp only; rw [(nf _).2.1]; exact f
      · simp only; exact swapH_next_same H i hi _
      · simp only; rw [(nf _).2.2]; exact z1
      · simp only at hm
        rw [ec] at hm
        exact z2 hm

theorem move_2 {H : List C} {d : Hd} (hok : heapOk H) (h : OkH H d) (hs : d.step = 2) : Keeps H d (move H d).1 (move H d).2 := by
  have hs5 : d.step ≠ 5 := by omega
  have T := told_of h hs5
  have F := h.free hs5
  have W := h.way (by omega)
  have em : move H d = moveA H d := by unfold move; rw [if_neg (by omega), if_neg (by omega), if_pos hs]
  rw [em]
  unfold moveA
  by_cases h3 : d.kind = 3
  · rw [if_pos h3]
    exact keeps_same hok (done_ok h _) rfl rfl rfl (fun _ => .inr h3)
  · rw [if_neg h3]
    by_cases hn : d.kind = 1 ∧ found H d ∨ d.kind = 2 ∧ ¬ found H d
    · rw [if_pos hn]
      exact no_keeps hok h
    · rw [if_neg hn]
      by_cases h1 : d.kind = 1
      · rw [if_pos h1]
        exact move_put hok h hs h1 (fun q => hn (.inl ⟨h1, q⟩))
      · rw [if_neg h1]
        have hkd := h.kind
        have h2 : d.kind = 2 := by omega
        have hf : found H d := Decidable.byContradiction fun q => hn (.inr ⟨h2, q⟩)
        refine keeps_same hok (way_mk h.kind h.key ⟨by simp, by simp⟩ T W.1 W.2.1 W.2.2 h.inH (fun g => h.inL W.1.1 g) (fun e => by simp at e) (fun e => by simp at e) (fun _ => ⟨?_, h2⟩) ?_) rfl rfl rfl (fun e => by simp at e; omega)
        · unfold there
          simp only
          rw [if_pos hf.1]
          exact hf.2
        · rcases F with F | ⟨a, b, c, f, g, z⟩
          · exact .inl F
          · exact .inr ⟨a, b, c, f, fun e => by simp at e, z⟩

theorem move_3 {H : List C} {d : Hd} (hok : heapOk H) (h : OkH H d) (hs : d.step = 3) : Keeps H d (move H d).1 (move H d).2 := by
  have u := up_ok hok
  have hs5 : d.step ≠ 5 := by omega
  have F := h.free hs5
  have W := h.way (by omega)
  have hl := h.link hs
  have em : move H d = moveL H d := by unfold move; rw [if_neg (by omega), if_neg (by omega), if_neg (by omega), if_pos hs]
  rw [em]
  unfold moveL
  by_cases hsw : swapOk H d.left d.here d.own
  · rw [if_pos hsw]
    obtain ⟨i, hi0, hi⟩ := has_nat W.1
    have hgl := hsw.1.2.1
    have hnl := hsw.1.2.2
    have hin : d.left ∈ chain H := h.inL W.1.1 hgl
    rcases F with F | ⟨a, b, c, f, g, z1, z2⟩
    · omega
    have hne : d.own ≠ d.left := fun e => z2 (by rw [e]; exact hin)
    rw [hi0] at hsw hin hnl hgl hne ⊢
    have hok' := heapOk_swap hok i hi _ _ hsw
    have nf := fun p => swapH_nth H i hi d.own p
    refine ⟨hok', done_mk h.kind h.key true (.inr ⟨a, by rw [swapH_len]; exact b, by rw [(nf _).1]; exact c, by rw [(nf _).2.1]; exact f⟩), rfl, rfl, rfl, .inl ⟨rfl, hs5, by omega, .inl ⟨a, ?_⟩⟩⟩
    have := link_living hok i hi d.own (by omega) hin (by rw [g hs, hnl]) hne z1 hok'
    rw [c] at this
    exact this
  · rw [if_neg hsw]
    exact start_keeps hok h hs5

theorem move_4 {H : List C} {d : Hd} (hok : heapOk H) (h : OkH H d) (hs : d.step = 4) : Keeps H d (move H d).1 (move H d).2 := by
  have u := up_ok hok
  have hs5 : d.step ≠ 5 := by omega
  have F := h.free hs5
  have W := h.way (by omega)
  have hm := h.mark hs
  have em : move H d = moveM H d := by unfold move; rw [if_neg (by omega), if_neg (by omega), if_neg (by omega), if_neg (by omega), if_pos hs]
  rw [em]
  unfold moveM
  by_cases hg : (nth H d.here).gone = true
  · rw [if_pos hg]
    exact start_keeps hok h hs5
  · rw [if_neg hg]
    have hg' : (nth H d.here).gone = false := by simpa using hg
    have hkk := h.key
    have h0 : 0 ≤ d.here := by
      have := hm.1
      unfold there at this
      by_cases e : 0 ≤ d.here
      · exact e
      · rw [if_neg e] at this; omega
    have hh : 1 ≤ d.here ∧ d.here < (H.length : Int) := by
      rcases W.2.2 with e | e
      · omega
      · exact e
    have hkey : (nth H d.here).key = d.key := by have := hm.1; unfold there at this; rw [if_pos h0] at this; exact this
    have hst : strikeOk H d.here (nth H d.here).next := ⟨by omega, ⟨h0, hh.2⟩, hg', rfl⟩
    rw [(strike_yes hst).2]
    obtain ⟨i, hi0, hi⟩ := has_nat (H := H) (p := d.here) ⟨h0, hh.2⟩
    have hin := h.inH h0 hg'
    rw [hi0] at hst hin hkey ⊢
    have hok' := heapOk_strike hok i hi _ hst
    have hown : d.own = -1 := by
      rcases F with F | ⟨a, -⟩
      · exact F
      · omega
    refine ⟨hok', done_mk h.kind h.key true (.inl hown), rfl, rfl, rfl, .inl ⟨rfl, hs5, by omega, .inr ⟨hm.2, ?_⟩⟩⟩
    have := strike_living hok i hi hin hok'
    rw [hkey] at this
    exact this

/-- one small move -/
theorem move_keeps {H : List C} {d : Hd} (hok : heapOk H) (h : OkH H d) : Keeps H d (move H d).1 (move H d).2 := by
  have hs := h.step
  rcases (by omega : d.step = 0 ∨ d.step = 1 ∨ d.step = 2 ∨ d.step = 3 ∨ d.step = 4 ∨ d.step = 5) with e | e | e | e | e | e
  · exact move_0 hok h e
  · exact move_1 hok h e
  · exact move_2 hok h e
  · exact move_3 hok h e
  · exact move_4 hok h e
  · have em : move H d = (H, d) := by unfold move; rw [if_neg (by omega), if_neg (by omega), if_neg (by omega), if_neg (by omega), if_neg (by omega)]
    rw [em]
    exact keeps_same hok h rfl rfl rfl (fun _ => .inl e)
end Go.Proofs.Ytodpbghkjnlfdaa.ce
/- What a move of one hand leaves of the others, and who lives behind it: plain mathematics for many hands. -/
namespace Go.Proofs.Ytodpbghkjnlfdaa.ce
open Go.ChangeShapes Go.WideShapes Go.ChangeAt Go.RowKit
set_option linter.unusedVariables false

/-- the heap H' came out of H by moves of a hand whose own cell is o -/
structure Later (H H' : List C) (o : Int) : Prop where
  len : H.length ≤ H'.length
  key : ∀ p, has H p → (nth H' p).key = (nth H p).key ∧ (nth H' p).value = (nth H p).value
  gone : ∀ p, has H p → (nth H' p).gone = false → (nth H p).gone = false
  stays : ∀ p, p ∈ chain H → (nth H' p).gone = false → p ∈ chain H'
  out : ∀ p, has H p → p ∉ chain H → p ≠ o → p ∉ chain H' ∧ (nth H' p).gone = (nth H p).gone ∧ (nth H' p).next = (nth H p).next
theorem later_refl (H : List C) (o : Int) : Later H H o := ⟨Nat.le_refl _, fun _ _ => ⟨rfl, rfl⟩, fun _ _ h => h, fun _ h _ => h, fun _ _ h _ => ⟨h, rfl, rfl⟩⟩

theorem later_ok {H H' : List C} {o : Int} {b : Hd} (u : Up H) (l : Later H H' o) (h : OkH H b) (hb : b.own = -1 ∨ b.own ≠ o) : OkH H' b := by
  have hl := l.len
  have hw : 0 ≤ b.here → has H b.here := fun h0 => by
    by_cases hs : b.step = 0 ∨ b.step = 5
    · have := (h.idle hs).2; omega
    · rcases (h.way hs).2.2 with e | e
      · omega
      · exact ⟨h0, e.2⟩
  have hv : 0 ≤ b.left → has H b.left := fun h0 => by
    by_cases hs : b.step = 0 ∨ b.step = 5
    · have := (h.idle hs).1; omega
    · exact (h.way hs).1
  have ht : there H' b = there H b := by
    unfold there
    split
    · rename_i h0; exact (l.key _ (hw h0)).1
    · rfl
  exact
  { kind := h.kind, key := h.key, step := h.step, idle := h.idle, told := h.told
    way := fun hs => by
      obtain ⟨h1, h2, h3⟩ := h.way hs
      refine ⟨⟨h1.1, by have := h1.2; omega⟩, by rw [(l.key _ h1).1]; exact h2, ?_⟩
      rcases h3 with e | e
      · exact .inl e
      · exact .inr ⟨e.1, by omega⟩
    inH := fun h0 hg => l.stays _ (h.inH h0 (l.gone _ (hw h0) hg)) hg
    inL := fun h0 hg => l.stays _ (h.inL h0 (l.gone _ (hv h0) hg)) hg
    act := fun e => by rw [ht]; exact h.act e
    link := fun e => by rw [ht]; exact h.link e
    mark := fun e => by rw [ht]; exact h.mark e
    own := by
      rcases h.own with e | ⟨a, b1, c, e, f, g⟩
      · exact .inl e
      · have hh : has H b.own := ⟨by omega, b1.2⟩
        have hne : b.own ≠ o := by rcases hb with q | q; (· omega); (· exact q)
        refine .inr ⟨a, ⟨b1.1, by omega⟩, by rw [(l.key _ hh).1]; exact c, by rw [(l.key _ hh).2]; exact e, fun e3 => ?_, ?_⟩
        · rcases g with g | g
          · omega
          · rw [(l.out _ hh g.2 hne).2.2]; exact f e3
        · rcases g with g | g
          · exact .inl g
          · obtain ⟨q1, q2, q3⟩ := l.out _ hh g.2 hne
            exact .inr ⟨by rw [q2]; exact g.1, q1⟩ }

theorem later_pass {H : List C} (hok : heapOk H) (i : Nat) (hi : i < H.length) (x o : Int) (hin : (i : Int) ∈ chain H) (hx : (nth H i).next = x) (hx0 : 0 ≤ x) (hg : (nth H x).gone = true) (hok' : heapOk (swapH H i (nth H x).next)) : Later H (swapH H i (nth H x).next) o := by
  obtain ⟨A, B, e1, e2⟩ := pass_chain hok i hi x hin hx hx0 hok'
  have nf := fun p => swapH_nth H i hi (nth H x).next p
  refine ⟨by rw [swapH_len]; exact Nat.le_refl _, fun p _ => ⟨(nf p).1, (nf p).2.1⟩, fun p _ h => by rw [(nf p).2.2] at h; exact h, fun p hp h => ?_, fun p hp hn _ => ⟨fun hm => hn ?_, (nf p).2.2, swapH_next H i _ p (fun e => hn ?_)⟩⟩
  · rw [(nf p).2.2] at h
    rw [e1] at hp
    rw [e2]
    have hpx : p ≠ x := fun e => by rw [e, hg] at h; cases h
    simp only [List.mem_append, List.mem_cons] at hp ⊢
    rcases hp with q | q | q | q
    · exact .inl q
    · exact .inr (.inl q)
    · exact absurd q hpx
    · exact .inr (.inr q)
  · rw [e2] at hm
    rw [e1]
    simp only [List.mem_append, List.mem_cons] at hm ⊢
    rcases hm with q | q | q
    · exact .inl q
    · exact .inr (.inl q)
    · exact .inr (.inr (.inr q))
  · have : p = (i : Int) := by have := hp.1; omega
    rw [this]; exact hin
theorem later_link {H : List C} (hok : heapOk H) (i : Nat) (hi : i < H.length) (o : Int) (ho : 0 ≤ o) (hin : (i : Int) ∈ chain H) (hon : (nth H o).next = (nth H i).next) (hoi : o ≠ i) (hok' : heapOk (swapH H i o)) : Later H (swapH H i o) o := by
  obtain ⟨A, B, e1, e2⟩ := link_chain hok i hi o ho hin hon hoi hok'
  have nf := fun p => swapH_nth H i hi o p
  refine ⟨by rw [swapH_len]; exact Nat.le_refl _, fun p _ => ⟨(nf p).1, (nf p).2.1⟩, fun p _ h => by rw [(nf p).2.2] at h; exact h, fun p hp h => ?_, fun p hp hn hpo => ⟨fun hm => hn ?_, (nf p).2.2, swapH_next H i _ p (fun e => hn ?_)⟩⟩
  · rw [e1] at hp
    rw [e2]
    simp only [List.mem_append, List.mem_cons] at hp ⊢
    rcases hp with q | q | q
    · exact .inl q
    · exact .inr (.inl q)
    · exact .inr (.inr (.inr q))
  · rw [e2] at hm
    rw [e1]
    simp only [List.mem_append, List.mem_cons] at hm ⊢
    rcases hm with q | q | q | q
    · exact .inl q
    · exact .inr (.inl q)
    · exact absurd q hpo
    · exact .inr (.inr q)
  · have : p = (i : Int) := by have := hp.1; omega
    rw [this]; exact hin
theorem later_strike {H : List C} (hok : heapOk H) (i : Nat) (hi : i < H.length) (o : Int) (hin : (i : Int) ∈ chain H) (hok' : heapOk (strikeH H i)) : Later H (strikeH H i) o := by
  have ec := strike_chain hok i hi hok'
  have nf := fun p => strikeH_nth H i hi p
  refine ⟨by rw [strikeH_len]; exact Nat.le_refl _, fun p _ => ⟨(nf p).1, (nf p).2.1⟩, fun p _ h => ?_, fun p hp h => by rw [ec]; exact hp, fun p hp hn _ => ⟨by rw [ec]; exact hn, ?_, (nf p).2.2.1⟩⟩
  · rw [(nf p).2.2.2] at h
    split at h
    · cases h
    · exact h
  · rw [(nf p).2.2.2, if_neg]
    intro e
    apply hn
    have : p = (i : Int) := by have := hp.1; omega
    rw [this]; exact hin
theorem later_fresh {H : List C} (hok : heapOk H) (c : C) (o : Int) (hok' : heapOk (H ++ [c])) : Later H (H ++ [c]) o := by
  have ec := fresh_chain hok c hok'
  exact ⟨by simp, fun p hp => by rw [nth_snoc H c p hp]; exact ⟨rfl, rfl⟩, fun p hp h => by rw [nth_snoc H c p hp] at h; exact h, fun p hp _ => by rw [ec]; exact hp, fun p hp hn _ => by rw [ec, nth_snoc H c p hp]; exact ⟨hn, rfl, rfl⟩⟩
theorem later_outside {H : List C} (hok : heapOk H) (i : Nat) (hi : i < H.length) (z : Int) (hout : (i : Int) ∉ chain H) (hok' : heapOk (swapH H i z)) : Later H (swapH H i z) (i : Int) := by
  have ec := outside_chain hok i z hout hok'
  have nf := fun p => swapH_nth H i hi z p
  refine ⟨by rw [swapH_len]; exact Nat.le_refl _, fun p _ => ⟨(nf p).1, (nf p).2.1⟩, fun p _ h => by rw [(nf p).2.2] at h; exact h, fun p hp h => by rw [ec]; exact hp, fun p hp hn hpo => ⟨by rw [ec]; exact hn, (nf p).2.2, swapH_next H i _ p (fun e => hpo ?_)⟩⟩
  have := hp.1
  omega

/-- what a move leaves of the others -/
theorem move_later {H : List C} {d : Hd} (hok : heapOk H) (h : OkH H d) : Later H (move H d).1 d.own := by
  have hs := h.step
  unfold move
  by_cases e0 : d.step = 0
  · rw [if_pos e0]; exact later_refl _ _
  rw [if_neg e0]
  by_cases e5 : d.step = 5
  · rw [if_neg (by omega), if_neg (by omega), if_neg (by omega), if_neg (by omega)]; exact later_refl _ _
  have W := h.way (by omega)
  have F := h.free e5
  obtain ⟨i, hi0, hi⟩ := has_nat W.1
  by_cases e1 : d.step = 1
  · rw [if_pos e1]
    unfold moveW
    by_cases hst : stops H d
    · rw [if_pos hst]; exact later_refl _ _
    · rw [if_neg hst]
      by_cases hg : (nth H d.here).gone = true
      · rw [if_pos hg]
        by_cases hsw : swapOk H d.left d.here (nth H d.here).next
        · rw [if_pos hsw]
          have hin : d.left ∈ chain H := h.inL W.1.1 hsw.1.2.1
          have hnl := hsw.1.2.2
          rw [hi0] at hsw hin hnl ⊢
          have hx0 : 0 ≤ d.here := by
            rcases W.2.2 with e | e
            · exact absurd (.inl e) hst
            · omega
          exact later_pass hok i hi d.here _ hin hnl hx0 hg (heapOk_swap hok i hi _ _ hsw)
        · rw [if_neg hsw]; exact later_refl _ _
      · rw [if_neg hg]; exact later_refl _ _
  rw [if_neg e1]
  by_cases e2 : d.step = 2
  · rw [if_pos e2]
    unfold moveA
    by_cases h3 : d.kind = 3
    · rw [if_pos h3]; exact later_refl _ _
    rw [if_neg h3]
    by_cases hn : d.kind = 1 ∧ found H d ∨ d.kind = 2 ∧ ¬ found H d
    · rw [if_pos hn]; exact later_refl _ _
    rw [if_neg hn]
    by_cases h1 : d.kind = 1
    · rw [if_pos h1]
      have K := (move_put hok h e2 h1 (fun q => hn (.inl ⟨h1, q⟩))).heap
      unfold movePut at K ⊢
      by_cases ho : d.own < 0
      · rw [if_pos ho] at K ⊢
        by_cases hN : freshN H d.key d.value d.here < 0
        · rw [if_pos hN]; exact later_refl _ _
        · rw [if_neg hN]
          obtain ⟨eN, eH, hok'⟩ := (fresh_two H d.key d.value d.here).resolve_left (by omega)
          show Later H (freshH H d.key d.value d.here) d.own
          rw [eH]
          exact later_fresh hok _ _ hok'
      · rw [if_neg ho] at K ⊢
        rcases F with F | ⟨a, b, c, f, g, z1, z2⟩
        · omega
        obtain ⟨j, hj0, hj⟩ := has_nat (H := H) (p := d.own) ⟨by omega, b.2⟩
        rw [hj0] at z2 K ⊢
        exact later_outside hok j hj _ z2 K
    · rw [if_neg h1]; exact later_refl _ _
  rw [if_neg e2]
  by_cases e3 : d.step = 3
  · rw [if_pos e3]
    unfold moveL
    by_cases hsw : swapOk H d.left d.here d.own
    · rw [if_pos hsw]
      have hin : d.left ∈ chain H := h.inL W.1.1 hsw.1.2.1
      have hnl := hsw.1.2.2
      rcases F with F | ⟨a, b, c, f, g, z1, z2⟩
      · have := (h.link e3).2.2; omega
      have hne : d.own ≠ d.left := fun e => z2 (by rw [e]; exact hin)
      rw [hi0] at hsw hin hnl hne ⊢
      exact later_link hok i hi d.own (by omega) hin (by rw [g e3, hnl]) hne (heapOk_swap hok i hi _ _ hsw)
    · rw [if_neg hsw]; exact later_refl _ _
  rw [if_neg e3, if_pos (by omega)]
  have e4 : d.step = 4 := by omega
  have K := (move_4 hok h e4).heap
  have em : move H d = moveM H d := by unfold move; rw [if_neg (by omega), if_neg (by omega), if_neg (by omega), if_neg (by omega), if_pos e4]
  rw [em] at K
  unfold moveM at K ⊢
  by_cases hg : (nth H d.here).gone = true
  · rw [if_pos hg]; exact later_refl _ _
  · rw [if_neg hg] at K ⊢
    have hg' : (nth H d.here).gone = false := by simpa using hg
    by_cases hst : strikeOk H d.here (nth H d.here).next
    · rw [(strike_yes hst).2] at K ⊢
      have hin := h.inH hst.2.1.1 hg'
      obtain ⟨j, hj0, hj⟩ := has_nat hst.2.1
      rw [hj0] at hin K ⊢
      exact later_strike hok j hj _ hin K
    · rw [(strike_no hst).2]; exact later_refl _ _
/-- the other hands stay right -/
theorem move_others {H : List C} {d b : Hd} (hok : heapOk H) (h : OkH H d) (hb : OkH H b) (hne : b.own = -1 ∨ b.own ≠ d.own) : OkH (move H d).1 b := later_ok (up_ok hok) (move_later hok h) hb hne
end Go.Proofs.Ytodpbghkjnlfdaa.ce
/- Who lives behind a move, as a set; and where a hand stands solid: plain mathematics. -/
namespace Go.Proofs.Ytodpbghkjnlfdaa.ce
open Go.ChangeShapes Go.WideShapes Go.ChangeAt Go.RowKit
set_option linter.unusedVariables false

/-- the keys of a chain that is cut at one of its cells: smaller ahead, greater behind -/
theorem cut_keys {H : List C} (u : Up H) {A B : List Int} {x : Int} (e : chain H = A ++ x :: B) : (∀ y ∈ A, (nth H y).key < (nth H x).key) ∧ ∀ y ∈ B, (nth H x).key < (nth H y).key := by
  have hp := chain_pw u
  rw [e] at hp
  obtain ⟨h1, h2, h3⟩ := List.pairwise_append.1 hp
  exact ⟨fun y hy => h3 y hy x List.mem_cons_self, fun y hy => (List.pairwise_cons.1 h2).1 y hy⟩
/-- between a cell of the chain and its Next there is no key -/
theorem no_key_between {H : List C} (u : Up H) {l k : Int} (hin : l ∈ chain H) (h1 : (nth H l).key < k) (h2 : (nth H l).next = -1 ∨ k < (nth H (nth H l).next).key) : ∀ x ∈ chain H, (nth H x).key ≠ k := by
  obtain ⟨A, B, e, hB⟩ := ch_split (chain_ch u) hin
  obtain ⟨c1, c2⟩ := cut_keys u e
  intro x hx hk
  rw [e] at hx
  rcases List.mem_append.1 hx with q | q
  · have := c1 x q; omega
  · rcases List.mem_cons.1 q with q | q
    · subst q; omega
    · cases B with
      | nil => cases q
      | cons b B =>
        have hb := hB.1
        have hb0 := hB.2.1
        rcases h2 with h2 | h2
        · omega
        · rw [hb] at h2
          rcases List.mem_cons.1 q with q | q
          · subst q; omega
          · have e2 : chain H = (A ++ [l]) ++ b :: B := by rw [e]; simp
            have := (cut_keys u e2).2 x q
            omega
theorem not_living {H : List C} {k : Int} (h : ∀ x ∈ chain H, (nth H x).key ≠ k) : k ∉ living H := fun hm => by
  obtain ⟨x, h1, -, h3⟩ := mem_living.1 hm
  exact h x (List.mem_of_mem_drop h1) h3
theorem is_living {H : List C} (hok : heapOk H) {x : Int} (hin : x ∈ chain H) (h0 : x ≠ 0) (hg : (nth H x).gone = false) : (nth H x).key ∈ living H := by
  obtain ⟨L, e, -⟩ := chain_head (up_ok hok)
  refine mem_living.2 ⟨x, ?_, hg, rfl⟩
  rw [e] at hin ⊢
  rcases List.mem_cons.1 hin with q | q
  · exact absurd q h0
  · simpa using q
theorem link_others {H : List C} (hok : heapOk H) (i : Nat) (hi : i < H.length) (o : Int) (ho : 0 ≤ o) (hin : (i : Int) ∈ chain H) (hon : (nth H o).next = (nth H i).next) (hoi : o ≠ i) (hok' : heapOk (swapH H i o)) (k : Int) (hk : k ≠ (nth H o).key) :
    k ∈ living (swapH H i o) ↔ k ∈ living H := by
  obtain ⟨A, B, e1, e2⟩ := link_chain hok i hi o ho hin hon hoi hok'
  have nf := fun p => swapH_nth H i hi o p
  rw [mem_living, mem_living, e1, e2]
  have hd : ∀ x, x ≠ o → (x ∈ (A ++ (i : Int) :: o :: B).drop 1 ↔ x ∈ (A ++ (i : Int) :: B).drop 1) := fun x hx => by
    cases A with
    | nil => simp [hx]
    | cons a A => simp [hx]
  constructor
  · rintro ⟨x, h1, h2, h3⟩
    rw [(nf x).1] at h3
    rw [(nf x).2.2] at h2
    have hx : x ≠ o := fun e => hk (by rw [← h3, e])
    exact ⟨x, (hd x hx).1 h1, h2, h3⟩
  · rintro ⟨x, h1, h2, h3⟩
    have hx : x ≠ o := fun e => hk (by rw [← h3, e])
    exact ⟨x, (hd x hx).2 h1, by rw [(nf x).2.2]; exact h2, by rw [(nf x).1]; exact h3⟩
theorem strike_others {H : List C} (hok : heapOk H) (i : Nat) (hi : i < H.length) (hok' : heapOk (strikeH H i)) (k : Int) (hk : k ≠ (nth H i).key) : k ∈ living (strikeH H i) ↔ k ∈ living H := by
  have ec := strike_chain hok i hi hok'
  have nf := fun p => strikeH_nth H i hi p
  rw [mem_living, mem_living, ec]
  have hx : ∀ x, (nth H x).key = k → x ∈ (chain H).drop 1 → x.toNat ≠ i := fun x h3 hm e => by
    have hp := (chain_hasX (up_ok hok) (List.mem_of_mem_drop hm)).1
    have : x = (i : Int) := by omega
    rw [this] at h3
    exact hk h3.symm
  constructor
  · rintro ⟨x, h1, h2, h3⟩
    rw [(nf x).1] at h3
    rw [(nf x).2.2.2, if_neg (hx x h3 h1)] at h2
    exact ⟨x, h1, h2, h3⟩
  · rintro ⟨x, h1, h2, h3⟩
    exact ⟨x, h1, by rw [(nf x).2.2.2, if_neg (hx x h3 h1)]; exact h2, by rw [(nf x).1]; exact h3⟩

/-- who lives behind a move -/
structure Lives (H : List C) (d : Hd) (H' : List C) (d' : Hd) : Prop where
  yes : d.step ≠ 5 → d'.step = 5 → d'.told = 1 → d.kind ≠ 3 → (∀ k, k ≠ d.key → (k ∈ living H' ↔ k ∈ living H)) ∧ (d.kind = 1 → d.key ∉ living H ∧ d.key ∈ living H') ∧ (d.kind = 2 → d.key ∈ living H ∧ d.key ∉ living H')
  no : ¬ (d.step ≠ 5 ∧ d'.step = 5 ∧ d'.told = 1 ∧ d.kind ≠ 3) → living H' = living H
theorem move_lives {H : List C} {d : Hd} (hok : heapOk H) (h : OkH H d) : Lives H d (move H d).1 (move H d).2 := by
  have K := move_keeps hok h
  have u := up_ok hok
  refine ⟨fun h5 hd ht h3 => ?_, fun hn => ?_⟩
  · have hs := h.step
    have W := fun hw => h.way hw
    rcases (by omega : d.step = 0 ∨ d.step = 1 ∨ d.step = 2 ∨ d.step = 3 ∨ d.step = 4) with e | e | e | e | e
    · have em : move H d = (H, { d with left := 0, here := (nth H 0).next, step := 1 }) := by simp [move, e]
      rw [em] at hd
      simp at hd
    · have em : move H d = moveW H d := by unfold move; rw [if_neg (by omega), if_pos e]
      rw [em] at hd
      unfold moveW at hd
      split at hd
      · simp at hd
      · split at hd
        · split at hd
          · simp only at hd; omega
          · simp [startD] at hd
        · simp only at hd; omega
    · have em : move H d = moveA H d := by unfold move; rw [if_neg (by omega), if_neg (by omega), if_pos e]
      rw [em] at hd ht
      unfold moveA at hd ht
      rw [if_neg h3] at hd ht
      split at hd
      · rename_i q
        rw [if_pos q] at ht
        simp [doneD] at ht
      · rename_i q
        rw [if_neg q] at ht
        split at hd
        · rename_i q1
          rw [if_pos q1] at ht
          unfold movePut at hd ht
          split at hd
          · rename_i q2
            rw [if_pos q2] at ht
            split at hd
            · rename_i q3
              rw [if_pos q3] at ht
              simp [doneD] at ht
            · simp at hd
          · simp at hd
        · simp at hd
    · have em : move H d = moveL H d := by unfold move; rw [if_neg (by omega), if_neg (by omega), if_neg (by omega), if_pos e]
      have W := h.way (by omega)
      have F := h.free h5
      have hl := h.link e
      rw [em] at hd ⊢
      unfold moveL at hd ⊢
      by_cases hsw : swapOk H d.left d.here d.own
      · rw [if_pos hsw]
        have hKH := K.heap
        rw [em] at hKH
        unfold moveL at hKH
        rw [if_pos hsw] at hKH
        obtain ⟨i, hi0, hi⟩ := has_nat W.1
        have hnl := hsw.1.2.2
        have hin : d.left ∈ chain H := h.inL W.1.1 hsw.1.2.1
        have hlk := W.2.1
        rcases F with F | ⟨a, b, c, f, g, z1, z2⟩
        · omega
        have hne : d.own ≠ d.left := fun e => z2 (by rw [e]; exact hin)
        have hbet : ∀ x ∈ chain H, (nth H x).key ≠ d.key := no_key_between u hin hlk (by
          rw [hnl]
          have := hl.1
          unfold there at this
          rcases W.2.2 with q | q
          · exact .inl q
          · rw [if_pos (by omega)] at this; exact .inr this)
        rw [hi0] at hin hnl hne hKH ⊢
        refine ⟨fun k hk => ?_, fun _ => ⟨not_living hbet, ?_⟩, fun h2 => by omega⟩
        · exact link_others hok i hi d.own (by omega) hin (by rw [g e, hnl]) hne hKH k (by rw [c]; exact hk)
        · have := link_living hok i hi d.own (by omega) hin (by rw [g e, hnl]) hne z1 hKH
          rw [c] at this
          exact this
      · rw [if_neg hsw] at hd
        simp [startD] at hd
    · have em : move H d = moveM H d := by unfold move; rw [if_neg (by omega), if_neg (by omega), if_neg (by omega), if_neg (by omega), if_pos e]
      have W := h.way (by omega)
      have hm := h.mark e
      rw [em] at hd ⊢
      unfold moveM at hd ⊢
      by_cases hg : (nth H d.here).gone = true
      · rw [if_pos hg] at hd
        simp [startD] at hd
      · rw [if_neg hg]
        have hKH := K.heap
        rw [em] at hKH
        unfold moveM at hKH
        rw [if_neg hg] at hKH
        have hg' : (nth H d.here).gone = false := by simpa using hg
        have hkk := h.key
        have h0 : 0 ≤ d.here := by
          have := hm.1
          unfold there at this
          by_cases q : 0 ≤ d.here
          · exact q
          · rw [if_neg q] at this; omega
        have hh : 1 ≤ d.here ∧ d.here < (H.length : Int) := by
          rcases W.2.2 with q | q
          · omega
          · exact q
        have hkey : (nth H d.here).key = d.key := by have := hm.1; unfold there at this; rw [if_pos h0] at this; exact this
        have hst : strikeOk H d.here (nth H d.here).next := ⟨by omega, ⟨h0, hh.2⟩, hg', rfl⟩
        have hin := h.inH h0 hg'
        have hliv := is_living hok hin (by omega) hg'
        rw [hkey] at hliv
        rw [(strike_yes hst).2] at hKH ⊢
        obtain ⟨i, hi0, hi⟩ := has_nat hst.2.1
        rw [hi0] at hin hkey hKH ⊢
        refine ⟨fun k hk => ?_, fun h1 => by omega, fun _ => ⟨hliv, ?_⟩⟩
        · exact strike_others hok i hi hKH k (by rw [hkey]; exact hk)
        · have := strike_living hok i hi hin hKH
          rw [hkey] at this
          exact this
  · rcases K.lives with q | q
    · have hK := K.hand.told
      exact absurd ⟨q.2.1, hK.1.2 (by omega), q.1, q.2.2.1⟩ hn
    · exact q.2
end Go.Proofs.Ytodpbghkjnlfdaa.ce
/- A hand alone comes to its end: plain mathematics. -/
namespace Go.Proofs.Ytodpbghkjnlfdaa.ce
open Go.ChangeShapes Go.WideShapes Go.ChangeAt Go.RowKit
set_option linter.unusedVariables false

def alone : Nat → List C → Hd → List C × Hd
  | 0, H, d => (H, d)
  | n + 1, H, d => if d.step = 5 then (H, d) else alone n (move H d).1 (move H d).2
theorem alone_done (n : Nat) (H : List C) (d : Hd) (h : d.step = 5) : alone n H d = (H, d) := by
  cases n with
  | zero => rfl
  | succ n => unfold alone; rw [if_pos h]
theorem alone_go (n : Nat) (H : List C) (d : Hd) (h : d.step ≠ 5) : alone (n + 1) H d = alone n (move H d).1 (move H d).2 := by
  conv => lhs; unfold alone
  rw [if_neg h]
def Ends (n : Nat) (H : List C) (d : Hd) : Prop := (alone n H d).2.step = 5
theorem ends_done (n : Nat) (H : List C) (d : Hd) (h : d.step = 5) : Ends n H d := by unfold Ends; rw [alone_done n H d h]; exact h
theorem ends_go {n : Nat} {H : List C} {d : Hd} (h : Ends n (move H d).1 (move H d).2) : Ends (n + 1) H d := by
  by_cases h5 : d.step = 5
  · exact ends_done _ _ _ h5
  · unfold Ends; rw [alone_go n H d h5]; exact h
theorem alone_stays : ∀ (n m : Nat) (H : List C) (d : Hd), Ends n H d → n ≤ m → alone m H d = alone n H d
  | 0, m, H, d, h, _ => by rw [alone_done m H d h]; rfl
  | n + 1, m, H, d, h, hm => by
    by_cases h5 : d.step = 5
    · rw [alone_done m H d h5, alone_done _ H d h5]
    · obtain ⟨m', rfl⟩ : ∃ m', m = m' + 1 := ⟨m - 1, by omega⟩
      rw [alone_go m' H d h5, alone_go n H d h5]
      refine alone_stays n m' _ _ ?_ (by omega)
      unfold Ends at h ⊢
      rw [alone_go n H d h5] at h
      exact h
theorem ends_more {n m : Nat} {H : List C} {d : Hd} (h : Ends n H d) (hm : n ≤ m) : Ends m H d := by
  unfold Ends
  rw [alone_stays n m H d h hm]
  exact h

theorem nodup_le : ∀ (n : Nat) (L : List Int), L.Nodup → (∀ x ∈ L, 0 ≤ x ∧ x < (n : Int)) → L.length ≤ n
  | 0, L, _, h => by
    cases L with
    | nil => simp
    | cons x L => have := h x List.mem_cons_self; omega
  | n + 1, L, hn, h => by
    by_cases hm : (n : Int) ∈ L
    · have h1 := nodup_le n (L.erase (n : Int)) (hn.erase _) (fun x hx => by
        have hx' := (hn.mem_erase_iff).1 hx
        have := h x hx'.2
        have := hx'.1
        omega)
      rw [List.length_erase_of_mem hm] at h1
      omega
    · have h1 := nodup_le n L hn (fun x hx => by
        have := h x hx
        have : x ≠ (n : Int) := fun e => hm (by rw [← e]; exact hx)
        omega)
      omega
theorem chain_le {H : List C} (hok : heapOk H) : (chain H).length ≤ 40 := by
  have u := up_ok hok
  have := nodup_le H.length (chain H) (chain_nodup u) (fun x hx => ⟨(chain_hasX u hx).1, (chain_hasX u hx).2⟩)
  have := hok.1.2
  omega

/-- the hand stands where the chain goes from Left to Here, with at most m cells behind Left -/
structure Sol (H : List C) (d : Hd) (m : Nat) : Prop where
  heap : heapOk H
  hand : OkH H d
  left : (nth H d.left).gone = false
  next : (nth H d.left).next = d.here
  cut : ∃ A B, chain H = A ++ d.left :: B ∧ B.length ≤ m
  sure : d.step ≠ 1 → 0 ≤ d.here → (nth H d.here).gone = false
theorem sol_of {H : List C} {d : Hd} (hok : heapOk H) (h : OkH H d) (hs : d.step = 1 ∨ d.step = 2 ∨ d.step = 3 ∨ d.step = 4) (hg : (nth H d.left).gone = false) (hn : (nth H d.left).next = d.here) (hsure : d.step ≠ 1 → 0 ≤ d.here → (nth H d.here).gone = false) : Sol H d 39 := by
  have W := h.way (by omega)
  have hin := h.inL W.1.1 hg
  obtain ⟨A, B, e, -⟩ := ch_split (chain_ch (up_ok hok)) hin
  have hl := chain_le hok
  rw [e] at hl
  simp at hl
  exact ⟨hok, h, hg, hn, ⟨A, B, e, by omega⟩, hsure⟩

theorem sol_swap {H : List C} {d : Hd} {m : Nat} (s : Sol H d m) (hw : ¬ (d.step = 0 ∨ d.step = 5)) (z : Int) (hz : leads H (nth H d.left).key z) : swapOk H d.left d.here z := ⟨⟨(s.hand.way hw).1, s.left, s.next⟩, hz⟩

/-- one move of a solid hand that walks -/
theorem sol_walk {H : List C} {d : Hd} {m : Nat} (s : Sol H d m) (hs : d.step = 1) : ((move H d).2.step = 2 ∧ Sol (move H d).1 (move H d).2 m) ∨ (1 ≤ m ∧ (move H d).2.step = 1 ∧ Sol (move H d).1 (move H d).2 (m - 1)) := by
  have K := move_keeps s.heap s.hand
  have u := up_ok s.heap
  have W := s.hand.way (by omega)
  have em : move H d = moveW H d := by unfold move; rw [if_neg (by omega), if_pos hs]
  rw [em] at K ⊢
  unfold moveW at K ⊢
  by_cases hst : stops H d
  · left
    rw [if_pos hst] at K ⊢
    refine ⟨rfl, K.heap, K.hand, s.left, s.next, s.cut, fun _ h0 => ?_⟩
    rcases hst with e | e
    · simp only at h0; omega
    · exact e.1
  · right
    rw [if_neg hst] at K ⊢
    have hh : 1 ≤ d.here ∧ d.here < (H.length : Int) := by
      rcases W.2.2 with e | e
      · exact absurd (.inl e) hst
      · exact e
    have hhas : has H d.here := ⟨by omega, hh.2⟩
    obtain ⟨A, B, e1, hBm⟩ := s.cut
    have hin : d.left ∈ chain H := by rw [e1]; simp
    obtain ⟨B', rfl⟩ : ∃ B', B = d.here :: B' := by
      have hc := chain_ch u
      obtain ⟨A2, B2, e3, hB2⟩ := ch_split hc hin
      have hB : B = B2 := by
        have hn := chain_nodup u
        rw [e1] at e3 hn
        have h1 : d.left ∉ A := fun q => by
          have := (List.nodup_append.1 hn).2.2 _ q _ List.mem_cons_self
          exact this rfl
        have h2 : d.left ∉ A2 := fun q => by
          rw [e3] at hn
          have := (List.nodup_append.1 hn).2.2 _ q _ List.mem_cons_self
          exact this rfl
        rcases List.append_eq_append_iff.1 e3 with ⟨C', hC1, hC2⟩ | ⟨C', hC1, hC2⟩
        · cases C' with
          | nil => simp at hC2; exact hC2
          | cons c C' => simp at hC2; exact absurd (by rw [hC1, ← hC2.1]; simp) h2
        · cases C' with
          | nil => simp at hC2; exact hC2.symm
          | cons c C' => simp at hC2; exact absurd (by rw [hC1, ← hC2.1]; simp) h1
      rw [hB]
      rw [s.next] at hB2
      cases B2 with
      | nil => have : d.here < 0 := hB2; omega
      | cons y B2 => rw [hB2.1]; exact ⟨B2, rfl⟩
    simp only [List.length_cons] at hBm
    refine ⟨by omega, ?_⟩
    by_cases hg : (nth H d.here).gone = true
    · rw [if_pos hg] at K ⊢
      have hlead : leads H (nth H d.left).key (nth H d.here).next := by
        have h1 := u.next d.left W.1
        have h2 := u.next d.here hhas
        rw [s.next] at h1
        rcases h1 with h1 | h1
        · omega
        · rcases h2 with h2 | h2
          · exact .inl h2
          · exact .inr ⟨h2.1, by omega⟩
      have hsw := sol_swap s (by omega) _ hlead
      rw [if_pos hsw] at K ⊢
      obtain ⟨i, hi0, hi⟩ := has_nat W.1
      have hin' := hin
      have hnx := s.next
      have hgl := s.left
      rw [hi0] at hin' hnx hgl
      have hok' := K.heap
      simp only [hi0] at hok'
      obtain ⟨A2, B2, q1, q2⟩ := pass_chain s.heap i hi d.here hin' hnx (by omega) hok'
      have nf := fun p => swapH_nth H i hi (nth H d.here).next p
      refine ⟨hs, K.heap, K.hand, ?_, ?_, ?_, fun hne => absurd hs hne⟩
      · simp only [hi0]; rw [(nf _).2.2]; exact hgl
      · simp only [hi0]; exact swapH_next_same H i hi _
      · refine ⟨A2, B2, ?_, ?_⟩
        · simp only [hi0]; exact q2
        · have h1 : (chain H).length = A.length + (B'.length + 2) := by rw [e1]; simp
          have h2 : (chain H).length = A2.length + (B2.length + 2) := by rw [q1]; simp
          have h3 : A = A2 := by
            have hn := chain_nodup u
            have e4 : A ++ (i : Int) :: d.here :: B' = A2 ++ (i : Int) :: d.here :: B2 := by rw [← q1, e1, hi0]
            rw [e1, hi0] at hn
            have hn1 : (i : Int) ∉ A := fun q => (List.nodup_append.1 hn).2.2 _ q _ List.mem_cons_self rfl
            have hn2 : (i : Int) ∉ A2 := fun q => by
              rw [e4] at hn
              exact (List.nodup_append.1 hn).2.2 _ q _ List.mem_cons_self rfl
            rcases List.append_eq_append_iff.1 e4 with ⟨C', hC1, hC2⟩ | ⟨C', hC1, hC2⟩
            · cases C' with
              | nil => simp at hC1; exact hC1.symm
              | cons c C' => simp at hC2; exact absurd (by rw [hC1, ← hC2.1]; simp) hn2
            · cases C' with
              | nil => simp at hC1; exact hC1
              | cons c C' => simp at hC2; exact absurd (by rw [hC1, ← hC2.1]; simp) hn1
          rw [h3] at h1
          omega
    · rw [if_neg hg] at K ⊢
      have hg' : (nth H d.here).gone = false := by simpa using hg
      refine ⟨hs, K.heap, K.hand, hg', rfl, ⟨A ++ [d.left], B', by rw [e1]; simp, by omega⟩, fun hne => absurd hs hne⟩
end Go.Proofs.Ytodpbghkjnlfdaa.ce
/- A hand alone comes to its end within some fifty moves, and says what it did: plain mathematics. -/
namespace Go.Proofs.Ytodpbghkjnlfdaa.ce
open Go.ChangeShapes Go.WideShapes Go.ChangeAt Go.RowKit
set_option linter.unusedVariables false

theorem sol_mark {H : List C} {d : Hd} {m : Nat} (s : Sol H d m) (hs : d.step = 4) : (move H d).2.step = 5 := by
  have hm := s.hand.mark hs
  have hkk := s.hand.key
  have h0 : 0 ≤ d.here := by
    have := hm.1
    unfold there at this
    by_cases q : 0 ≤ d.here
    · exact q
    · rw [if_neg q] at this; omega
  have hg := s.sure (by omega) h0
  have em : move H d = moveM H d := by unfold move; rw [if_neg (by omega), if_neg (by omega), if_neg (by omega), if_neg (by omega), if_pos hs]
  rw [em]
  unfold moveM
  rw [if_neg (by rw [hg]; simp)]
  rfl
theorem sol_link {H : List C} {d : Hd} {m : Nat} (s : Sol H d m) (hs : d.step = 3) : move H d = (swapH H d.left d.own, doneD d true) := by
  have hl := s.hand.link hs
  have W := s.hand.way (by omega)
  have F := s.hand.free (by omega)
  have em : move H d = moveL H d := by unfold move; rw [if_neg (by omega), if_neg (by omega), if_neg (by omega), if_pos hs]
  rw [em]
  unfold moveL
  rcases F with F | ⟨a, b, c, f, g, z1, z2⟩
  · omega
  rw [if_pos (sol_swap s (by omega) _ (.inr ⟨⟨by omega, b.2⟩, by rw [c]; exact W.2.1⟩))]

/-- a solid hand acts: it is done, or it links or marks next, solid still -/
theorem sol_act {H : List C} {d : Hd} {m : Nat} (s : Sol H d m) (hs : d.step = 2) : (move H d).2.step = 5 ∨ (move H d).2.step = 3 ∧ Sol (move H d).1 (move H d).2 39 ∨ (move H d).2.step = 4 ∧ Sol (move H d).1 (move H d).2 39 := by
  have K := move_keeps s.heap s.hand
  have L := move_later s.heap s.hand
  have W := s.hand.way (by omega)
  have F := s.hand.free (by omega)
  have em : move H d = moveA H d := by unfold move; rw [if_neg (by omega), if_neg (by omega), if_pos hs]
  rw [em] at K L ⊢
  unfold moveA at K L ⊢
  by_cases h3 : d.kind = 3
  · rw [if_pos h3]; exact .inl rfl
  rw [if_neg h3] at K L ⊢
  by_cases hn : d.kind = 1 ∧ found H d ∨ d.kind = 2 ∧ ¬ found H d
  · rw [if_pos hn]; exact .inl rfl
  rw [if_neg hn] at K L ⊢
  by_cases h1 : d.kind = 1
  · rw [if_pos h1] at K L ⊢
    unfold movePut at K L ⊢
    by_cases ho : d.own < 0
    · rw [if_pos ho] at K L ⊢
      by_cases hN : freshN H d.key d.value d.here < 0
      · rw [if_pos hN]; exact .inl rfl
      · rw [if_neg hN] at K L ⊢
        right; left
        obtain ⟨eN, eH, hok'⟩ := (fresh_two H d.key d.value d.here).resolve_left (by omega)
        refine ⟨rfl, sol_of K.heap K.hand (.inr (.inr (.inl rfl))) ?_ ?_ (fun _ h0 => ?_)⟩
        · simp only; rw [eH, nth_snoc H _ _ W.1]; exact s.left
        · simp only; rw [eH, nth_snoc H _ _ W.1]; exact s.next
        · simp only at h0 ⊢
          have hh : has H d.here := by
            rcases W.2.2 with e | e
            · omega
            · exact ⟨h0, e.2⟩
          rw [eH, nth_snoc H _ _ hh]
          exact s.sure (by omega) h0
    · rw [if_neg ho] at K L ⊢
      right; left
      rcases F with F | ⟨a, b, c, f, g, z1, z2⟩
      · omega
      obtain ⟨i, hi0, hi⟩ := has_nat (H := H) (p := d.own) ⟨by omega, b.2⟩
      have nf := fun p => swapH_nth H i hi d.here p
      have hin := s.hand.inL W.1.1 s.left
      have hli : d.left.toNat ≠ i := fun e => z2 (by
        have : d.left = d.own := by have := W.1.1; omega
        rw [← this]; exact hin)
      refine ⟨rfl, sol_of K.heap K.hand (.inr (.inr (.inl rfl))) ?_ ?_ (fun _ h0 => ?_)⟩
      · simp only [hi0]; rw [(nf _).2.2]; exact s.left
      · simp only [hi0]; rw [swapH_next H i _ _ hli]; exact s.next
      · simp only [hi0] at h0 ⊢; rw [(nf _).2.2]; exact s.sure (by omega) h0
  · rw [if_neg h1] at K L ⊢
    right; right
    exact ⟨rfl, sol_of K.heap K.hand (.inr (.inr (.inr rfl))) s.left s.next (fun _ h0 => s.sure (by omega) h0)⟩

theorem ends_act {H : List C} {d : Hd} {m : Nat} (s : Sol H d m) (hs : d.step = 2) : Ends 2 H d := by
  refine ends_go ?_
  rcases sol_act s hs with h | ⟨h, s'⟩ | ⟨h, s'⟩
  · exact ends_done _ _ _ h
  · refine ends_go (ends_done _ _ _ ?_)
    rw [sol_link s' h]; rfl
  · exact ends_go (ends_done _ _ _ (sol_mark s' h))
theorem ends_walk : ∀ (m : Nat) (H : List C) (d : Hd), Sol H d m → d.step = 1 → Ends (m + 3) H d
  | 0, H, d, s, hs => by
    refine ends_go (n := 2) ?_
    rcases sol_walk s hs with ⟨h, s'⟩ | ⟨h, -⟩
    · exact ends_act s' h
    · omega
  | m + 1, H, d, s, hs => by
    refine ends_go (n := m + 3) ?_
    rcases sol_walk s hs with ⟨h, s'⟩ | ⟨-, h, s'⟩
    · exact ends_more (ends_act s' h) (by omega)
    · exact ends_walk m _ _ s' h
theorem sol_start {H : List C} {d : Hd} (hok : heapOk H) (h : OkH H d) (hs : d.step = 0) : (move H d).2.step = 1 ∧ Sol (move H d).1 (move H d).2 39 := by
  have K := move_keeps hok h
  have em : move H d = (H, { d with left := 0, here := (nth H 0).next, step := 1 }) := by simp [move, hs]
  rw [em] at K ⊢
  exact ⟨rfl, sol_of hok K.hand (.inl rfl) hok.2.1.2.1 rfl (fun e => absurd rfl e)⟩
theorem ends_start {H : List C} {d : Hd} (hok : heapOk H) (h : OkH H d) (hs : d.step = 0) : Ends 43 H d := by
  obtain ⟨h1, s⟩ := sol_start hok h hs
  exact ends_go (ends_walk 39 _ _ s h1)
theorem ends_34 {H : List C} {d : Hd} (hok : heapOk H) (h : OkH H d) (hs : d.step = 3 ∨ d.step = 4) : Ends 44 H d := by
  have K := move_keeps hok h
  refine ends_go ?_
  have h2 : (move H d).2.step = 5 ∨ (move H d).2.step = 0 := by
    unfold move
    rcases hs with hs | hs
    · rw [if_neg (by omega), if_neg (by omega), if_neg (by omega), if_pos hs]
      unfold moveL
      split
      · exact .inl rfl
      · exact .inr rfl
    · rw [if_neg (by omega), if_neg (by omega), if_neg (by omega), if_neg (by omega), if_pos hs]
      unfold moveM
      split
      · exact .inr rfl
      · exact .inl rfl
  rcases h2 with h2 | h2
  · exact ends_done _ _ _ h2
  · exact ends_start K.heap K.hand h2
theorem ends_2 {H : List C} {d : Hd} (hok : heapOk H) (h : OkH H d) (hs : d.step = 2) : Ends 45 H d := by
  have K := move_keeps hok h
  refine ends_go ?_
  have h2 : (move H d).2.step = 5 ∨ (move H d).2.step = 3 ∨ (move H d).2.step = 4 := by
    have em : move H d = moveA H d := by unfold move; rw [if_neg (by omega), if_neg (by omega), if_pos hs]
    rw [em]
    unfold moveA
    split
    · exact .inl rfl
    · split
      · exact .inl rfl
      · split
        · unfold movePut
          split
          · split
            · exact .inl rfl
            · exact .inr (.inl rfl)
          · exact .inr (.inl rfl)
        · exact .inr (.inr rfl)
  rcases h2 with h2 | h2
  · exact ends_done _ _ _ h2
  · exact ends_34 K.heap K.hand h2
theorem ends_1 {H : List C} {d : Hd} (hok : heapOk H) (h : OkH H d) (hs : d.step = 1) : Ends 46 H d := by
  have K := move_keeps hok h
  have W := h.way (by omega)
  refine ends_go ?_
  have em : move H d = moveW H d := by unfold move; rw [if_neg (by omega), if_pos hs]
  by_cases hst : stops H d
  · have e : (move H d).2.step = 2 := by rw [em]; unfold moveW; rw [if_pos hst]
    exact ends_2 K.heap K.hand e
  · have hh : 1 ≤ d.here ∧ d.here < (H.length : Int) := by
      rcases W.2.2 with e | e
      · exact absurd (.inl e) hst
      · exact e
    by_cases hg : (nth H d.here).gone = true
    · by_cases hsw : swapOk H d.left d.here (nth H d.here).next
      · have s : Sol H d 39 := sol_of hok h (.inl hs) hsw.1.2.1 hsw.1.2.2 (fun e => absurd hs e)
        rcases sol_walk s hs with ⟨h1, s'⟩ | ⟨-, h1, s'⟩
        · exact ends_more (ends_act s' h1) (by omega)
        · exact ends_more (ends_walk _ _ _ s' h1) (by omega)
      · have e : move H d = (H, startD d) := by rw [em]; unfold moveW; rw [if_neg hst, if_pos hg, if_neg hsw]
        rw [e] at K ⊢
        exact ends_more (ends_start K.heap K.hand rfl) (by omega)
    · have e : move H d = (H, { d with left := d.here, here := (nth H d.here).next }) := by rw [em]; unfold moveW; rw [if_neg hst, if_neg hg]
      rw [e] at K ⊢
      have hg' : (nth H d.here).gone = false := by simpa using hg
      have s : Sol H { d with left := d.here, here := (nth H d.here).next } 39 := sol_of K.heap K.hand (.inl hs) hg' rfl (fun e => absurd hs e)
      exact ends_more (ends_walk 39 _ _ s hs) (by omega)
/-- whatever the state, within 46 moves -/
theorem ends_all {H : List C} {d : Hd} (hok : heapOk H) (h : OkH H d) : Ends 400 H d := by
  have hs := h.step
  rcases (by omega : d.step = 0 ∨ d.step = 1 ∨ d.step = 2 ∨ (d.step = 3 ∨ d.step = 4) ∨ d.step = 5) with e | e | e | e | e
  · exact ends_more (ends_start hok h e) (by omega)
  · exact ends_more (ends_1 hok h e) (by omega)
  · exact ends_more (ends_2 hok h e) (by omega)
  · exact ends_more (ends_34 hok h e) (by omega)
  · exact ends_done _ _ _ e
/-- heap and hand stay right all the way -/
theorem alone_keeps : ∀ (n : Nat) {H : List C} {d : Hd}, heapOk H → OkH H d → heapOk (alone n H d).1 ∧ OkH (alone n H d).1 (alone n H d).2 ∧ (alone n H d).2.kind = d.kind ∧ (alone n H d).2.key = d.key ∧ (alone n H d).2.value = d.value
  | 0, H, d, hok, h => ⟨hok, h, rfl, rfl, rfl⟩
  | n + 1, H, d, hok, h => by
    by_cases h5 : d.step = 5
    · rw [alone_done _ H d h5]; exact ⟨hok, h, rfl, rfl, rfl⟩
    · rw [alone_go n H d h5]
      have K := move_keeps hok h
      obtain ⟨a, b, c, e, f⟩ := alone_keeps n K.heap K.hand
      exact ⟨a, b, c.trans K.kind, e.trans K.key, f.trans K.value⟩
end Go.Proofs.Ytodpbghkjnlfdaa.ce
/- Contract of l5Alone: it is the function alone. -/
namespace Go.Proofs.Ytodpbghkjnlfdaa.ce
open Go.ChangeShapes Go.WideShapes Go.ChangeAt Go.RowKit
set_option linter.unusedVariables false

set_option maxHeartbeats 1000000 in
theorem l5AloneA (H : List C) (d : Hd) (v : Value) (hi : Nat) (w : World) (hh : hi ≤ w.heap.size) (r : Rd w hi v H) (hok : heapOk H) (hfits : OkH H d) :
    Calls Try.prog 50 #[v, .agg (hv d).toArray] w fun e w' => ∃ v', e = .returned (.tuple #[v', .agg (hv (alone 400 H d).2).toArray]) ∧ Own w' w.heap.size w'.heap.size v' (alone 400 H d).1 ∧ Below w.heap.size w w' := by
  obtain ⟨a, cap, rfl⟩ := r.form
  have R : Hid (Rd w hi (.slice a H.length cap) H) := r
  have GD : Hid (heapOk H) := hok
  have FT : Hid (OkH H d) := hfits
  have h1 := hok.1.1
  have h2 : H.length ≤ 1048576 := by have := hok.1.2; omega
  obtain ⟨Z, hZ⟩ := hid_ex (alone 400 H d)
  rw [hZ.out]
  clear r hok hfits
  go_enter Try.func50, Try.ntmps50
  go_wp2_with (first | (refine wpList_box_v rfl 29 _ rfl (hv d) rfl ?_; intro b3 w1 hb3 hw1 hB1 hV1) | (refine wpList_alloc_v rfl 29 rfl _ zeroH ?_; intro b5 w2 hb5 hw2 hB2 hV2) | (go_at_call 48; refine (l3Copy_any H _ hi _ (by have := hB1.size; have := hB2.size; omega) ((R.out.below hB1 hh).below hB2 (by have := hB1.size; omega)) h1 h2).mono ?_; rintro er w3 ⟨v3, rfl, hO3, hB3⟩) | (fail))
  have z1 := hB1.size
  have z2 := hB2.size
  have z3 := hB3.size
  obtain ⟨g3, hg31, hg32, hg33, hog3⟩ := hO3.at h1
  have mo3 : Me w3 w2.heap.size g3 b3 0 29 [] [] v3 H d := ⟨hog3, hg31, by omega, hg33, HB.ha ⟨(hV1.below hB2 hw1).below hB3 (by omega)⟩, z3, GD.out.1⟩
  have hV5 := hV2.below hB3 hw2
  go_loopw [6, 7] (fun v' n wr => ∃ (m : Nat) (H' : List C) (d' : Hd) (g : Nat), m ≤ 400 ∧ n = .int .i64 m ∧ Hid (alone (400 - m) H' d' = Z) ∧ Hid (heapOk H') ∧ Hid (OkH H' d') ∧ Me wr w2.heap.size g b3 0 29 [] [] v' H' d' ∧ Mw w2.heap.size b3 w3 wr) (fun _ n _ => 400 - (intOf n).toNat)
  case atStart => exact ⟨0, H, d, g3, by omega, rfl, hZ, GD, FT, mo3, Mw.refl _ _ _⟩
  case round =>
    obtain ⟨m, H', d', g, hm, rfl, hal, hok', hfi', mo, mv⟩ := hrel
    obtain ⟨k, x, y, s, l, e, o, t⟩ := d'
    obtain ⟨c0, c1, c2, c3, c4, c5, c6, c7⟩ := mo.hand.hb.cells
    have hb35 : b5 ≠ b3 := by omega
    have hV6 := hV5.of (mv.block b5 hw2 hb35)
    have hB6 : HB wr b5 ⟨0, 0, 0, 0, 0, 0, 0, 0⟩ := ⟨hV6⟩
    obtain ⟨q0, q1, q2, q3, q4, q5, q6, q7⟩ := hB6.cells
    obtain ⟨g0, g1, g2, g3, g4, g5, g6, g7⟩ := hB6.fz
    have HB6 : Hid (HB wr b5 ⟨0, 0, 0, 0, 0, 0, 0, 0⟩) := hB6
    clear hB6 hV6
    have M : Hid (Me wr w2.heap.size g b3 0 29 [] [] u6 H' ⟨k, x, y, s, l, e, o, t⟩) := mo
    have hglo := mo.glo
    have hgq := mo.gq
    have hgw := mo.gw
    have MV : Hid (Mw w2.heap.size b3 w3 wr) := mv
    clear mo mv
    by_cases hlt : m < 400
    · have hlt' : (m : Int) < 400 := by omega
      by_cases h5 : s = 5
      · subst h5
        go_wp2
        have S0 : wr.drew.cell? ⟨b3, 0, none⟩ = some (.int .i64 k) ∧ wr.drew.cell? ⟨b3, 1, none⟩ = some (.int .i64 x) ∧ wr.drew.cell? ⟨b3, 2, none⟩ = some (.int .i64 y) ∧ wr.drew.cell? ⟨b3, 3, none⟩ = some (.int .i64 5) ∧ wr.drew.cell? ⟨b3, 4, none⟩ = some (.int .i64 l) ∧ wr.drew.cell? ⟨b3, 5, none⟩ = some (.int .i64 e) ∧ wr.drew.cell? ⟨b3, 6, none⟩ = some (.int .i64 o) ∧ wr.drew.cell? ⟨b3, 7, none⟩ = some (.int .i64 t) := ⟨c0, c1, c2, c3, c4, c5, c6, c7⟩
        go_region
        go_wp2
        have eZ : Z = (H', ⟨k, x, y, 5, l, e, o, t⟩) := by rw [← hal.out, alone_done _ _ _ rfl]
        subst eZ
        obtain ⟨hb8, hO8⟩ := fill8 HB6.out k x y 5 l e o t
        refine row_tmp_cell rfl rfl rfl hb8.blk Try.underlying29 sizeH rfl ⟨_, rfl, ((M.out.own.keep fun j j1 j2 => hO8.2.1 j (by omega)).wide (by omega) (by have := hO8.1; omega)), ?_⟩
        exact (((hB1.trans (hB2.mono z1)).trans (hB3.mono (by omega))).trans (MV.out.below (by omega) (by omega))).trans (hO8.2.2 _ (by omega))
      · have f5 : (s == 5) = false := by simpa using h5
        have f5' : (s != 5) = true := by simpa using h5
        go_wp2_with (first | (go_at_call 47; refine (l5MoveA H' _ _ w2.heap.size g b3 0 29 [] [] _ M.out (hfi'.out.bd hok'.out.1.1)).mono ?_; rintro er w4 ⟨v4, g4, rfl, m4, mv4⟩) | (fail))
        go_roundw
        case rel =>
          have kp := move_keeps hok'.out hfi'.out
          refine ⟨m + 1, _, _, g4, by omega, by go_num, ?_, kp.heap, kp.hand, m4, MV.out.trans mv4⟩
          unfold Hid
          rw [← hal.out, show 400 - m = (400 - (m + 1)) + 1 by omega, alone_go _ _ _ h5]
        case measure => simp [intOf]; omega
    · have hlt' : ¬ ((m : Int) < 400) := by omega
      go_wp2
      have S0 : wr.drew.cell? ⟨b3, 0, none⟩ = some (.int .i64 k) ∧ wr.drew.cell? ⟨b3, 1, none⟩ = some (.int .i64 x) ∧ wr.drew.cell? ⟨b3, 2, none⟩ = some (.int .i64 y) ∧ wr.drew.cell? ⟨b3, 3, none⟩ = some (.int .i64 s) ∧ wr.drew.cell? ⟨b3, 4, none⟩ = some (.int .i64 l) ∧ wr.drew.cell? ⟨b3, 5, none⟩ = some (.int .i64 e) ∧ wr.drew.cell? ⟨b3, 6, none⟩ = some (.int .i64 o) ∧ wr.drew.cell? ⟨b3, 7, none⟩ = some (.int .i64 t) := ⟨c0, c1, c2, c3, c4, c5, c6, c7⟩
      go_region
      go_wp2
      have eZ : Z = (H', ⟨k, x, y, s, l, e, o, t⟩) := by rw [← hal.out, show 400 - m = 0 by omega]; rfl
      subst eZ
      obtain ⟨hb8, hO8⟩ := fill8 HB6.out k x y s l e o t
      refine row_tmp_cell rfl rfl rfl hb8.blk Try.underlying29 sizeH rfl ⟨_, rfl, ((M.out.own.keep fun j j1 j2 => hO8.2.1 j (by omega)).wide (by omega) (by have := hO8.1; omega)), ?_⟩
      exact (((hB1.trans (hB2.mono z1)).trans (hB3.mono (by omega))).trans (MV.out.below (by omega) (by omega))).trans (hO8.2.2 _ (by omega))

end Go.Proofs.Ytodpbghkjnlfdaa.ce
/- Contracts: the model's Moved and Alone. -/
namespace Go.Proofs.Ytodpbghkjnlfdaa.ce
open Go.ChangeShapes Go.WideShapes Go.ChangeAt Go.RowKit
set_option linter.unusedVariables false

def zeroD : Hd := ⟨0, 0, 0, 0, 0, 0, 0, 0⟩
noncomputable def movedP (H : List C) (d : Hd) : List C × Hd := if handB H d = true then move H d else ([], zeroD)
noncomputable def aloneP (H : List C) (d : Hd) : List C × Hd := if handB H d = true then alone 400 H d else ([], zeroD)
theorem handB_iff {H : List C} {d : Hd} : handB H d = true ↔ heapOk H ∧ OkH H d := by
  unfold handB
  by_cases h : heapOk H
  · rw [if_pos h, okB_iff]; exact ⟨fun q => ⟨h, q⟩, fun q => q.2⟩
  · rw [if_neg h]; exact ⟨fun q => (by cases q), fun q => absurd q.1 h⟩

set_option maxHeartbeats 1000000 in
theorem specMoved_any (H : List C) (d : Hd) (v : Value) (hi : Nat) (w : World) (hh : hi ≤ w.heap.size) (r : Rd w hi v H) :
    Calls Try.prog 18 #[v, .agg (hv d).toArray] w fun e w' => ∃ v', e = .returned (.tuple #[v', .agg (hv (movedP H d).2).toArray]) ∧ Own w' w.heap.size w'.heap.size v' (movedP H d).1 ∧ Below w.heap.size w w' := by
  obtain ⟨a, cap, rfl⟩ := r.form
  have R : Hid (Rd w hi (.slice a H.length cap) H) := r
  clear r
  obtain ⟨k, x, y, s, l, e, o, t⟩ := d
  obtain ⟨Z, hZ⟩ := hid_ex (movedP H ⟨k, x, y, s, l, e, o, t⟩)
  rw [hZ.out]
  have BOX : True := trivial
  cases hB : handB H ⟨k, x, y, s, l, e, o, t⟩ with
  | true =>
    have HB' : Hid (handB H ⟨k, x, y, s, l, e, o, t⟩ = true) := hB
    obtain ⟨hok, ok⟩ := handB_iff.1 hB
    have h1 := hok.1.1
    have h2 : H.length ≤ 1048576 := by have := hok.1.2; omega
    have BD : Hid (Bd H.length ⟨k, x, y, s, l, e, o, t⟩) := ok.bd h1
    have EZ : Hid (Z = move H ⟨k, x, y, s, l, e, o, t⟩) := by unfold Hid; rw [← hZ.out]; exact if_pos hB
    have LEN : Hid (1 ≤ H.length ∧ H.length ≤ 40) := hok.1
    clear hok ok hB
    go_enter Try.func18, Try.ntmps18
    go_wp2_with (first | (refine wpList_box_v rfl 29 _ rfl (hv ⟨k, x, y, s, l, e, o, t⟩) rfl ?_; intro b3 w1 hb3 hw1 hB1 hV1; have hz1 := hB1.size) | (refine wpList_alloc_v rfl 29 rfl _ zeroH ?_; intro b5 w2 hb5 hw2 hB2 hV2; have hz2 := hB2.size; have hb : HB w2 b3 ⟨k, x, y, s, l, e, o, t⟩ := ⟨hV1.below hB2 hw1⟩; obtain ⟨c0, c1, c2, c3, c4, c5, c6, c7⟩ := hb.cells) | (go_at_call 10; refine (specHandOk_any H ⟨k, x, y, s, l, e, o, t⟩ _ hi _ (by omega) ((R.out.below hB1 hh).below hB2 (by omega))).mono ?_; rintro er w3 ⟨rfl, hB3⟩; rw [HB'.out]; have hz3 := hB3.size) | (go_at_call 48; refine (l3Copy_any H _ hi _ (by omega) (((R.out.below hB1 hh).below hB2 (by omega)).below hB3 (by omega)) h1 h2).mono ?_; rintro er w4 ⟨v4, rfl, hO4, hB4⟩; have hz4 := hB4.size; obtain ⟨g4, hg41, hg42, hg43, hog4⟩ := hO4.at h1; have m4 : Me w4 w3.heap.size g4 b3 0 29 [] [] v4 H ⟨k, x, y, s, l, e, o, t⟩ := ⟨hog4, hg41, by omega, hg43, HB.ha ⟨((hV1.below hB2 hw1).below hB3 (by omega)).below hB4 (by omega)⟩, hz4, LEN.out⟩) | (go_at_call 47; refine (l5MoveA H _ _ w3.heap.size g4 b3 0 29 [] [] _ m4 BD.out).mono ?_; rintro er w5 ⟨v5, g5, rfl, m5, mv5⟩; rw [← EZ.out] at m5) | (fail))
    obtain ⟨HZ, dZ⟩ := Z
    obtain ⟨k', x', y', s', l', e', o', t'⟩ := dZ
    have hbz := m5.hand.hb
    clear c0 c1 c2 c3 c4 c5 c6 c7
    obtain ⟨c0, c1, c2, c3, c4, c5, c6, c7⟩ := hbz.cells
    have hz5 := mv5.size
    have hV5 : VBlk w5 b5 29 (hv zeroD) := ((hV2.below hB3 (by omega)).below hB4 (by omega)).of (mv5.block b5 (by omega) (by omega))
    have hb5' : HB w5 b5 ⟨0, 0, 0, 0, 0, 0, 0, 0⟩ := ⟨hV5⟩
    obtain ⟨q0, q1, q2, q3, q4, q5, q6, q7⟩ := hb5'.cells
    obtain ⟨g0, g1, g2, g3, g4', g5', g6, g7⟩ := hb5'.fz
    have HB5 : Hid (HB w5 b5 ⟨0, 0, 0, 0, 0, 0, 0, 0⟩) := hb5'
    clear hb5' hV5
    have S0 : w5.drew.cell? ⟨b3, 0, none⟩ = some (.int .i64 k') ∧ w5.drew.cell? ⟨b3, 1, none⟩ = some (.int .i64 x') ∧ w5.drew.cell? ⟨b3, 2, none⟩ = some (.int .i64 y') ∧ w5.drew.cell? ⟨b3, 3, none⟩ = some (.int .i64 s') ∧ w5.drew.cell? ⟨b3, 4, none⟩ = some (.int .i64 l') ∧ w5.drew.cell? ⟨b3, 5, none⟩ = some (.int .i64 e') ∧ w5.drew.cell? ⟨b3, 6, none⟩ = some (.int .i64 o') ∧ w5.drew.cell? ⟨b3, 7, none⟩ = some (.int .i64 t') := ⟨c0, c1, c2, c3, c4, c5, c6, c7⟩
    have mown := m5.own
    have mglo := m5.glo
    have mgq := m5.gq
    have mgw := m5.gw
    go_region
    go_wp2
    obtain ⟨hb8, hO8⟩ := fill8 HB5.out k' x' y' s' l' e' o' t'
    refine row_tmp_cell rfl rfl rfl hb8.blk Try.underlying29 sizeH rfl ⟨_, rfl, (mown.keep fun j j1 j2 => hO8.2.1 j (by omega)).wide (by omega) (by have := hO8.1; omega), ?_⟩
    exact ((((hB1.trans (hB2.mono hz1)).trans (hB3.mono (by omega))).trans (hB4.mono (by omega))).trans (mv5.below (by omega) (by omega))).trans (hO8.2.2 _ (by omega))
  | false =>
    have HB' : Hid (handB H ⟨k, x, y, s, l, e, o, t⟩ = false) := hB
    have EZ : Z = ([], zeroD) := by rw [← hZ.out]; exact if_neg (by rw [hB]; simp)
    subst EZ
    clear hB
    go_enter Try.func18, Try.ntmps18
    go_wp2_with (first | (refine wpList_box_v rfl 29 _ rfl (hv ⟨k, x, y, s, l, e, o, t⟩) rfl ?_; intro b3 w1 hb3 hw1 hB1 hV1; have hz1 := hB1.size) | (refine wpList_alloc_v rfl 29 rfl _ zeroH ?_; intro b5 w2 hb5 hw2 hB2 hV2; have hz2 := hB2.size; have hb : HB w2 b3 ⟨k, x, y, s, l, e, o, t⟩ := ⟨hV1.below hB2 hw1⟩; obtain ⟨c0, c1, c2, c3, c4, c5, c6, c7⟩ := hb.cells) | (go_at_call 10; refine (specHandOk_any H ⟨k, x, y, s, l, e, o, t⟩ _ hi _ (by omega) ((R.out.below hB1 hh).below hB2 (by omega))).mono ?_; rintro er w3 ⟨rfl, hB3⟩; rw [HB'.out]; have hz3 := hB3.size; have hV3 := hV2.below hB3 (by omega)) | (refine wpList_store_v rfl 29 _ _ rfl b5 (hv zeroD) rfl rfl sizeH (hV3.of (Below.heap_alloc _ _ _ (by omega))) rfl (hv_one _) ?_; intro w4 hO4 hV4) | (fail))
    refine row_tmp_cell rfl rfl rfl hV4 Try.underlying29 sizeH rfl ⟨_, rfl, ((own_empty w3).keep fun j j1 j2 => hO4.2.1 j (by omega)).wide (by omega) (by have := hO4.1; simp at this; omega), ?_⟩
    exact (((hB1.trans (hB2.mono hz1)).trans (hB3.mono (by omega))).alloc (by omega) _).trans (hO4.2.2 _ (by omega))

set_option maxHeartbeats 1000000 in
theorem specAlone_any (H : List C) (d : Hd) (v : Value) (hi : Nat) (w : World) (hh : hi ≤ w.heap.size) (r : Rd w hi v H) :
    Calls Try.prog 22 #[v, .agg (hv d).toArray] w fun e w' => ∃ v', e = .returned (.tuple #[v', .agg (hv (aloneP H d).2).toArray]) ∧ Own w' w.heap.size w'.heap.size v' (aloneP H d).1 ∧ Below w.heap.size w w' := by
  obtain ⟨a, cap, rfl⟩ := r.form
  have R : Hid (Rd w hi (.slice a H.length cap) H) := r
  clear r
  obtain ⟨k, x, y, s, l, e, o, t⟩ := d
  obtain ⟨Z, hZ⟩ := hid_ex (aloneP H ⟨k, x, y, s, l, e, o, t⟩)
  rw [hZ.out]
  cases hB : handB H ⟨k, x, y, s, l, e, o, t⟩ with
  | true =>
    have HB' : Hid (handB H ⟨k, x, y, s, l, e, o, t⟩ = true) := hB
    obtain ⟨hok, ok⟩ := handB_iff.1 hB
    have HO : Hid (heapOk H) := hok
    have OK : Hid (OkH H ⟨k, x, y, s, l, e, o, t⟩) := ok
    have EZ : Hid (alone 400 H ⟨k, x, y, s, l, e, o, t⟩ = Z) := by unfold Hid; rw [← hZ.out]; exact (if_pos hB).symm
    clear hok ok hB
    go_enter Try.func22, Try.ntmps22
    go_wp2_with (first | (refine wpList_box_v rfl 29 _ rfl (hv ⟨k, x, y, s, l, e, o, t⟩) rfl ?_; intro b3 w1 hb3 hw1 hB1 hV1; have hz1 := hB1.size) | (refine wpList_alloc_v rfl 29 rfl _ zeroH ?_; intro b5 w2 hb5 hw2 hB2 hV2; have hz2 := hB2.size; have hb : HB w2 b3 ⟨k, x, y, s, l, e, o, t⟩ := ⟨hV1.below hB2 hw1⟩; obtain ⟨c0, c1, c2, c3, c4, c5, c6, c7⟩ := hb.cells) | (go_at_call 10; refine (specHandOk_any H ⟨k, x, y, s, l, e, o, t⟩ _ hi _ (by omega) ((R.out.below hB1 hh).below hB2 (by omega))).mono ?_; rintro er w3 ⟨rfl, hB3⟩; rw [HB'.out]; have hz3 := hB3.size; clear c0 c1 c2 c3 c4 c5 c6 c7; have hb3' := hb.of (hB3.block b3 (by omega)); obtain ⟨c0, c1, c2, c3, c4, c5, c6, c7⟩ := hb3'.cells) | (go_at_call 50; refine (l5AloneA H ⟨k, x, y, s, l, e, o, t⟩ _ hi _ (by omega) (((R.out.below hB1 hh).below hB2 (by omega)).below hB3 (by omega)) HO.out OK.out).mono ?_; rintro er w4 ⟨v4, rfl, hO4, hB4⟩; rw [EZ.out] at hO4 ⊢; have hz4 := hB4.size; have hV4 := (hV2.below hB3 (by omega)).below hB4 (by omega)) | (refine wpList_store_v rfl 29 _ _ rfl b5 (hv Z.2) rfl rfl sizeH hV4 rfl (hv_one _) ?_; intro w5 hO5 hV5) | (fail))
    refine row_tmp_cell rfl rfl rfl hV5 Try.underlying29 sizeH rfl ⟨_, rfl, (hO4.keep fun j j1 j2 => hO5.2.1 j (by omega)).wide (by omega) (by have := hO5.1; omega), ?_⟩
    exact (((hB1.trans (hB2.mono hz1)).trans (hB3.mono (by omega))).trans (hB4.mono (by omega))).trans (hO5.2.2 _ (by omega))
  | false =>
    have HB' : Hid (handB H ⟨k, x, y, s, l, e, o, t⟩ = false) := hB
    have EZ : Z = ([], zeroD) := by rw [← hZ.out]; exact if_neg (by rw [hB]; simp)
    subst EZ
    clear hB
    go_enter Try.func22, Try.ntmps22
    go_wp2_with (first | (refine wpList_box_v rfl 29 _ rfl (hv ⟨k, x, y, s, l, e, o, t⟩) rfl ?_; intro b3 w1 hb3 hw1 hB1 hV1; have hz1 := hB1.size) | (refine wpList_alloc_v rfl 29 rfl _ zeroH ?_; intro b5 w2 hb5 hw2 hB2 hV2; have hz2 := hB2.size; have hb : HB w2 b3 ⟨k, x, y, s, l, e, o, t⟩ := ⟨hV1.below hB2 hw1⟩; obtain ⟨c0, c1, c2, c3, c4, c5, c6, c7⟩ := hb.cells) | (go_at_call 10; refine (specHandOk_any H ⟨k, x, y, s, l, e, o, t⟩ _ hi _ (by omega) ((R.out.below hB1 hh).below hB2 (by omega))).mono ?_; rintro er w3 ⟨rfl, hB3⟩; rw [HB'.out]; have hz3 := hB3.size; have hV3 := hV2.below hB3 (by omega)) | (refine wpList_store_v rfl 29 _ _ rfl b5 (hv zeroD) rfl rfl sizeH (hV3.of (Below.heap_alloc _ _ _ (by omega))) rfl (hv_one _) ?_; intro w4 hO4 hV4) | (fail))
    refine row_tmp_cell rfl rfl rfl hV4 Try.underlying29 sizeH rfl ⟨_, rfl, ((own_empty w3).keep fun j j1 j2 => hO4.2.1 j (by omega)).wide (by omega) (by have := hO4.1; simp at this; omega), ?_⟩
    exact (((hB1.trans (hB2.mono hz1)).trans (hB3.mono (by omega))).alloc (by omega) _).trans (hO4.2.2 _ (by omega))

theorem movedP_le (H : List C) (d : Hd) : (movedP H d).1.length ≤ 1048576 := by
  unfold movedP
  split
  · rename_i h
    obtain ⟨h1, h2⟩ := handB_iff.1 h
    have := (move_keeps h1 h2).heap.1.2
    omega
  · simp
theorem aloneP_le (H : List C) (d : Hd) : (aloneP H d).1.length ≤ 1048576 := by
  unfold aloneP
  split
  · rename_i h
    obtain ⟨h1, h2⟩ := handB_iff.1 h
    have := (alone_keeps 400 h1 h2).1.1.2
    omega
  · simp
end Go.Proofs.Ytodpbghkjnlfdaa.ce
/- A law for a scope with many labels: a jump is as good as the walk of what stands at its label. -/
namespace Go.Proofs.Ytodpbghkjnlfdaa.ce
set_option linter.unusedVariables false
variable {P : Program}

/-- how a run inside the scope c may leave a code of it: by an exit that Q allows, or by a jump from which the run comes to such an exit of the scope -/
def Scoped (P : Program) (c : Code) (Q : Exit → Act → World → Prop) : Exit → Act → World → Prop
  | .goto l, a, w => ∃ rest, findLabel c l = some rest ∧ ∀ b k cs, ∃ e a' w', Q e a' w' ∧ Arrives P (lone (b.at a (.code rest :: .inScope c :: k)) cs w) b k cs e a' w'
  | e, a, w => Q e a w

theorem scoped_ret {c : Code} {Q : Exit → Act → World → Prop} {a : Act} {w : World} (h : Q .ret a w) : Scoped P c Q .ret a w := h

theorem arrives_scope {c code : Code} {Q : Exit → Act → World → Prop} {a : Act} {w : World} (h : code.wp P (Scoped P c Q) a w) (b : Frame) (k : List Item) (cs : List Frame) :
    ∃ e a' w', Q e a' w' ∧ Arrives P (lone (b.at a (.code code :: .inScope c :: k)) cs w) b k cs e a' w' := by
  obtain ⟨e, a₁, w₁, hq, harr⟩ := h b (.inScope c :: k) cs
  cases e with
  | normal => exact ⟨.normal, a₁, w₁, hq, Steps.trans harr (.one step_inScope)⟩
  | exit id => exact ⟨.exit id, a₁, w₁, hq, fun k' hk => harr k' (by simp [exitTo, hk])⟩
  | goto l' =>
    obtain ⟨rest, hf, hr⟩ := hq
    have hg : gotoIn l' (.inScope c :: k) = some (.code rest :: .inScope c :: k) := by simp [gotoIn, hf]
    obtain ⟨e₂, a₂, w₂, hq₂, harr₂⟩ := hr b k cs
    exact ⟨e₂, a₂, w₂, hq₂, .of_steps (harr _ hg) harr₂⟩
  | ret => exact ⟨_, a₁, w₁, hq, harr⟩
  | panic ch => exact ⟨_, a₁, w₁, hq, harr⟩
  | outgrown => exact ⟨_, a₁, w₁, hq, harr⟩

/-- a jump to a label is as good as the walk of what stands there -/
theorem scoped_goto {c rest : Code} {l : Nat} {Q : Exit → Act → World → Prop} {a : Act} {w : World} (hf : findLabel c l = some rest) (h : rest.wp P (Scoped P c Q) a w) : Scoped P c Q (.goto l) a w :=
  ⟨rest, hf, fun b k cs => arrives_scope h b k cs⟩

/-- the scope itself -/
theorem wp_scope_all {c : Code} {Q : Exit → Act → World → Prop} {a : Act} {w : World} (h : c.wp P (Scoped P c Q) a w) : (Code.scope c).wp P Q a w := by
  intro b k cs
  obtain ⟨e, a₁, w₁, hq, harr⟩ := arrives_scope h b k cs
  refine ⟨e, a₁, w₁, hq, ?_⟩
  exact .of_steps (.one step_scope) harr
end Go.Proofs.Ytodpbghkjnlfdaa.ce
/- Laws: one field of a hand's variable is stored. -/
namespace Go.Proofs.Ytodpbghkjnlfdaa.ce
open Go.ChangeShapes Go.WideShapes Go.ChangeAt Go.RowKit
set_option linter.unusedVariables false

section laws
variable {ops : Array Oper} {Q : Exit → Act → World → Prop} {a : Act} {w : World} {rest : List Oper} {o : Oper}
theorem wpList_none {P : Program} (hgd : o.guard = none) {w' : World} (hr : (execOp a.eval o).run P w = .ok .skip w') (h : wpList P ops Q rest (a.put o.dst undef) w') : wpList P ops Q (o :: rest) a w :=
  wpList_plain hgd fun K hK => by unfold Oper.wp; rw [hr]; exact hK _ _ h
theorem HB.cell {w : World} {q : Nat} {d : Hd} (b : HB w q d) (j : Nat) (hj : j < 8) : w.cell? ⟨q, j, none⟩ = some ((hv d)[j]'(by simpa [hv] using hj)) := b.blk.cell j (by simpa [hv] using hj)
/-- one number is stored into a field of a hand's variable -/
theorem wpList_store_f (hgd : o.guard = none) (x y : Operand) (ho : o.op = .store 2 x y) (b j : Nat) (z : Int) (hx : a.eval x = .pointer (some ⟨b, j, none⟩)) (hy : a.eval y = .int .i64 z)
    {d : Hd} (d' : Hd) (hj : j < 8) (hb : HB w b d) (hset : (hv d).set j (.int .i64 z) = hv d')
    (h : ∀ w', Only b w w' → HB w' b d' → wpList Try.prog ops Q rest (a.put o.dst undef) w') : wpList Try.prog ops Q (o :: rest) a w := by
  have hc := hb.cell j hj
  have hf : w.frozen? ⟨b, j, none⟩ = false := hb.blk.frozen _
  refine wpList_none hgd (w' := w.setCell ⟨b, j, none⟩ (.int .i64 z)) ?_ (h _ (only_set _ _ _ _) (hb.set j z d' hset))
  unfold execOp
  simp only [ho, hx, hy]
  simp [go_sem, hc, hf]
end laws
end Go.Proofs.Ytodpbghkjnlfdaa.ce
/- Contract: the program's owned. -/
namespace Go.Proofs.Ytodpbghkjnlfdaa.ce
open Go.ChangeShapes Go.WideShapes Go.ChangeAt Go.RowKit
set_option linter.unusedVariables false

theorem put_swapOk {H : List C} {d : Hd} (hok : heapOk H) (ok : OkH H d) (hs : d.step = 2) (ho : d.own ≠ -1) (hf : ¬ found H d) : swapOk H d.own (nth H d.own).next d.here := by
  rcases ok.own' (by omega) with q | ⟨a, b, c, e, f, g, i⟩
  · exact absurd q ho
  refine ⟨⟨⟨by omega, b.2⟩, g, rfl⟩, ?_⟩
  rw [c]
  have hw := (ok.way (by omega)).2.2
  have ha := ok.act hs
  rcases hw with q | q
  · exact .inl q
  · refine .inr ⟨⟨by omega, q.2⟩, ?_⟩
    have hth : there H d = (nth H d.here).key := if_pos (by omega)
    rw [hth] at ha
    have : ¬ (nth H d.here).key = d.key := fun z => hf ⟨by omega, z⟩
    omega

set_option maxHeartbeats 2000000 in
theorem implOwned_any (H : List C) (d : Hd) (hok : heapOk H) (ok : OkH H d) (hs : d.step = 2) (hf : ¬ found H d) (v : Value) (hi : Nat) (w : World) (hh : hi ≤ w.heap.size) (r : Rd w hi v H) :
    Calls Try.prog 81 #[v, .agg (hv d).toArray] w fun e w' => ∃ v', e = .returned (.tuple #[v', .agg (hv (movePut H d).2).toArray]) ∧ Own w' w.heap.size w'.heap.size v' (movePut H d).1 ∧ Below w.heap.size w w' := by
  obtain ⟨a, cap, rfl⟩ := r.form
  have R : Hid (Rd w hi (.slice a H.length cap) H) := r
  clear r
  have SW := put_swapOk hok ok hs
  have hlo0 : d.own = -1 ∨ 1 ≤ d.own ∧ d.own < (H.length : Int) := by rcases ok.own with q | q; (· exact .inl q); (· exact .inr q.2.1)
  obtain ⟨k, x, y, s, l, e, o, t⟩ := d
  simp only [] at SW hlo0
  have es : s = 2 := hs
  subst es
  by_cases ho : o = -1
  · have go : (o == -1) = true := by simpa using ho
    by_cases hn : freshN H x y e < 0
    · have hn1 : freshN H x y e = -1 := by unfold freshN at hn ⊢; split at hn <;> (try split at hn) <;> simp_all <;> omega
      have FN : Hid (freshN H x y e = -1) := hn1
      have FH : Hid (freshH H x y e = H) := by unfold Hid freshH; rw [if_pos hok]; unfold freshN at hn1; rw [if_pos hok] at hn1; split at hn1; (· omega); (· rename_i q; rw [if_neg q])
      have MP : Hid (movePut H ⟨k, x, y, 2, l, e, o, t⟩ = (H, ⟨k, x, y, 5, -1, -1, -1, 2⟩)) := by unfold Hid movePut; rw [if_pos (by show o < 0; omega), if_pos hn]; simp [doneD, ho]
      rw [MP.out]
      clear hok ok hs hf SW hlo0 ho hn hn1
      have m1 : Hid True := trivial
      go_enter Try.func81, Try.ntmps81
      go_wp2_with (first | (refine wpList_box_v rfl 29 _ rfl (hv ⟨k, x, y, 2, l, e, o, t⟩) rfl ?_; intro b3 w1 hb3 hw1 hB1 hV1; have hz1 := hB1.size) | (refine wpList_alloc_v rfl 29 rfl _ zeroH ?_; intro b5 w2 hb5 hw2 hB2 hV2; have hz2 := hB2.size; have hb : HB w2 b3 ⟨k, x, y, 2, l, e, o, t⟩ := ⟨hV1.below hB2 hw1⟩; have hr5 : HB w2 b5 ⟨0, 0, 0, 0, 0, 0, 0, 0⟩ := ⟨hV2⟩; have hB : Below w.heap.size w w2 := hB1.trans (hB2.mono hz1); clear hV1 hV2; obtain ⟨c0, c1, c2, c3, c4, c5, c6, c7⟩ := hb.cells) | (go_at_call 87; refine (implFresh_any H x y e _ hi _ (by omega) (R.out.below hB hh)).mono ?_; rintro er w3 ⟨v', he, hO', hB3⟩; rw [FN.out] at he; rw [FH.out] at hO'; subst he; have hz3 := hB3.size; replace hb := hb.of (hB3.block b3 (by omega)); replace hr5 := hr5.of (hB3.block b5 (by omega)); clear c0 c1 c2 c3 c4 c5 c6 c7; obtain ⟨c0, c1, c2, c3, c4, c5, c6, c7⟩ := hb.cells; replace hB := hB.trans (hB3.mono (by omega)); have hlo : w.heap.size ≤ w2.heap.size := (by omega)) | (refine wpList_store_f rfl _ _ rfl b3 6 (-1) rfl rfl ⟨k, x, y, 2, l, e, -1, t⟩ (by omega) hb rfl ?_; intro w4 hO4 hb4; have hz4 := hO4.1; replace hb := hb4; clear hb4; clear c0 c1 c2 c3 c4 c5 c6 c7; obtain ⟨c0, c1, c2, c3, c4, c5, c6, c7⟩ := hb.cells; replace hr5 := hr5.of (hO4.2.1 b5 (by omega)); replace hB := hB.trans (hO4.2.2 _ (by omega)); replace hO' := hO'.only hO4 (by omega)) | (go_at_call 46; refine (rested_any ⟨k, x, y, 2, l, e, -1, t⟩ 5 2 _).mono ?_; rintro er w5 ⟨rfl, hB5⟩; have hz5 := hB5.size; dsimp only [restD, hv]; replace hr5 := hr5.of (hB5.block b5 (by omega)); replace hB := hB.trans (hB5.mono (by omega)); replace hO' := hO'.below hB5 (by omega)) | (refine wpList_store_v rfl 29 _ _ rfl b5 (hv ⟨k, x, y, 5, -1, -1, -1, 2⟩) rfl rfl sizeH hr5.blk rfl (hv_one _) ?_; intro w6 hO6 hV6; have hz6 := hO6.1) | (fail))
      refine row_tmp_cell rfl rfl rfl hV6 Try.underlying29 sizeH rfl ⟨_, rfl, (hO'.only hO6 (by omega)).wide (by omega) (by omega), hB.trans (hO6.2.2 _ (by omega))⟩
    · have hN : freshN H x y e = (H.length : Int) := by unfold freshN at hn ⊢; split at hn <;> (try split at hn) <;> simp_all
      have FN : Hid (freshN H x y e = (H.length : Int)) := hN
      obtain ⟨L, FH⟩ := hid_ex (freshH H x y e)
      have MP : Hid (movePut H ⟨k, x, y, 2, l, e, o, t⟩ = (L, ⟨k, x, y, 3, l, e, (H.length : Int), t⟩)) := by unfold Hid movePut; rw [if_pos (by show o < 0; omega), if_neg hn]; simp [FH.out, hN]
      rw [MP.out]
      clear hok ok hs hf SW hlo0 ho hn hN
      have gn : (((H.length : Int)) == -1) = false := by simp
      go_enter Try.func81, Try.ntmps81
      go_wp2_with (first | (refine wpList_box_v rfl 29 _ rfl (hv ⟨k, x, y, 2, l, e, o, t⟩) rfl ?_; intro b3 w1 hb3 hw1 hB1 hV1; have hz1 := hB1.size) | (refine wpList_alloc_v rfl 29 rfl _ zeroH ?_; intro b5 w2 hb5 hw2 hB2 hV2; have hz2 := hB2.size; have hb : HB w2 b3 ⟨k, x, y, 2, l, e, o, t⟩ := ⟨hV1.below hB2 hw1⟩; have hr5 : HB w2 b5 ⟨0, 0, 0, 0, 0, 0, 0, 0⟩ := ⟨hV2⟩; have hB : Below w.heap.size w w2 := hB1.trans (hB2.mono hz1); clear hV1 hV2; obtain ⟨c0, c1, c2, c3, c4, c5, c6, c7⟩ := hb.cells) | (go_at_call 87; refine (implFresh_any H x y e _ hi _ (by omega) (R.out.below hB hh)).mono ?_; rintro er w3 ⟨v', he, hO', hB3⟩; rw [FN.out] at he; rw [FH.out] at hO'; subst he; have hz3 := hB3.size; replace hb := hb.of (hB3.block b3 (by omega)); replace hr5 := hr5.of (hB3.block b5 (by omega)); clear c0 c1 c2 c3 c4 c5 c6 c7; obtain ⟨c0, c1, c2, c3, c4, c5, c6, c7⟩ := hb.cells; replace hB := hB.trans (hB3.mono (by omega)); have hlo : w.heap.size ≤ w2.heap.size := (by omega)) | (refine wpList_store_f rfl _ _ rfl b3 6 ((H.length : Int)) rfl rfl ⟨k, x, y, 2, l, e, (H.length : Int), t⟩ (by omega) hb rfl ?_; intro w4 hO4 hb4; have hz4 := hO4.1; replace hb := hb4; clear hb4; clear c0 c1 c2 c3 c4 c5 c6 c7; obtain ⟨c0, c1, c2, c3, c4, c5, c6, c7⟩ := hb.cells; replace hr5 := hr5.of (hO4.2.1 b5 (by omega)); replace hB := hB.trans (hO4.2.2 _ (by omega)); replace hO' := hO'.only hO4 (by omega)) | (refine wpList_store_f rfl _ _ rfl b3 3 (3) rfl rfl ⟨k, x, y, 3, l, e, (H.length : Int), t⟩ (by omega) hb rfl ?_; intro w5 hO5 hb5; have hz5 := hO5.1; replace hb := hb5; clear hb5; clear c0 c1 c2 c3 c4 c5 c6 c7; obtain ⟨c0, c1, c2, c3, c4, c5, c6, c7⟩ := hb.cells; replace hr5 := hr5.of (hO5.2.1 b5 (by omega)); replace hB := hB.trans (hO5.2.2 _ (by omega)); replace hO' := hO'.only hO5 (by omega)) | (fail))
      have S0 := hb.drew.cells
      obtain ⟨q0, q1, q2, q3, q4, q5, q6, q7⟩ := hr5.cells
      obtain ⟨g0, g1, g2, g3, g4, g5, g6, g7⟩ := hr5.fz
      have HR : Hid (HB w5 b5 ⟨0, 0, 0, 0, 0, 0, 0, 0⟩) := hr5
      clear hr5
      go_region
      go_wp2
      obtain ⟨hb8, hO8⟩ := fill8 HR.out (k) (x) (y) (3) (l) (e) ((H.length : Int)) (t)
      refine row_tmp_cell rfl rfl rfl hb8.blk Try.underlying29 sizeH rfl ⟨_, rfl, (hO'.only hO8 (by omega)).wide (by omega) (by have := hO8.1; omega), hB.trans (hO8.2.2 _ (by omega))⟩
  · have go : (o == -1) = false := by simpa using ho
    have hr := hlo0.resolve_left ho
    obtain ⟨i, rfl⟩ : ∃ i : Nat, o = i := ⟨o.toNat, by omega⟩
    have hi1 : i < H.length := by omega
    have hi1' : (i : Int) < H.length := by omega
    have en := nth_nat H i hi1
    have hsw := SW ho hf
    rw [en] at hsw
    obtain ⟨b, off, rfl, hbh, -, -, e2, -⟩ := R.out.cell i hi1
    obtain ⟨q, hq⟩ := hid_ex (H[i].next)
    rw [hq.out] at e2 hsw
    have SB : Hid (swappedB H (i : Int) q e = true) := by unfold Hid swappedB; rw [if_pos hok]; exact decide_eq_true hsw
    have SH : Hid (swappedH H (i : Int) q e = swapH H (i : Int) e) := by unfold Hid swappedH swap1; rw [if_pos hok, if_pos hsw]
    have MP : Hid (movePut H ⟨k, x, y, 2, l, e, (i : Int), t⟩ = (swapH H (i : Int) e, ⟨k, x, y, 3, l, e, (i : Int), t⟩)) := by unfold Hid movePut; rw [if_neg (by show ¬ (i : Int) < 0; omega)]
    rw [MP.out]
    clear hok ok hs hf SW hlo0 ho hr hsw
    go_enter Try.func81, Try.ntmps81
    go_wp2_with (first | (refine wpList_box_v rfl 29 _ rfl (hv ⟨k, x, y, 2, l, e, (i : Int), t⟩) rfl ?_; intro b3 w1 hb3 hw1 hB1 hV1; have hz1 := hB1.size) | (refine wpList_alloc_v rfl 29 rfl _ zeroH ?_; intro b5 w2 hb5 hw2 hB2 hV2; have hz2 := hB2.size; have hb : HB w2 b3 ⟨k, x, y, 2, l, e, (i : Int), t⟩ := ⟨hV1.below hB2 hw1⟩; have hr5 : HB w2 b5 ⟨0, 0, 0, 0, 0, 0, 0, 0⟩ := ⟨hV2⟩; have hB : Below w.heap.size w w2 := hB1.trans (hB2.mono hz1); clear hV1 hV2; obtain ⟨c0, c1, c2, c3, c4, c5, c6, c7⟩ := hb.cells) | (fail))
    have f2 : w2.drew.cell? ⟨b, off + i * 4 + 2, none⟩ = some (.int .i64 q) := (World.cell?_of_block (w := w) (w' := w2.drew) (a := ⟨b, off + i * 4 + 2, none⟩) (hB.drew.block b (by omega))).trans e2
    have S0 : w2.drew.cell? ⟨b3, 6, none⟩ = some (.int .i64 (i : Int)) ∧ w2.drew.cell? ⟨b3, 5, none⟩ = some (.int .i64 e) ∧ w2.drew.cell? ⟨b, off + i * 4 + 2, none⟩ = some (.int .i64 q) := ⟨c6, c5, f2⟩
    go_region_held3 (fun w' => w'.cell? ⟨b3, 6, none⟩ = some (.int .i64 (i : Int)) ∧ w'.cell? ⟨b3, 5, none⟩ = some (.int .i64 e) ∧ w'.cell? ⟨b, off + i * 4 + 2, none⟩ = some (.int .i64 q)) (first | assumption | exact S0 | (fail)) (first | (go_at_call 72; refine (implSwapped_any H (i : Int) q e _ hi w2.drew (by show hi ≤ w2.heap.size; omega) (R.out.below hB.drew hh)).mono ?_; rintro er w3 ⟨v', he, hO', hB3⟩; rw [SB.out] at he; rw [SH.out] at hO'; subst he; have hz3 : w2.heap.size ≤ w3.heap.size := hB3.size; replace hb := hb.of (w' := w3) (hB3.block b3 (by show b3 < w2.heap.size; omega)); replace hr5 := hr5.of (w' := w3) (hB3.block b5 (by show b5 < w2.heap.size; omega)); have f3 := (World.cell?_of_block (w := w2.drew) (w' := w3) (a := ⟨b, off + i * 4 + 2, none⟩) (hB3.block b (by show b < w2.heap.size; omega))).trans f2; clear c0 c1 c2 c3 c4 c5 c6 c7; obtain ⟨c0, c1, c2, c3, c4, c5, c6, c7⟩ := hb.cells; replace hB := hB.drew.trans (hB3.mono (by show w.heap.size ≤ w2.heap.size; omega)); have S3 := And.intro c6 (And.intro c5 f3)) | (fail))
    have hO' : Own w3 w2.heap.size w3.heap.size v' (swapH H (i : Int) e) := hO'
    go_wp2_with (first | (refine wpList_store_f rfl _ _ rfl b3 3 (3) rfl rfl ⟨k, x, y, 3, l, e, (i : Int), t⟩ (by omega) hb rfl ?_; intro w4 hO4 hb4; have hz4 := hO4.1; replace hb := hb4; clear hb4; clear c0 c1 c2 c3 c4 c5 c6 c7; obtain ⟨c0, c1, c2, c3, c4, c5, c6, c7⟩ := hb.cells; replace hr5 := hr5.of (hO4.2.1 b5 (by omega)); replace hB := hB.trans (hO4.2.2 _ (by omega)); replace hO' := hO'.only hO4 (by omega)) | (fail))
    have S0 := hb.drew.cells
    obtain ⟨q0, q1, q2, q3, q4, q5, q6, q7⟩ := hr5.cells
    obtain ⟨g0, g1, g2, g3, g4, g5, g6, g7⟩ := hr5.fz
    have HR : Hid (HB w4 b5 ⟨0, 0, 0, 0, 0, 0, 0, 0⟩) := hr5
    clear hr5
    go_region
    go_wp2
    obtain ⟨hb8, hO8⟩ := fill8 HR.out (k) (x) (y) (3) (l) (e) ((i : Int)) (t)
    refine row_tmp_cell rfl rfl rfl hb8.blk Try.underlying29 sizeH rfl ⟨_, rfl, (hO'.only hO8 (by omega)).wide (by omega) (by have := hO8.1; omega), hB.trans (hO8.2.2 _ (by omega))⟩
end Go.Proofs.Ytodpbghkjnlfdaa.ce
