/- Mathematics of books, second part: what a command does to a book; what the laws FnBooks, FnCas say. -/
import Derived.Test.YtmnjmghlkiljhaaBx0
namespace Go.Proofs.Ytmnjmghlkiljhaa.rg
open Go.RowKit
open Go.Proofs.Ytmnjmghlkiljhaa.cm
set_option linter.unusedVariables false

def rp (k : Int) : Rp := ⟨k, emp, 0, emp, 0, 0⟩
def fresh (c : Cm) : It := ⟨c.N, c.F, c.B, 0, c.U⟩
def keepK (b : Bk) (i : It) : Bk × Rp := if stampOk b i = true then (stampR b i, rp 1) else (b, rp 2)
def keepBig (b : Bk) (i : It) : Bk × Rp := if i.B.size > 64 then (b, rp 12) else keepK b i
def touchI (u : Int) (x : It) : It := ⟨x.N, x.F, x.B, x.C, u⟩
def touchL (l : List It) (s : ByteArray) (u : Int) : List It := l.map fun x => if x.N = s then touchI u x else x
def dropL (l : List It) (s : ByteArray) : List It := l.filter fun x => decide (x.N ≠ s)
/-- a number from 0 on, as it is shown -/
def numB (s : ByteArray) : Option Nat := if canon (bs s) = true then some (val 0 (bs s)) else none
def upN (c : Cm) (n : Nat) : Nat := if c.V = 9 then (n + c.D.toNat) % 1000000000 else n - c.D.toNat
def withB (o : It) (l : List UInt8) : It := ⟨o.N, o.F, tx l, o.C, o.U⟩
def doK (b : Bk) (c : Cm) : Bk × Rp :=
  if c.V = 13 then (⟨[], b.X⟩, rp 9)
  else if c.V = 3 then keepK b (fresh c)
  else match lookI b.I c.N with
  | none => if c.V = 4 then keepK b (fresh c) else if c.V = 5 ∨ c.V = 6 ∨ c.V = 7 then (b, rp 2) else (b, rp 4)
  | some o =>
    if c.V = 4 then (b, rp 2)
    else if c.V = 5 then keepBig b (fresh c)
    else if c.V = 6 then keepBig b (withB o (bs o.B ++ bs c.B))
    else if c.V = 7 then keepBig b (withB o (bs c.B ++ bs o.B))
    else if c.V = 1 ∨ c.V = 2 then (b, ⟨5, o.N, o.F, o.B, if c.V = 2 then o.C else 0, 0⟩)
    else if c.V = 8 then (if o.C = c.C then keepK b (fresh c) else (b, rp 3))
    else if c.V = 11 then (⟨touchL b.I c.N c.U, b.X⟩, rp 7)
    else if c.V = 12 then (⟨dropL b.I c.N, b.X⟩, rp 8)
    else match numB o.B with
      | none => (b, rp 11)
      | some n => ((if stampOk b (withB o (digs (upN c n))) = true then stampR b (withB o (digs (upN c n))) else b), ⟨6, emp, 0, emp, 0, (upN c n : Int)⟩)
open Classical in
noncomputable def diR (b : Bk) (c : Cm) (now : Int) : Bk × Rp :=
  if (storeB b && timeB now) = true then (if cmdB c = true then doK (agR b now) c else (b, rp 10)) else (Bk.zero, rp 10)

theorem rp_ok {k : Int} (h0 : 1 ≤ k) (h1 : k ≤ 12) (h5 : k ≠ 5) (h6 : k ≠ 6) : POk (rp k) :=
  ⟨h0, h1, fun h => absurd h h5, fun _ => rfl, fun h => absurd h h5, fun _ => rfl, by show emp.size ≤ 64; decide, fun _ => rfl, fun h => absurd h h5, fun _ => rfl, fun h => absurd h h6, fun _ => rfl⟩
theorem touch_map (l : List It) (s : ByteArray) (u : Int) : (touchL l s u).map (·.N) = l.map (·.N) := by
  unfold touchL
  rw [List.map_map]
  refine List.map_congr_left fun x _ => ?_
  show (if x.N = s then touchI u x else x).N = x.N
  split <;> rfl
theorem touch_ok {l : List It} (h : BOk l) (s : ByteArray) {u : Int} (h0 : 0 ≤ u) (h1 : u ≤ 1000000) : BOk (touchL l s u) := by
  refine ⟨fun i hi => ?_, by rw [touch_map]; exact h.2.1, by unfold touchL; rw [List.length_map]; exact h.2.2⟩
  obtain ⟨x, hx, rfl⟩ := List.mem_map.1 hi
  have hk := itemB_iff.1 (h.1 x hx)
  split
  · exact itemB_iff.2 ⟨hk.nm, hk.f0, hk.f1, hk.b1, hk.c0, hk.c1, h0, h1⟩
  · exact h.1 x hx
theorem touch_stays {l : List It} {s : ByteArray} {u : Int} {x : It} (hx : x ∈ l) (hn : x.N ≠ s) : x ∈ touchL l s u := List.mem_map.2 ⟨x, hx, if_neg hn⟩
/-- by its place -/
theorem touch_at {l : List It} (h : Srt l) {k : Nat} (hk : k < l.length) (u : Int) : touchL l l[k].N u = l.set k (touchI u l[k]) := by
  have e0 : touchL l l[k].N u = l.map fun x => if x.N = l[k].N then touchI u x else x := rfl
  rw [e0]
  refine List.ext_getElem (by simp) fun j h1 h2 => ?_
  rw [List.getElem_map, List.getElem_set]
  have hj : j < l.length := by simpa using h1
  by_cases e : k = j
  · subst e
    rw [if_pos rfl, if_pos rfl]
  · rw [if_neg e, if_neg]
    intro en
    rcases Nat.lt_or_gt_of_ne e with q | q
    · exact ltS_ne (List.pairwise_iff_getElem.1 h k j hk hj q) en.symm
    · exact ltS_ne (List.pairwise_iff_getElem.1 h j k hj hk q) en
theorem drop_at {l : List It} (h : Srt l) {k : Nat} (hk : k < l.length) : dropL l l[k].N = l.take k ++ l.drop (k + 1) := by
  have h1 : l = l.take k ++ l[k] :: l.drop (k + 1) := by simp
  have h0 : ∀ s : ByteArray, dropL l s = (l.take k ++ l[k] :: l.drop (k + 1)).filter fun x => decide (x.N ≠ s) := fun s => by rw [← h1]; rfl
  rw [h0, List.filter_append, List.filter_cons, if_neg (by simp)]
  congr 1
  · rw [List.filter_eq_self]
    intro x hx
    obtain ⟨j, hj, e⟩ := List.mem_iff_getElem.1 hx
    simp at hj e
    rw [← e]
    exact decide_eq_true (ltS_ne (List.pairwise_iff_getElem.1 h j k (by omega) hk (by omega)))
  · rw [List.filter_eq_self]
    intro x hx
    obtain ⟨j, hj, e⟩ := List.mem_iff_getElem.1 hx
    simp at hj e
    rw [← e]
    exact decide_eq_true fun q => ltS_ne (List.pairwise_iff_getElem.1 h k (k + 1 + j) hk (by omega) (by omega)) q.symm
theorem drop_no {l : List It} {s : ByteArray} (h : ∀ x ∈ l, x.N ≠ s) : dropL l s = l := by
  unfold dropL
  rw [List.filter_eq_self]
  exact fun x hx => decide_eq_true (h x hx)
theorem drop_ok {l : List It} (h : BOk l) (s : ByteArray) : BOk (dropL l s) :=
  bok_of (fun i hi => h.1 i (List.mem_filter.1 hi).1) (h.srt.filter _) (Nat.le_trans (List.length_filter_le _ _) h.2.2)
theorem drop_stays {l : List It} {s : ByteArray} {x : It} (hx : x ∈ l) (hn : x.N ≠ s) : x ∈ dropL l s := List.mem_filter.2 ⟨hx, decide_eq_true hn⟩

/-- what FnBooks says of a right command on a right book -/
structure Did (a : Bk) (c : Cm) (r : Bk × Rp) : Prop where
  ok : StOk r.1
  rk : POk r.2
  stay : c.V ≠ 13 → ∀ y ∈ a.I, y.N ≠ c.N → y ∈ r.1.I
  new : r.2.K = 1 ∨ r.2.K = 6 → ∃ y ∈ r.1.I, y.N = c.N ∧ y.C = a.X
  same : r.2.K ≠ 1 → r.2.K ≠ 6 → c.V = 11 ∨ c.V = 12 ∨ c.V = 13 ∨ r.1 = a
theorem did_same {a : Bk} {c : Cm} (h : StOk a) {r : Rp} (hr : POk r) (h1 : r.K ≠ 1) (h6 : r.K ≠ 6) : Did a c (a, r) :=
  ⟨h, hr, fun _ y hy _ => hy, fun q => by rcases q with q | q; exact absurd q h1; exact absurd q h6, fun _ _ => .inr (.inr (.inr rfl))⟩
theorem did_keep {a : Bk} {c : Cm} (h : StOk a) {i : It} (hi : i.N = c.N) : Did a c (keepK a i) := by
  unfold keepK
  split
  · rename_i hs
    obtain ⟨s1, s2, s3⟩ := stamp_ok h hs
    exact ⟨s1, rp_ok (by decide) (by decide) (by decide) (by decide), fun _ y hy hn => s3 y hy (by rw [hi]; exact hn), fun _ => ⟨_, s2, hi, rfl⟩, fun q _ => absurd rfl q⟩
  · exact did_same h (rp_ok (by decide) (by decide) (by decide) (by decide)) (by decide) (by decide)
theorem did_big {a : Bk} {c : Cm} (h : StOk a) {i : It} (hi : i.N = c.N) : Did a c (keepBig a i) := by
  unfold keepBig
  split
  · exact did_same h (rp_ok (by decide) (by decide) (by decide) (by decide)) (by decide) (by decide)
  · exact did_keep h hi
theorem up_le {c : Cm} {n : Nat} (h : n ≤ 999999999) : upN c n ≤ 999999999 := by
  unfold upN
  split
  · have := Nat.mod_lt (n + c.D.toNat) (show 0 < 1000000000 by decide)
    omega
  · omega
theorem numB_some {s : ByteArray} {n : Nat} (h : numB s = some n) : canon (bs s) = true ∧ val 0 (bs s) = n ∧ n ≤ 999999999 := by
  unfold numB at h
  split at h
  · rename_i hc
    have := Option.some.inj h
    exact ⟨hc, this, by rw [← this]; exact val_canon hc⟩
  · cases h
/-- a number in the place of a thing's bytes is always stamped -/
theorem stamp_num {a : Bk} (h : StOk a) {o : It} (ho : o ∈ a.I) {m : Nat} (hm : m ≤ 999999999) : stampOk a (withB o (digs m)) = true := by
  have hk := itemB_iff.1 (h.bk.1 o ho)
  have hl : (digs m).length ≤ 9 := digs_len 8 m (by omega)
  have hp := (put_len h.bk.srt (stampI a (withB o (digs m)))).2 ⟨o, ho, rfl⟩
  have h20 := h.bk.2.2
  unfold stampOk
  rw [hp]
  simp only [Bool.and_eq_true, decide_eq_true_eq]
  refine ⟨itemB_iff.2 ⟨hk.nm, hk.f0, hk.f1, ?_, h.x0, h.x1, hk.u0, hk.u1⟩, by omega⟩
  show (tx (digs m)).size ≤ 64
  rw [tx_size]
  omega
theorem do_none {a : Bk} {c : Cm} (h : StOk a) : Did a c (if c.V = 4 then keepK a (fresh c) else if c.V = 5 ∨ c.V = 6 ∨ c.V = 7 then (a, rp 2) else (a, rp 4)) := by
  by_cases h4 : c.V = 4
  · rw [if_pos h4]
    exact did_keep h rfl
  · rw [if_neg h4]
    by_cases h5 : c.V = 5 ∨ c.V = 6 ∨ c.V = 7
    · rw [if_pos h5]
      exact did_same h (rp_ok (by decide) (by decide) (by decide) (by decide)) (by decide) (by decide)
    · rw [if_neg h5]
      exact did_same h (rp_ok (by decide) (by decide) (by decide) (by decide)) (by decide) (by decide)
theorem do_up {a : Bk} {c : Cm} (h : StOk a) {o : It} (ho : o ∈ a.I) (hn : o.N = c.N) : Did a c (match numB o.B with
      | none => (a, rp 11)
      | some n => ((if stampOk a (withB o (digs (upN c n))) = true then stampR a (withB o (digs (upN c n))) else a), ⟨6, emp, 0, emp, 0, (upN c n : Int)⟩)) := by
  cases hnum : numB o.B with
  | none => exact did_same h (rp_ok (by decide) (by decide) (by decide) (by decide)) (by decide) (by decide)
  | some n =>
    obtain ⟨-, -, hle⟩ := numB_some hnum
    have hu := up_le (c := c) hle
    have hs := stamp_num h ho hu
    obtain ⟨s1, s2, s3⟩ := stamp_ok h hs
    dsimp only
    rw [if_pos hs]
    refine ⟨s1, ⟨by show (1 : Int) ≤ 6; decide, by show (6 : Int) ≤ 12; decide, fun q => absurd q (by show ¬ ((6 : Int) = 5); decide), fun _ => rfl, fun q => absurd q (by show ¬ ((6 : Int) = 5); decide), fun _ => rfl, by show emp.size ≤ 64; decide, fun _ => rfl, fun q => absurd q (by show ¬ ((6 : Int) = 5); decide), fun _ => rfl, fun _ => ?_, fun q => absurd rfl q⟩, fun _ y hy hn2 => s3 y hy (by show y.N ≠ o.N; rw [hn]; exact hn2), fun _ => ⟨_, s2, hn, rfl⟩, fun _ q => absurd rfl q⟩
    show (0 : Int) ≤ (upN c n : Int) ∧ (upN c n : Int) ≤ 999999999
    omega
theorem no16 {r : Rp} {P : Prop} (h1 : r.K ≠ 1) (h6 : r.K ≠ 6) : r.K = 1 ∨ r.K = 6 → P := fun q => by
  rcases q with q | q
  · exact absurd q h1
  · exact absurd q h6
theorem do_did {a : Bk} {c : Cm} (h : StOk a) (hc : COk c) : Did a c (doK a c) := by
  unfold doK
  by_cases h13 : c.V = 13
  · rw [if_pos h13]
    exact ⟨⟨⟨by simp, by simp, by simp⟩, h.x0, h.x1⟩, rp_ok (by decide) (by decide) (by decide) (by decide), fun q => absurd h13 q, no16 (r := rp 9) (by decide) (by decide), fun _ _ => .inr (.inr (.inl h13))⟩
  rw [if_neg h13]
  by_cases h3 : c.V = 3
  · rw [if_pos h3]
    exact did_keep h rfl
  rw [if_neg h3]
  cases e : lookI a.I c.N with
  | none => exact do_none h
  | some o =>
    obtain ⟨ho, hn, -⟩ := look_some e
    have hk := itemB_iff.1 (h.bk.1 o ho)
    dsimp only
    by_cases h4 : c.V = 4
    · rw [if_pos h4]
      exact did_same h (rp_ok (by decide) (by decide) (by decide) (by decide)) (by decide) (by decide)
    rw [if_neg h4]
    by_cases h5 : c.V = 5
    · rw [if_pos h5]
      exact did_big h rfl
    rw [if_neg h5]
    by_cases h6 : c.V = 6
    · rw [if_pos h6]
      exact did_big h hn
    rw [if_neg h6]
    by_cases h7 : c.V = 7
    · rw [if_pos h7]
      exact did_big h hn
    rw [if_neg h7]
    by_cases h12 : c.V = 1 ∨ c.V = 2
    · rw [if_pos h12]
      refine did_same h ⟨by show (1 : Int) ≤ 5; decide, by show (5 : Int) ≤ 12; decide, fun _ => hk.nm, fun q => absurd rfl q, fun _ => ⟨hk.f0, hk.f1⟩, fun q => absurd rfl q, hk.b1, fun q => absurd rfl q, fun _ => ?_, fun q => absurd rfl q, fun q => absurd q (by show ¬ ((5 : Int) = 6); decide), fun _ => rfl⟩ (by show (5 : Int) ≠ 1; decide) (by show (5 : Int) ≠ 6; decide)
      have q1 := hk.c0
      have q2 := hk.c1
      show (0 : Int) ≤ (if c.V = 2 then o.C else 0) ∧ (if c.V = 2 then o.C else 0) ≤ 1000000
      by_cases h2 : c.V = 2
      · rw [if_pos h2]
        omega
      · rw [if_neg h2]
        omega
    rw [if_neg h12]
    by_cases h8 : c.V = 8
    · rw [if_pos h8]
      by_cases hx : o.C = c.C
      · rw [if_pos hx]
        exact did_keep h rfl
      · rw [if_neg hx]
        exact did_same h (rp_ok (by decide) (by decide) (by decide) (by decide)) (by decide) (by decide)
    rw [if_neg h8]
    by_cases h11 : c.V = 11
    · rw [if_pos h11]
      exact ⟨⟨touch_ok h.bk _ hc.u1.1 hc.u1.2, h.x0, h.x1⟩, rp_ok (by decide) (by decide) (by decide) (by decide), fun _ y hy hn => touch_stays hy hn, no16 (r := rp 7) (by decide) (by decide), fun _ _ => .inl h11⟩
    rw [if_neg h11]
    by_cases hcut : c.V = 12
    · rw [if_pos hcut]
      exact ⟨⟨drop_ok h.bk _, h.x0, h.x1⟩, rp_ok (by decide) (by decide) (by decide) (by decide), fun _ y hy hn => drop_stays hy hn, no16 (r := rp 8) (by decide) (by decide), fun _ _ => .inr (.inl hcut)⟩
    rw [if_neg hcut]
    exact do_up h ho hn

/-! ### FnCas -/
/-- what is stored is told with its stamp -/
theorem gets_told {x : Bk} (h : StOk x) {y : It} (hy : y ∈ x.I) (c : Cm) (hv : c.V = 2) (hn : c.N = y.N) : doK x c = (x, ⟨5, y.N, y.F, y.B, y.C, 0⟩) := by
  unfold doK
  rw [hn, look_mem h.bk.srt hy]
  simp [hv]
theorem cas_stores {x : Bk} (h : StOk x) {y : It} (hy : y ∈ x.I) (c : Cm) (hc : COk c) (hv : c.V = 8) (hn : c.N = y.N) (hx : y.C = c.C) : doK x c = (stampR x (fresh c), rp 1) := by
  have hs : stampOk x (fresh c) = true := by
    have hp := (put_len h.bk.srt (stampI x (fresh c))).2 ⟨y, hy, hn.symm⟩
    have h20 := h.bk.2.2
    unfold stampOk
    rw [hp]
    simp only [Bool.and_eq_true, decide_eq_true_eq]
    exact ⟨itemB_iff.2 ⟨hc.nm (by omega), hc.f1.1, hc.f1.2, hc.b1, h.x0, h.x1, hc.u1.1, hc.u1.2⟩, by omega⟩
  unfold doK
  rw [hn, look_mem h.bk.srt hy]
  simp [hv, hx, keepK, hs]
theorem cas_exists {x : Bk} (h : StOk x) {y : It} (hy : y ∈ x.I) (c : Cm) (hv : c.V = 8) (hn : c.N = y.N) (hx : y.C ≠ c.C) : doK x c = (x, rp 3) := by
  unfold doK
  rw [hn, look_mem h.bk.srt hy]
  simp [hv, hx]
end Go.Proofs.Ytmnjmghlkiljhaa.rg
