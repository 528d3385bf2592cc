/- Texts laid together: Rk6 Sc1 Sc2 Ev2 Rw1. -/
import Derived.Test.YtaabmkhckbndgaaGreatDoorMg15
import Derived.Test.YtaabmkhckbndgaaGreatDoorEv1
import Derived.Deep.DeepCutAuto
import Derived.Deep.RegionHeld3
import Derived.BigQuiet
import Derived.Lib.LaidTab
import Derived.LaidMore
import Derived.Lay
import Derived.ChangeOld
/- Contracts: is a reply right, the program's, of whatever kind. -/
namespace Go.Proofs.YtaabmkhckbndgaaGreatDoor.cm
open Go.ChangeShapes Go.WideShapes Go.ChangeAt Go.RowKit
open Go.Proofs.YtaabmkhckbndgaaGreatDoor.ce Go.Proofs.YtaabmkhckbndgaaGreatDoor.ro Go.Proofs.YtaabmkhckbndgaaGreatDoor.rg
set_option linter.unusedVariables false

theorem implReplyOk_any (K : Int) (N : ByteArray) (F : Int) (B : ByteArray) (C M : Int) (y : Bool) (hy : Hid (repB ⟨K, N, F, B, C, M⟩ = y)) (hN : N.size ≤ 9223372036854775807) (hB : B.size ≤ 9223372036854775807) (w : World) :
    Calls Tryz.prog 30 #[.agg #[.int .i64 K, .string N, .int .i64 F, .string B, .int .i64 C, .int .i64 M]] w fun e w' => e = .returned (.bool y) ∧ Below w.heap.size w w' := by
  cases hin : (decide (1 ≤ K) && decide (K ≤ 12)) with
  | false =>
    have hy2 : false = y := by rw [← hy.out]; exact (rep_out (r := ⟨K, N, F, B, C, M⟩) hin).symm
    subst hy2
    exact okI_out K N F B C M hin w
  | true =>
    have hk : 1 ≤ K ∧ K ≤ 12 := by simpa using hin
    by_cases k5 : K = 5
    · subst k5
      exact okI_val N F B C M y (by have := hy.out; rw [rep_val] at this; exact this) hN hB w
    · by_cases k6 : K = 6
      · subst k6
        exact okI_num N F B C M y (by have := hy.out; rw [rep_num] at this; exact this) w
      · exact okI_bare K N F B C M y (by have := hy.out; rw [rep_bare hk.1 hk.2 k5 k6] at this; exact this) hin (by simpa using k5) (by simpa using k6) w
end Go.Proofs.YtaabmkhckbndgaaGreatDoor.cm
/- Contracts: how a command is shown, the program's. -/
namespace Go.Proofs.YtaabmkhckbndgaaGreatDoor.cm
open Go.ChangeShapes Go.WideShapes Go.ChangeAt Go.RowKit
open Go.Deep Go.Joins
open Go.Proofs.YtaabmkhckbndgaaGreatDoor.ce Go.Proofs.YtaabmkhckbndgaaGreatDoor.ro Go.Proofs.YtaabmkhckbndgaaGreatDoor.rg
set_option linter.unusedVariables false

/-- what adding a word may change: the variable b, and rows of texts from lo on -/
structure Ad (lo b : Nat) (w w' : World) : Prop where
  low : Below lo w w'
  keep : ∀ (k : Nat) (cur : Array Value) (t' : TypeId) (f : Nat × Nat), w.heap[k]? = some (.cells cur t' f) → t' ≠ 9 → k ≠ b → w'.heap[k]? = w.heap[k]?
theorem Ad.vblk {lo b b' : Nat} {w w' : World} {t : TypeId} {vs : List Value} (h : Ad lo b w w') (hb : VBlk w b' t vs) (ht : t ≠ 9) (hn : b' ≠ b) : VBlk w' b' t vs := hb.of (h.keep b' _ t _ hb ht hn)
set_option maxHeartbeats 1000000 in
theorem add_any (t : Bool) (x : ByteArray) (b4 lo hi : Nat) (v : Value) (ws : List ByteArray) (w : World) (hV : VBlk w b4 69 [v]) (own : Own encS w lo hi v ws) (hlo : lo ≤ b4) (hl : ws.length ≤ 100) :
    Calls Tryz.prog 56 #[.bool t, .string x, .pointer (some ⟨b4, 0, none⟩)] w fun e w' => e = .returned (.tuple #[]) ∧ ∃ v', VBlk w' b4 69 [v'] ∧ Own encS w' lo w'.heap.size v' (ws ++ (if t then [x] else [])) ∧ Ad lo b4 w w' := by
  have h4 : lo ≤ w.heap.size := by have := hV.lt; omega
  have VV : Hid (VBlk w b4 69 [v]) := hV
  have OO : Hid (Own encS w lo hi v ws) := own
  have c4 := hV.cell 0 (by simp)
  obtain ⟨A, n, k, rfl⟩ := own.slice
  clear hV own
  cases t with
  | false =>
    go_enter Tryz.func56, Tryz.ntmps56
    go_wp2
    go_end0
    exact ⟨rfl, _, VV.out, by simpa using OO.out.top, Below.refl _ _, fun _ _ _ _ _ _ _ => rfl⟩
  | true =>
    have m1 : Hid True := trivial
    go_enter Tryz.func56, Tryz.ntmps56
    go_wp2_with (first | (clear m1; at_builtin; refine wpList_append_g infoS rfl _ _ 69 rfl Tryz.underlying69 lo _ _ ws rfl (OO.out.grow (bAl w _)) (by simp; omega) _ [x] rfl (rd_new (E := encS) w x #[.string x] rfl) (by simp; omega) ?_; intro v7 w7 o7 hT7; have V7 := hT7.vblk (vblk_grow VV.out (bAl w _)) (by decide); have c7 := V7.cell 0 (by simp); have f7 := V7.frozen 0; obtain ⟨A7, n7, k7, rfl⟩ := o7.slice) | (fail))
    go_end0
    have hO := only_set w7 b4 0 (.slice A7 n7 k7)
    refine ⟨rfl, .slice A7 n7 k7, ?_, ?_, ?_, ?_⟩
    · exact VBlk.set (w := w7) (b := b4) (t := 69) (vs := [.slice A n k]) V7 0 (.slice A7 n7 k7)
    · have := o7.only hO V7 (by decide)
      exact this.top
    · exact (((bAl w _).mono h4).trans hT7.low).trans (hO.2.2 _ hlo)
    · intro g cur t' fz hg ht hn
      have h1 : (w.alloc (.cells #[.string x] 9)).heap[g]? = w.heap[g]? := (bAl w _).block g (Array.getElem?_eq_some_iff.1 hg).1
      rw [hO.2.1 g hn, hT7.keep g cur t' fz (by rw [h1]; exact hg) ht, h1]
end Go.Proofs.YtaabmkhckbndgaaGreatDoor.cm
/- Contracts: how a command is shown, the program's, second part. -/
namespace Go.Proofs.YtaabmkhckbndgaaGreatDoor.cm
open Go.ChangeShapes Go.WideShapes Go.ChangeAt Go.RowKit
open Go.Deep Go.Joins
open Go.Proofs.YtaabmkhckbndgaaGreatDoor.ce Go.Proofs.YtaabmkhckbndgaaGreatDoor.ro Go.Proofs.YtaabmkhckbndgaaGreatDoor.rg
set_option linter.unusedVariables false

theorem hs15 {p0 p1 p2 p3 p4 p5 p6 p7 q0 q1 q2 q3 q4 q5 q6 : Prop} (h : p0 ∧ p1 ∧ p2 ∧ p3 ∧ p4 ∧ p5 ∧ p6 ∧ p7) (k : q0 ∧ q1 ∧ q2 ∧ q3 ∧ q4 ∧ q5 ∧ q6) : p0 ∧ p1 ∧ p2 ∧ p3 ∧ p4 ∧ p5 ∧ p6 ∧ p7 ∧ q0 ∧ q1 ∧ q2 ∧ q3 ∧ q4 ∧ q5 ∧ q6 := by
  obtain ⟨h0, h1, h2, h3, h4, h5, h6, h7⟩ := h
  exact ⟨h0, h1, h2, h3, h4, h5, h6, h7, k⟩
/-- while words are added: the command, what is told of it, the words' variable -/
structure Si (w wr : World) (b1 b3 b4 : Nat) (cs ps : List Value) (ws : List ByteArray) : Prop where
  V1 : VBlk wr b1 25 cs
  V3 : VBlk wr b3 81 ps
  v4 : ∃ v, VBlk wr b4 69 [v] ∧ Own encS wr w.heap.size wr.heap.size v ws
  b : Below w.heap.size w wr
  n1 : b1 ≠ b4
  n3 : b3 ≠ b4
  lo : w.heap.size ≤ b4
theorem Si.size {w wr : World} {b1 b3 b4 : Nat} {cs ps : List Value} {ws : List ByteArray} (h : Si w wr b1 b3 b4 cs ps ws) : w.heap.size ≤ wr.heap.size := h.b.size
theorem Si.grow {w wr w' : World} {b1 b3 b4 : Nat} {cs ps : List Value} {ws : List ByteArray} (h : Si w wr b1 b3 b4 cs ps ws) (hb : Below wr.heap.size wr w') : Si w w' b1 b3 b4 cs ps ws := by
  obtain ⟨v, h1, h2⟩ := h.v4
  exact ⟨vblk_grow h.V1 hb, vblk_grow h.V3 hb, ⟨v, vblk_grow h1 hb, (h2.grow hb).top⟩, h.b.trans (hb.mono h.b.size), h.n1, h.n3, h.lo⟩
theorem Si.added {w wr w' : World} {b1 b3 b4 : Nat} {cs ps : List Value} {ws ws' : List ByteArray} (h : Si w wr b1 b3 b4 cs ps ws) (hA : Ad w.heap.size b4 wr w') (h4 : ∃ v, VBlk w' b4 69 [v] ∧ Own encS w' w.heap.size w'.heap.size v ws') : Si w w' b1 b3 b4 cs ps ws' :=
  ⟨hA.vblk h.V1 (by decide) h.n1, hA.vblk h.V3 (by decide) h.n3, h4, h.b.trans hA.low, h.n1, h.n3, h.lo⟩
/-- the closure that adds a word -/
theorem Si.add {w wr : World} {b1 b3 b4 : Nat} {cs ps : List Value} {ws : List ByteArray} (h : Si w wr b1 b3 b4 cs ps ws) (t : Bool) (x : ByteArray) (hl : ws.length ≤ 100) :
    Calls Tryz.prog 56 #[.bool t, .string x, .pointer (some ⟨b4, 0, none⟩)] wr fun e w' => e = .returned (.tuple #[]) ∧ Si w w' b1 b3 b4 cs ps (ws ++ (if t then [x] else [])) := by
  obtain ⟨v, h1, h2⟩ := h.v4
  refine (add_any t x b4 w.heap.size _ v ws wr h1 h2 h.lo hl).mono ?_
  rintro e w' ⟨rfl, v', a1, a2, a3⟩
  exact ⟨rfl, h.added a3 ⟨v', a1, a2⟩⟩
def Q0 (V : Int) : List ByteArray := [tx (vw V)]
def Q1 (V : Int) (N : ByteArray) : List ByteArray := Q0 V ++ (if pN V then [N] else [])
def Q2 (V : Int) (N : ByteArray) (f : Nat) : List ByteArray := Q1 V N ++ (if full V then [tx (digs f)] else [])
def Q3 (V : Int) (N : ByteArray) (f u : Nat) : List ByteArray := Q2 V N f ++ (if pU V then [tx (digs u)] else [])
def Q4 (V : Int) (N : ByteArray) (f u k : Nat) : List ByteArray := Q3 V N f u ++ (if sized V then [tx (digs k)] else [])
def Q5 (V : Int) (N : ByteArray) (f u k c : Nat) : List ByteArray := Q4 V N f u k ++ (if pC V then [tx (digs c)] else [])
def Q6 (V : Int) (N : ByteArray) (f u k c d : Nat) : List ByteArray := Q5 V N f u k c ++ (if stepV V then [tx (digs d)] else [])
def Q7 (V : Int) (N : ByteArray) (f u k c d : Nat) (Q : Bool) : List ByteArray := Q6 V N f u k c d ++ (if Q then [tx quiet] else [])
theorem Q_len (V : Int) (N : ByteArray) (f u k c d : Nat) (Q : Bool) : (Q1 V N).length ≤ 10 ∧ (Q2 V N f).length ≤ 10 ∧ (Q3 V N f u).length ≤ 10 ∧ (Q4 V N f u k).length ≤ 10 ∧ (Q5 V N f u k c).length ≤ 10 ∧ (Q6 V N f u k c d).length ≤ 10 ∧ (Q7 V N f u k c d Q).length ≤ 10 := by
  have a0 : (Q0 V).length = 1 := rfl
  have a1 : (Q1 V N).length ≤ (Q0 V).length + 1 := by unfold Q1; split <;> simp
  have a2 : (Q2 V N f).length ≤ (Q1 V N).length + 1 := by unfold Q2; split <;> simp
  have a3 : (Q3 V N f u).length ≤ (Q2 V N f).length + 1 := by unfold Q3; split <;> simp
  have a4 : (Q4 V N f u k).length ≤ (Q3 V N f u).length + 1 := by unfold Q4; split <;> simp
  have a5 : (Q5 V N f u k c).length ≤ (Q4 V N f u k).length + 1 := by unfold Q5; split <;> simp
  have a6 : (Q6 V N f u k c d).length ≤ (Q5 V N f u k c).length + 1 := by unfold Q6; split <;> simp
  have a7 : (Q7 V N f u k c d Q).length ≤ (Q6 V N f u k c d).length + 1 := by unfold Q7; split <;> simp
  omega
theorem Q7_words {V : Int} (h0 : 1 ≤ V) (h1 : V ≤ 13) (N : ByteArray) (f u : Nat) (B : ByteArray) (c d : Nat) (Q : Bool) (hs : sized V = false → B.size = 0) : (Q7 V N f u B.size c d Q).map bs = wordsK ⟨V, N, f, u, B, c, d, Q⟩ B.size := by
  have key := words_key h0 h1 (bs N) f u B.size c d (if Q then [quiet] else []) hs
  have m : ∀ (b : Bool) (x : List UInt8), (if b then [tx x] else []).map bs = if b then [x] else [] := fun b x => by cases b <;> simp [bs_tx]
  have m2 : (if pN V then [N] else []).map bs = if pN V then [bs N] else [] := by cases pN V <;> rfl
  unfold Q7 Q6 Q5 Q4 Q3 Q2 Q1 Q0 wordsK numsK
  simp only [List.map_append, m, m2, List.map_cons, List.map_nil, bs_tx, List.append_assoc, Int.toNat_natCast]
  simp only [List.append_assoc] at key
  rw [key]
  simp
theorem Q_size (V : Int) (N : ByteArray) (f u k c d : Nat) (Q : Bool) (hN : N.size ≤ 12) (hf : f ≤ 1000000) (hu : u ≤ 1000000) (hk : k ≤ 64) (hd : d ≤ 1000000) (hc : c ≤ 1000000) (v0 : 1 ≤ V) (v1 : V ≤ 13) : ∀ x ∈ Q7 V N f u k c d Q, x.size ≤ 10000 := by
  have hv : (tx (vw V)).size ≤ 10000 := by
    rw [tx_size]
    unfold vw
    have hi : (V - 1).toNat < verbs.length := by show (V - 1).toNat < 13; omega
    rw [List.getElem?_eq_getElem hi]
    exact Nat.le_trans (verbs_size _ (List.getElem_mem hi)) (by omega)
  have hq : (tx quiet).size ≤ 10000 := by decide
  have o : ∀ (p : Prop) [Decidable p] (l m : List ByteArray), (∀ x ∈ l, x.size ≤ 10000) → (∀ x ∈ m, x.size ≤ 10000) → ∀ x ∈ (if p then l else m), x.size ≤ 10000 := fun p _ l m h1 h2 => by split <;> assumption
  have a : ∀ (l m : List ByteArray), (∀ x ∈ l, x.size ≤ 10000) → (∀ x ∈ m, x.size ≤ 10000) → ∀ x ∈ l ++ m, x.size ≤ 10000 := fun l m h1 h2 x hx => (List.mem_append.1 hx).elim (h1 x) (h2 x)
  have n0 : ∀ x ∈ ([] : List ByteArray), x.size ≤ 10000 := fun x hx => by simp at hx
  have s1 : ∀ y : ByteArray, y.size ≤ 10000 → ∀ x ∈ [y], x.size ≤ 10000 := fun y h x hx => by rw [List.mem_singleton.1 hx]; exact h
  unfold Q7 Q6 Q5 Q4 Q3 Q2 Q1 Q0
  exact a _ _ (a _ _ (a _ _ (a _ _ (a _ _ (a _ _ (a _ _ (s1 _ hv) (o _ _ _ (s1 _ (by omega)) n0)) (o _ _ _ (s1 _ (dig_size hf)) n0)) (o _ _ _ (s1 _ (dig_size hu)) n0)) (o _ _ _ (s1 _ (dig_size (by omega))) n0)) (o _ _ _ (s1 _ (dig_size hc)) n0)) (o _ _ _ (s1 _ (dig_size hd)) n0)) (o _ _ _ (s1 _ hq) n0)
theorem join_any (ws : List ByteArray) (v : Value) (w : World) (r : Rd encS w v ws) (h1 : 1 ≤ ws.length) (hl : ws.length ≤ 100) (hm : ∀ x ∈ ws, x.size ≤ 10000) :
    Calls Tryz.prog 58 #[v, .string ⟨#[32]⟩] w fun e w' => e = .returned (.string (tx (wordsL (ws.map bs)))) ∧ Below w.heap.size w w' := by
  obtain ⟨a, cap, rfl⟩ := r.form
  obtain ⟨b, off, rfl, hb, hr⟩ := r.start h1
  have e : Lib.join (ws.map (·.data.toList)) (⟨#[32]⟩ : ByteArray).data.toList = wordsL (ws.map bs) := join_words (ws.map bs)
  have hlen : (wordsL (ws.map bs)).length ≤ 140737488355328 := by
    have h2 := wordsL_len (ws.map bs) 10000 (fun y hy => by
      obtain ⟨z, hz, rfl⟩ := List.mem_map.1 hy
      rw [bs_len]
      exact hm z hz)
    rw [List.length_map] at h2
    have : ws.length * (10000 + 1) ≤ 100 * 10001 := Nat.mul_le_mul_right _ hl
    omega
  have hc := r.cap
  have := Tryz.strings_Join b off cap ws ⟨#[32]⟩ w (fun j x hj => by
    have hjl := (List.getElem?_eq_some_iff.1 hj).1
    obtain ⟨b', off', e', -, hcell⟩ := rdS_cell r j hjl
    cases e'
    rw [hcell, (List.getElem?_eq_some_iff.1 hj).2]) hb (by omega) hc.2.1 (by rw [e]; exact hlen)
  rw [e] at this
  exact this
set_option maxRecDepth 100000 in
set_option maxHeartbeats 2000000 in
theorem implShow_yes (i : Nat) (N : ByteArray) (f u : Nat) (B : ByteArray) (c d : Nat) (Q : Bool) (hy : Hid (cmdB ⟨i, N, f, u, B, c, d, Q⟩ = true)) (v0 : 1 ≤ i) (v1 : i ≤ 13) (hN : N.size ≤ 12) (hf : f ≤ 1000000) (hu : u ≤ 1000000) (hBs : B.size ≤ 64) (hc : c ≤ 1000000) (hd : d ≤ 1000000) (w : World) (en : EnvW w) :
    Calls Tryz.prog 11 #[.agg #[.int .i64 (i : Int), .string N, .int .i64 (f : Int), .int .i64 (u : Int), .string B, .int .i64 (c : Int), .int .i64 (d : Int), .bool Q]] w fun e w' => e = .returned (.string (tx (showL ⟨i, N, f, u, B, c, d, Q⟩))) ∧ Below w.heap.size w w' := by
  have EN : Hid (EnvW w) := en
  have hmk : ∀ (fn : Fn) (first cap : Array Value) (w : World), (Instr.makeFunc fn first cap).run Tryz.prog w = .ok (.func fn first cap) w := fun _ _ _ _ => rfl
  have hi14 : i < vws.length := by show i < 14; omega
  have hi14' : (i : Int) < 14 := by omega
  have HV : Hid (vws[i] = tx (vw i)) := by
    unfold Hid vw
    obtain ⟨j, rfl⟩ : ∃ j, i = j + 1 := ⟨i - 1, by omega⟩
    have : (((j + 1 : Nat) : Int) - 1).toNat = j := by omega
    rw [this, List.getElem?_eq_getElem (show j < verbs.length by show j < 13; omega)]
    simp [vws, vtx]
  clear en
  go_enter Tryz.func11, Tryz.ntmps11
  have m1 : Hid True := trivial
  go_upto_region 6 with (first | (refine wpList_box_v rfl 25 _ rfl [.int .i64 (i : Int), .string N, .int .i64 (f : Int), .int .i64 (u : Int), .string B, .int .i64 (c : Int), .int .i64 (d : Int), .bool Q] rfl ?_; intro b1 w1 hb1 hw1 hB1 V1; have hz1 := hB1.size) | (clear m1; refine wpList_load_r rfl 25 _ rfl b1 0 [.int .i64 (i : Int), .string N, .int .i64 (f : Int), .int .i64 (u : Int), .string B, .int .i64 (c : Int), .int .i64 (d : Int), .bool Q] rfl _ Tryz.underlying25 rfl sizeCm V1.range ?_) | (go_at_call 16; refine (implCmdOk_any i N B f u c d Q true hy (by omega) (by omega) _).mono ?_; rintro e w2 ⟨rfl, hB2⟩; have hz2 := hB2.size; have V2 := vblk_grow V1 hB2; obtain ⟨c0, c1, c2, c3, c4, c5, c6, c7⟩ := cellsCm V2) | (go_at_call 55; refine (partsOf_any i (by omega) (by omega) _).mono ?_; rintro e w3 ⟨rfl, hB3⟩; have hz3 := hB3.size; have V3 := vblk_grow V2 hB3; clear c0 c1 c2 c3 c4 c5 c6 c7; obtain ⟨c0, c1, c2, c3, c4, c5, c6, c7⟩ := cellsCm V3; dsimp only [ptv]; have hBw : Below w.heap.size w w3 := (hB1.trans (hB2.mono hz1)).trans (hB3.mono (by omega)); have dv := cell_grow hBw (World.block_lt_of_cell? w _ (EN.out.vw i hi14)) (EN.out.vw i hi14); rw [HV.out] at dv; have bP := bAl w3 (.cells #[.bool (pN i), .bool (full i), .bool (pU i), .bool (sized i), .bool (pC i), .bool (stepV i), .bool (pQ i)] 81); have V4 := vblk_grow V3 bP; obtain ⟨q0, q1, q2, q3, q4, q5, q6, q7⟩ := cellsCm V4; have dv2 := cell_grow bP (World.block_lt_of_cell? w3 _ dv) dv) | (fail))
  obtain ⟨wA, hwA⟩ := hid_ex (((w3.alloc (.cells #[.bool (pN i), .bool (full i), .bool (pU i), .bool (sized i), .bool (pC i), .bool (stepV i), .bool (pQ i)] 81)).alloc (.cells #[.string (tx (vw i))] 9)).alloc (.cells #[.slice (some ⟨w3.heap.size + 1, 0, none⟩) 1 1] 69))
  have SI : Si w wA b1 w3.heap.size (w3.heap.size + 1 + 1) [.int .i64 (i : Int), .string N, .int .i64 (f : Int), .int .i64 (u : Int), .string B, .int .i64 (c : Int), .int .i64 (d : Int), .bool Q] [.bool (pN i), .bool (full i), .bool (pU i), .bool (sized i), .bool (pC i), .bool (stepV i), .bool (pQ i)] (Q0 i) := by
    rw [← hwA.out]
    have hlt1 : b1 < w3.heap.size := V3.lt
    have O := own_new (E := encS) (w3.alloc (.cells #[.bool (pN i), .bool (full i), .bool (pU i), .bool (sized i), .bool (pC i), .bool (stepV i), .bool (pQ i)] 81)) w.heap.size (tx (vw i)) #[.string (tx (vw i))] rfl (by simp; omega)
    have e1 : (w3.alloc (.cells #[.bool (pN i), .bool (full i), .bool (pU i), .bool (sized i), .bool (pC i), .bool (stepV i), .bool (pQ i)] 81)).heap.size = w3.heap.size + 1 := by simp
    have e2 : ((w3.alloc (.cells #[.bool (pN i), .bool (full i), .bool (pU i), .bool (sized i), .bool (pC i), .bool (stepV i), .bool (pQ i)] 81)).alloc (.cells #[.string (tx (vw i))] 9)).heap.size = w3.heap.size + 1 + 1 := by simp
    rw [e1] at O
    have Vv := vblk_new ((w3.alloc (.cells #[.bool (pN i), .bool (full i), .bool (pU i), .bool (sized i), .bool (pC i), .bool (stepV i), .bool (pQ i)] 81)).alloc (.cells #[.string (tx (vw i))] 9)) #[.slice (some ⟨w3.heap.size + 1, 0, none⟩) 1 1] 69
    rw [e2] at Vv
    refine ⟨vblk_grow (vblk_grow V4 (bAl _ _)) (bAl _ _), vblk_grow (vblk_grow (vblk_new w3 _ _) (bAl _ _)) (bAl _ _), ⟨_, Vv, (O.grow (bAl _ _)).top⟩, ?_, by omega, by omega, by omega⟩
    exact ((hBw.trans (bP.mono (by omega))).trans ((bAl _ _).mono (by rw [e1]; omega))).trans ((bAl _ _).mono (by rw [e2]; omega))
  rw [hwA.out]
  clear hwA dv dv2 c0 c1 c2 c3 c4 c5 c6 c7 q0 q1 q2 q3 q4 q5 q6 q7 V1 V2 V3 V4 bP hBw hB1 hB2 hB3 hz1 hz2 hz3
  generalize w3.heap.size + 1 + 1 = b4 at SI ⊢
  generalize w3.heap.size = b3 at SI ⊢
  have LEN : Hid ((Q1 i N).length ≤ 10 ∧ (Q2 i N f).length ≤ 10 ∧ (Q3 i N f u).length ≤ 10 ∧ (Q4 i N f u B.size).length ≤ 10 ∧ (Q5 i N f u B.size c).length ≤ 10 ∧ (Q6 i N f u B.size c d).length ≤ 10 ∧ (Q7 i N f u B.size c d Q).length ≤ 10) := Q_len i N f u B.size c d Q
  obtain ⟨c0, c1, c2, c3, c4, c5, c6, c7⟩ := cellsCm SI.V1
  obtain ⟨d0, d1, d2, d3, d4, d5, d6⟩ := cells7 SI.V3
  have S0 : Hid (Si w wA b1 b3 b4 [.int .i64 (i : Int), .string N, .int .i64 (f : Int), .int .i64 (u : Int), .string B, .int .i64 (c : Int), .int .i64 (d : Int), .bool Q] [.bool (pN i), .bool (full i), .bool (pU i), .bool (sized i), .bool (pC i), .bool (stepV i), .bool (pQ i)] (Q0 i)) := SI
  clear SI
  go_upto_region 7 with (first | (go_at_call 56; refine (S0.out.add _ _ (by show 1 ≤ 100; omega)).mono ?_; rintro e w5 ⟨rfl, T1⟩; have S1 : Hid (Si w w5 b1 b3 b4 [.int .i64 (i : Int), .string N, .int .i64 (f : Int), .int .i64 (u : Int), .string B, .int .i64 (c : Int), .int .i64 (d : Int), .bool Q] [.bool (pN i), .bool (full i), .bool (pU i), .bool (sized i), .bool (pC i), .bool (stepV i), .bool (pQ i)] (Q1 i N)) := T1; clear T1; obtain ⟨r0, r1, r2, r3, r4, r5, r6, r7⟩ := cellsCm S1.out.V1; obtain ⟨s0, s1, s2, s3, s4, s5, s6⟩ := cells7 S1.out.V3) | (fail))
  have SD1 : Hid (Si w w5.drew b1 b3 b4 [.int .i64 (i : Int), .string N, .int .i64 (f : Int), .int .i64 (u : Int), .string B, .int .i64 (c : Int), .int .i64 (d : Int), .bool Q] [.bool (pN i), .bool (full i), .bool (pU i), .bool (sized i), .bool (pC i), .bool (stepV i), .bool (pQ i)] (Q1 i N)) := S1.out.grow (Below.refl _ _).drew
  have H1 : w5.drew.cell? ⟨b1, 0, none⟩ = some (.int .i64 (i : Int)) ∧ w5.drew.cell? ⟨b1, 1, none⟩ = some (.string N) ∧ w5.drew.cell? ⟨b1, 2, none⟩ = some (.int .i64 (f : Int)) ∧ w5.drew.cell? ⟨b1, 3, none⟩ = some (.int .i64 (u : Int)) ∧ w5.drew.cell? ⟨b1, 4, none⟩ = some (.string B) ∧ w5.drew.cell? ⟨b1, 5, none⟩ = some (.int .i64 (c : Int)) ∧ w5.drew.cell? ⟨b1, 6, none⟩ = some (.int .i64 (d : Int)) ∧ w5.drew.cell? ⟨b1, 7, none⟩ = some (.bool Q) ∧ w5.drew.cell? ⟨b3, 0, none⟩ = some (.bool (pN i)) ∧ w5.drew.cell? ⟨b3, 1, none⟩ = some (.bool (full i)) ∧ w5.drew.cell? ⟨b3, 2, none⟩ = some (.bool (pU i)) ∧ w5.drew.cell? ⟨b3, 3, none⟩ = some (.bool (sized i)) ∧ w5.drew.cell? ⟨b3, 4, none⟩ = some (.bool (pC i)) ∧ w5.drew.cell? ⟨b3, 5, none⟩ = some (.bool (stepV i)) ∧ w5.drew.cell? ⟨b3, 6, none⟩ = some (.bool (pQ i)) := ⟨r0, r1, r2, r3, r4, r5, r6, r7, s0, s1, s2, s3, s4, s5, s6⟩
  clear r0 r1 r2 r3 r4 r5 r6 r7 s0 s1 s2 s3 s4 s5 s6
  obtain ⟨x1, hx1⟩ := hid_ex (tx (digs f))
  go_region_held3 (fun w' => w'.cell? ⟨b1, 0, none⟩ = some (.int .i64 (i : Int)) ∧ w'.cell? ⟨b1, 1, none⟩ = some (.string N) ∧ w'.cell? ⟨b1, 2, none⟩ = some (.int .i64 (f : Int)) ∧ w'.cell? ⟨b1, 3, none⟩ = some (.int .i64 (u : Int)) ∧ w'.cell? ⟨b1, 4, none⟩ = some (.string B) ∧ w'.cell? ⟨b1, 5, none⟩ = some (.int .i64 (c : Int)) ∧ w'.cell? ⟨b1, 6, none⟩ = some (.int .i64 (d : Int)) ∧ w'.cell? ⟨b1, 7, none⟩ = some (.bool Q) ∧ w'.cell? ⟨b3, 0, none⟩ = some (.bool (pN i)) ∧ w'.cell? ⟨b3, 1, none⟩ = some (.bool (full i)) ∧ w'.cell? ⟨b3, 2, none⟩ = some (.bool (pU i)) ∧ w'.cell? ⟨b3, 3, none⟩ = some (.bool (sized i)) ∧ w'.cell? ⟨b3, 4, none⟩ = some (.bool (pC i)) ∧ w'.cell? ⟨b3, 5, none⟩ = some (.bool (stepV i)) ∧ w'.cell? ⟨b3, 6, none⟩ = some (.bool (pQ i))) (first | with_reducible assumption | with_reducible exact H1 | (fail)) (first | (go_at_call 57; refine (decimal_nat f x1 hx1.out (by omega) _ (EN.out.grow SD1.out.b)).mono ?_; rintro e wd ⟨rfl, hBd⟩; have SE := SD1.out.grow hBd; have HE : wd.cell? ⟨b1, 0, none⟩ = some (.int .i64 (i : Int)) ∧ wd.cell? ⟨b1, 1, none⟩ = some (.string N) ∧ wd.cell? ⟨b1, 2, none⟩ = some (.int .i64 (f : Int)) ∧ wd.cell? ⟨b1, 3, none⟩ = some (.int .i64 (u : Int)) ∧ wd.cell? ⟨b1, 4, none⟩ = some (.string B) ∧ wd.cell? ⟨b1, 5, none⟩ = some (.int .i64 (c : Int)) ∧ wd.cell? ⟨b1, 6, none⟩ = some (.int .i64 (d : Int)) ∧ wd.cell? ⟨b1, 7, none⟩ = some (.bool Q) ∧ wd.cell? ⟨b3, 0, none⟩ = some (.bool (pN i)) ∧ wd.cell? ⟨b3, 1, none⟩ = some (.bool (full i)) ∧ wd.cell? ⟨b3, 2, none⟩ = some (.bool (pU i)) ∧ wd.cell? ⟨b3, 3, none⟩ = some (.bool (sized i)) ∧ wd.cell? ⟨b3, 4, none⟩ = some (.bool (pC i)) ∧ wd.cell? ⟨b3, 5, none⟩ = some (.bool (stepV i)) ∧ wd.cell? ⟨b3, 6, none⟩ = some (.bool (pQ i)) := hs15 (cellsCm SE.V1) (cells7 SE.V3)) | (go_at_call 56; refine (SE.add _ _ (by have := LEN.out; omega)).mono ?_; rintro e w6 ⟨rfl, T1⟩; have S2 : Hid (Si w w6 b1 b3 b4 [.int .i64 (i : Int), .string N, .int .i64 (f : Int), .int .i64 (u : Int), .string B, .int .i64 (c : Int), .int .i64 (d : Int), .bool Q] [.bool (pN i), .bool (full i), .bool (pU i), .bool (sized i), .bool (pC i), .bool (stepV i), .bool (pQ i)] (Q2 i N f)) := (by rw [← hx1.out] at T1; exact T1); clear T1; have HF : w6.cell? ⟨b1, 0, none⟩ = some (.int .i64 (i : Int)) ∧ w6.cell? ⟨b1, 1, none⟩ = some (.string N) ∧ w6.cell? ⟨b1, 2, none⟩ = some (.int .i64 (f : Int)) ∧ w6.cell? ⟨b1, 3, none⟩ = some (.int .i64 (u : Int)) ∧ w6.cell? ⟨b1, 4, none⟩ = some (.string B) ∧ w6.cell? ⟨b1, 5, none⟩ = some (.int .i64 (c : Int)) ∧ w6.cell? ⟨b1, 6, none⟩ = some (.int .i64 (d : Int)) ∧ w6.cell? ⟨b1, 7, none⟩ = some (.bool Q) ∧ w6.cell? ⟨b3, 0, none⟩ = some (.bool (pN i)) ∧ w6.cell? ⟨b3, 1, none⟩ = some (.bool (full i)) ∧ w6.cell? ⟨b3, 2, none⟩ = some (.bool (pU i)) ∧ w6.cell? ⟨b3, 3, none⟩ = some (.bool (sized i)) ∧ w6.cell? ⟨b3, 4, none⟩ = some (.bool (pC i)) ∧ w6.cell? ⟨b3, 5, none⟩ = some (.bool (stepV i)) ∧ w6.cell? ⟨b3, 6, none⟩ = some (.bool (pQ i)) := hs15 (cellsCm S2.out.V1) (cells7 S2.out.V3)) | (fail))
  clear SE HE HF H1 hBd
  obtain ⟨r0, r1, r2, r3, r4, r5, r6, r7⟩ := cellsCm S2.out.V1
  obtain ⟨s0, s1, s2, s3, s4, s5, s6⟩ := cells7 S2.out.V3
  go_upto_region 8 with (fail)
  have SD2 : Hid (Si w w6.drew b1 b3 b4 [.int .i64 (i : Int), .string N, .int .i64 (f : Int), .int .i64 (u : Int), .string B, .int .i64 (c : Int), .int .i64 (d : Int), .bool Q] [.bool (pN i), .bool (full i), .bool (pU i), .bool (sized i), .bool (pC i), .bool (stepV i), .bool (pQ i)] (Q2 i N f)) := S2.out.grow (Below.refl _ _).drew
  have H2 : w6.drew.cell? ⟨b1, 0, none⟩ = some (.int .i64 (i : Int)) ∧ w6.drew.cell? ⟨b1, 1, none⟩ = some (.string N) ∧ w6.drew.cell? ⟨b1, 2, none⟩ = some (.int .i64 (f : Int)) ∧ w6.drew.cell? ⟨b1, 3, none⟩ = some (.int .i64 (u : Int)) ∧ w6.drew.cell? ⟨b1, 4, none⟩ = some (.string B) ∧ w6.drew.cell? ⟨b1, 5, none⟩ = some (.int .i64 (c : Int)) ∧ w6.drew.cell? ⟨b1, 6, none⟩ = some (.int .i64 (d : Int)) ∧ w6.drew.cell? ⟨b1, 7, none⟩ = some (.bool Q) ∧ w6.drew.cell? ⟨b3, 0, none⟩ = some (.bool (pN i)) ∧ w6.drew.cell? ⟨b3, 1, none⟩ = some (.bool (full i)) ∧ w6.drew.cell? ⟨b3, 2, none⟩ = some (.bool (pU i)) ∧ w6.drew.cell? ⟨b3, 3, none⟩ = some (.bool (sized i)) ∧ w6.drew.cell? ⟨b3, 4, none⟩ = some (.bool (pC i)) ∧ w6.drew.cell? ⟨b3, 5, none⟩ = some (.bool (stepV i)) ∧ w6.drew.cell? ⟨b3, 6, none⟩ = some (.bool (pQ i)) := ⟨r0, r1, r2, r3, r4, r5, r6, r7, s0, s1, s2, s3, s4, s5, s6⟩
  clear r0 r1 r2 r3 r4 r5 r6 r7 s0 s1 s2 s3 s4 s5 s6
  obtain ⟨x2, hx2⟩ := hid_ex (tx (digs u))
  go_region_held3 (fun w' => w'.cell? ⟨b1, 0, none⟩ = some (.int .i64 (i : Int)) ∧ w'.cell? ⟨b1, 1, none⟩ = some (.string N) ∧ w'.cell? ⟨b1, 2, none⟩ = some (.int .i64 (f : Int)) ∧ w'.cell? ⟨b1, 3, none⟩ = some (.int .i64 (u : Int)) ∧ w'.cell? ⟨b1, 4, none⟩ = some (.string B) ∧ w'.cell? ⟨b1, 5, none⟩ = some (.int .i64 (c : Int)) ∧ w'.cell? ⟨b1, 6, none⟩ = some (.int .i64 (d : Int)) ∧ w'.cell? ⟨b1, 7, none⟩ = some (.bool Q) ∧ w'.cell? ⟨b3, 0, none⟩ = some (.bool (pN i)) ∧ w'.cell? ⟨b3, 1, none⟩ = some (.bool (full i)) ∧ w'.cell? ⟨b3, 2, none⟩ = some (.bool (pU i)) ∧ w'.cell? ⟨b3, 3, none⟩ = some (.bool (sized i)) ∧ w'.cell? ⟨b3, 4, none⟩ = some (.bool (pC i)) ∧ w'.cell? ⟨b3, 5, none⟩ = some (.bool (stepV i)) ∧ w'.cell? ⟨b3, 6, none⟩ = some (.bool (pQ i))) (first | with_reducible assumption | with_reducible exact H2 | (fail)) (first | (go_at_call 57; refine (decimal_nat u x2 hx2.out (by omega) _ (EN.out.grow SD2.out.b)).mono ?_; rintro e wd ⟨rfl, hBd⟩; have SE := SD2.out.grow hBd; have HE : wd.cell? ⟨b1, 0, none⟩ = some (.int .i64 (i : Int)) ∧ wd.cell? ⟨b1, 1, none⟩ = some (.string N) ∧ wd.cell? ⟨b1, 2, none⟩ = some (.int .i64 (f : Int)) ∧ wd.cell? ⟨b1, 3, none⟩ = some (.int .i64 (u : Int)) ∧ wd.cell? ⟨b1, 4, none⟩ = some (.string B) ∧ wd.cell? ⟨b1, 5, none⟩ = some (.int .i64 (c : Int)) ∧ wd.cell? ⟨b1, 6, none⟩ = some (.int .i64 (d : Int)) ∧ wd.cell? ⟨b1, 7, none⟩ = some (.bool Q) ∧ wd.cell? ⟨b3, 0, none⟩ = some (.bool (pN i)) ∧ wd.cell? ⟨b3, 1, none⟩ = some (.bool (full i)) ∧ wd.cell? ⟨b3, 2, none⟩ = some (.bool (pU i)) ∧ wd.cell? ⟨b3, 3, none⟩ = some (.bool (sized i)) ∧ wd.cell? ⟨b3, 4, none⟩ = some (.bool (pC i)) ∧ wd.cell? ⟨b3, 5, none⟩ = some (.bool (stepV i)) ∧ wd.cell? ⟨b3, 6, none⟩ = some (.bool (pQ i)) := hs15 (cellsCm SE.V1) (cells7 SE.V3)) | (go_at_call 56; refine (SE.add _ _ (by have := LEN.out; omega)).mono ?_; rintro e w7 ⟨rfl, T1⟩; have S3 : Hid (Si w w7 b1 b3 b4 [.int .i64 (i : Int), .string N, .int .i64 (f : Int), .int .i64 (u : Int), .string B, .int .i64 (c : Int), .int .i64 (d : Int), .bool Q] [.bool (pN i), .bool (full i), .bool (pU i), .bool (sized i), .bool (pC i), .bool (stepV i), .bool (pQ i)] (Q3 i N f u)) := (by rw [← hx2.out] at T1; exact T1); clear T1; have HF : w7.cell? ⟨b1, 0, none⟩ = some (.int .i64 (i : Int)) ∧ w7.cell? ⟨b1, 1, none⟩ = some (.string N) ∧ w7.cell? ⟨b1, 2, none⟩ = some (.int .i64 (f : Int)) ∧ w7.cell? ⟨b1, 3, none⟩ = some (.int .i64 (u : Int)) ∧ w7.cell? ⟨b1, 4, none⟩ = some (.string B) ∧ w7.cell? ⟨b1, 5, none⟩ = some (.int .i64 (c : Int)) ∧ w7.cell? ⟨b1, 6, none⟩ = some (.int .i64 (d : Int)) ∧ w7.cell? ⟨b1, 7, none⟩ = some (.bool Q) ∧ w7.cell? ⟨b3, 0, none⟩ = some (.bool (pN i)) ∧ w7.cell? ⟨b3, 1, none⟩ = some (.bool (full i)) ∧ w7.cell? ⟨b3, 2, none⟩ = some (.bool (pU i)) ∧ w7.cell? ⟨b3, 3, none⟩ = some (.bool (sized i)) ∧ w7.cell? ⟨b3, 4, none⟩ = some (.bool (pC i)) ∧ w7.cell? ⟨b3, 5, none⟩ = some (.bool (stepV i)) ∧ w7.cell? ⟨b3, 6, none⟩ = some (.bool (pQ i)) := hs15 (cellsCm S3.out.V1) (cells7 S3.out.V3)) | (fail))
  clear SE HE HF H2 hBd
  obtain ⟨r0, r1, r2, r3, r4, r5, r6, r7⟩ := cellsCm S3.out.V1
  obtain ⟨s0, s1, s2, s3, s4, s5, s6⟩ := cells7 S3.out.V3
  go_upto_region 9 with (fail)
  have SD3 : Hid (Si w w7.drew b1 b3 b4 [.int .i64 (i : Int), .string N, .int .i64 (f : Int), .int .i64 (u : Int), .string B, .int .i64 (c : Int), .int .i64 (d : Int), .bool Q] [.bool (pN i), .bool (full i), .bool (pU i), .bool (sized i), .bool (pC i), .bool (stepV i), .bool (pQ i)] (Q3 i N f u)) := S3.out.grow (Below.refl _ _).drew
  have H3 : w7.drew.cell? ⟨b1, 0, none⟩ = some (.int .i64 (i : Int)) ∧ w7.drew.cell? ⟨b1, 1, none⟩ = some (.string N) ∧ w7.drew.cell? ⟨b1, 2, none⟩ = some (.int .i64 (f : Int)) ∧ w7.drew.cell? ⟨b1, 3, none⟩ = some (.int .i64 (u : Int)) ∧ w7.drew.cell? ⟨b1, 4, none⟩ = some (.string B) ∧ w7.drew.cell? ⟨b1, 5, none⟩ = some (.int .i64 (c : Int)) ∧ w7.drew.cell? ⟨b1, 6, none⟩ = some (.int .i64 (d : Int)) ∧ w7.drew.cell? ⟨b1, 7, none⟩ = some (.bool Q) ∧ w7.drew.cell? ⟨b3, 0, none⟩ = some (.bool (pN i)) ∧ w7.drew.cell? ⟨b3, 1, none⟩ = some (.bool (full i)) ∧ w7.drew.cell? ⟨b3, 2, none⟩ = some (.bool (pU i)) ∧ w7.drew.cell? ⟨b3, 3, none⟩ = some (.bool (sized i)) ∧ w7.drew.cell? ⟨b3, 4, none⟩ = some (.bool (pC i)) ∧ w7.drew.cell? ⟨b3, 5, none⟩ = some (.bool (stepV i)) ∧ w7.drew.cell? ⟨b3, 6, none⟩ = some (.bool (pQ i)) := ⟨r0, r1, r2, r3, r4, r5, r6, r7, s0, s1, s2, s3, s4, s5, s6⟩
  clear r0 r1 r2 r3 r4 r5 r6 r7 s0 s1 s2 s3 s4 s5 s6
  obtain ⟨x3, hx3⟩ := hid_ex (tx (digs B.size))
  go_region_held3 (fun w' => w'.cell? ⟨b1, 0, none⟩ = some (.int .i64 (i : Int)) ∧ w'.cell? ⟨b1, 1, none⟩ = some (.string N) ∧ w'.cell? ⟨b1, 2, none⟩ = some (.int .i64 (f : Int)) ∧ w'.cell? ⟨b1, 3, none⟩ = some (.int .i64 (u : Int)) ∧ w'.cell? ⟨b1, 4, none⟩ = some (.string B) ∧ w'.cell? ⟨b1, 5, none⟩ = some (.int .i64 (c : Int)) ∧ w'.cell? ⟨b1, 6, none⟩ = some (.int .i64 (d : Int)) ∧ w'.cell? ⟨b1, 7, none⟩ = some (.bool Q) ∧ w'.cell? ⟨b3, 0, none⟩ = some (.bool (pN i)) ∧ w'.cell? ⟨b3, 1, none⟩ = some (.bool (full i)) ∧ w'.cell? ⟨b3, 2, none⟩ = some (.bool (pU i)) ∧ w'.cell? ⟨b3, 3, none⟩ = some (.bool (sized i)) ∧ w'.cell? ⟨b3, 4, none⟩ = some (.bool (pC i)) ∧ w'.cell? ⟨b3, 5, none⟩ = some (.bool (stepV i)) ∧ w'.cell? ⟨b3, 6, none⟩ = some (.bool (pQ i))) (first | with_reducible assumption | with_reducible exact H3 | (fail)) (first | (go_at_call 57; refine (decimal_nat B.size x3 hx3.out (by omega) _ (EN.out.grow SD3.out.b)).mono ?_; rintro e wd ⟨rfl, hBd⟩; have SE := SD3.out.grow hBd; have HE : wd.cell? ⟨b1, 0, none⟩ = some (.int .i64 (i : Int)) ∧ wd.cell? ⟨b1, 1, none⟩ = some (.string N) ∧ wd.cell? ⟨b1, 2, none⟩ = some (.int .i64 (f : Int)) ∧ wd.cell? ⟨b1, 3, none⟩ = some (.int .i64 (u : Int)) ∧ wd.cell? ⟨b1, 4, none⟩ = some (.string B) ∧ wd.cell? ⟨b1, 5, none⟩ = some (.int .i64 (c : Int)) ∧ wd.cell? ⟨b1, 6, none⟩ = some (.int .i64 (d : Int)) ∧ wd.cell? ⟨b1, 7, none⟩ = some (.bool Q) ∧ wd.cell? ⟨b3, 0, none⟩ = some (.bool (pN i)) ∧ wd.cell? ⟨b3, 1, none⟩ = some (.bool (full i)) ∧ wd.cell? ⟨b3, 2, none⟩ = some (.bool (pU i)) ∧ wd.cell? ⟨b3, 3, none⟩ = some (.bool (sized i)) ∧ wd.cell? ⟨b3, 4, none⟩ = some (.bool (pC i)) ∧ wd.cell? ⟨b3, 5, none⟩ = some (.bool (stepV i)) ∧ wd.cell? ⟨b3, 6, none⟩ = some (.bool (pQ i)) := hs15 (cellsCm SE.V1) (cells7 SE.V3)) | (go_at_call 56; refine (SE.add _ _ (by have := LEN.out; omega)).mono ?_; rintro e w8 ⟨rfl, T1⟩; have S4 : Hid (Si w w8 b1 b3 b4 [.int .i64 (i : Int), .string N, .int .i64 (f : Int), .int .i64 (u : Int), .string B, .int .i64 (c : Int), .int .i64 (d : Int), .bool Q] [.bool (pN i), .bool (full i), .bool (pU i), .bool (sized i), .bool (pC i), .bool (stepV i), .bool (pQ i)] (Q4 i N f u B.size)) := (by rw [← hx3.out] at T1; exact T1); clear T1; have HF : w8.cell? ⟨b1, 0, none⟩ = some (.int .i64 (i : Int)) ∧ w8.cell? ⟨b1, 1, none⟩ = some (.string N) ∧ w8.cell? ⟨b1, 2, none⟩ = some (.int .i64 (f : Int)) ∧ w8.cell? ⟨b1, 3, none⟩ = some (.int .i64 (u : Int)) ∧ w8.cell? ⟨b1, 4, none⟩ = some (.string B) ∧ w8.cell? ⟨b1, 5, none⟩ = some (.int .i64 (c : Int)) ∧ w8.cell? ⟨b1, 6, none⟩ = some (.int .i64 (d : Int)) ∧ w8.cell? ⟨b1, 7, none⟩ = some (.bool Q) ∧ w8.cell? ⟨b3, 0, none⟩ = some (.bool (pN i)) ∧ w8.cell? ⟨b3, 1, none⟩ = some (.bool (full i)) ∧ w8.cell? ⟨b3, 2, none⟩ = some (.bool (pU i)) ∧ w8.cell? ⟨b3, 3, none⟩ = some (.bool (sized i)) ∧ w8.cell? ⟨b3, 4, none⟩ = some (.bool (pC i)) ∧ w8.cell? ⟨b3, 5, none⟩ = some (.bool (stepV i)) ∧ w8.cell? ⟨b3, 6, none⟩ = some (.bool (pQ i)) := hs15 (cellsCm S4.out.V1) (cells7 S4.out.V3)) | (fail))
  clear SE HE HF H3 hBd
  obtain ⟨r0, r1, r2, r3, r4, r5, r6, r7⟩ := cellsCm S4.out.V1
  obtain ⟨s0, s1, s2, s3, s4, s5, s6⟩ := cells7 S4.out.V3
  go_upto_region 10 with (fail)
  have SD4 : Hid (Si w w8.drew b1 b3 b4 [.int .i64 (i : Int), .string N, .int .i64 (f : Int), .int .i64 (u : Int), .string B, .int .i64 (c : Int), .int .i64 (d : Int), .bool Q] [.bool (pN i), .bool (full i), .bool (pU i), .bool (sized i), .bool (pC i), .bool (stepV i), .bool (pQ i)] (Q4 i N f u B.size)) := S4.out.grow (Below.refl _ _).drew
  have H4 : w8.drew.cell? ⟨b1, 0, none⟩ = some (.int .i64 (i : Int)) ∧ w8.drew.cell? ⟨b1, 1, none⟩ = some (.string N) ∧ w8.drew.cell? ⟨b1, 2, none⟩ = some (.int .i64 (f : Int)) ∧ w8.drew.cell? ⟨b1, 3, none⟩ = some (.int .i64 (u : Int)) ∧ w8.drew.cell? ⟨b1, 4, none⟩ = some (.string B) ∧ w8.drew.cell? ⟨b1, 5, none⟩ = some (.int .i64 (c : Int)) ∧ w8.drew.cell? ⟨b1, 6, none⟩ = some (.int .i64 (d : Int)) ∧ w8.drew.cell? ⟨b1, 7, none⟩ = some (.bool Q) ∧ w8.drew.cell? ⟨b3, 0, none⟩ = some (.bool (pN i)) ∧ w8.drew.cell? ⟨b3, 1, none⟩ = some (.bool (full i)) ∧ w8.drew.cell? ⟨b3, 2, none⟩ = some (.bool (pU i)) ∧ w8.drew.cell? ⟨b3, 3, none⟩ = some (.bool (sized i)) ∧ w8.drew.cell? ⟨b3, 4, none⟩ = some (.bool (pC i)) ∧ w8.drew.cell? ⟨b3, 5, none⟩ = some (.bool (stepV i)) ∧ w8.drew.cell? ⟨b3, 6, none⟩ = some (.bool (pQ i)) := ⟨r0, r1, r2, r3, r4, r5, r6, r7, s0, s1, s2, s3, s4, s5, s6⟩
  clear r0 r1 r2 r3 r4 r5 r6 r7 s0 s1 s2 s3 s4 s5 s6
  obtain ⟨x4, hx4⟩ := hid_ex (tx (digs c))
  go_region_held3 (fun w' => w'.cell? ⟨b1, 0, none⟩ = some (.int .i64 (i : Int)) ∧ w'.cell? ⟨b1, 1, none⟩ = some (.string N) ∧ w'.cell? ⟨b1, 2, none⟩ = some (.int .i64 (f : Int)) ∧ w'.cell? ⟨b1, 3, none⟩ = some (.int .i64 (u : Int)) ∧ w'.cell? ⟨b1, 4, none⟩ = some (.string B) ∧ w'.cell? ⟨b1, 5, none⟩ = some (.int .i64 (c : Int)) ∧ w'.cell? ⟨b1, 6, none⟩ = some (.int .i64 (d : Int)) ∧ w'.cell? ⟨b1, 7, none⟩ = some (.bool Q) ∧ w'.cell? ⟨b3, 0, none⟩ = some (.bool (pN i)) ∧ w'.cell? ⟨b3, 1, none⟩ = some (.bool (full i)) ∧ w'.cell? ⟨b3, 2, none⟩ = some (.bool (pU i)) ∧ w'.cell? ⟨b3, 3, none⟩ = some (.bool (sized i)) ∧ w'.cell? ⟨b3, 4, none⟩ = some (.bool (pC i)) ∧ w'.cell? ⟨b3, 5, none⟩ = some (.bool (stepV i)) ∧ w'.cell? ⟨b3, 6, none⟩ = some (.bool (pQ i))) (first | with_reducible assumption | with_reducible exact H4 | (fail)) (first | (go_at_call 57; refine (decimal_nat c x4 hx4.out (by omega) _ (EN.out.grow SD4.out.b)).mono ?_; rintro e wd ⟨rfl, hBd⟩; have SE := SD4.out.grow hBd; have HE : wd.cell? ⟨b1, 0, none⟩ = some (.int .i64 (i : Int)) ∧ wd.cell? ⟨b1, 1, none⟩ = some (.string N) ∧ wd.cell? ⟨b1, 2, none⟩ = some (.int .i64 (f : Int)) ∧ wd.cell? ⟨b1, 3, none⟩ = some (.int .i64 (u : Int)) ∧ wd.cell? ⟨b1, 4, none⟩ = some (.string B) ∧ wd.cell? ⟨b1, 5, none⟩ = some (.int .i64 (c : Int)) ∧ wd.cell? ⟨b1, 6, none⟩ = some (.int .i64 (d : Int)) ∧ wd.cell? ⟨b1, 7, none⟩ = some (.bool Q) ∧ wd.cell? ⟨b3, 0, none⟩ = some (.bool (pN i)) ∧ wd.cell? ⟨b3, 1, none⟩ = some (.bool (full i)) ∧ wd.cell? ⟨b3, 2, none⟩ = some (.bool (pU i)) ∧ wd.cell? ⟨b3, 3, none⟩ = some (.bool (sized i)) ∧ wd.cell? ⟨b3, 4, none⟩ = some (.bool (pC i)) ∧ wd.cell? ⟨b3, 5, none⟩ = some (.bool (stepV i)) ∧ wd.cell? ⟨b3, 6, none⟩ = some (.bool (pQ i)) := hs15 (cellsCm SE.V1) (cells7 SE.V3)) | (go_at_call 56; refine (SE.add _ _ (by have := LEN.out; omega)).mono ?_; rintro e w9 ⟨rfl, T1⟩; have S5 : Hid (Si w w9 b1 b3 b4 [.int .i64 (i : Int), .string N, .int .i64 (f : Int), .int .i64 (u : Int), .string B, .int .i64 (c : Int), .int .i64 (d : Int), .bool Q] [.bool (pN i), .bool (full i), .bool (pU i), .bool (sized i), .bool (pC i), .bool (stepV i), .bool (pQ i)] (Q5 i N f u B.size c)) := (by rw [← hx4.out] at T1; exact T1); clear T1; have HF : w9.cell? ⟨b1, 0, none⟩ = some (.int .i64 (i : Int)) ∧ w9.cell? ⟨b1, 1, none⟩ = some (.string N) ∧ w9.cell? ⟨b1, 2, none⟩ = some (.int .i64 (f : Int)) ∧ w9.cell? ⟨b1, 3, none⟩ = some (.int .i64 (u : Int)) ∧ w9.cell? ⟨b1, 4, none⟩ = some (.string B) ∧ w9.cell? ⟨b1, 5, none⟩ = some (.int .i64 (c : Int)) ∧ w9.cell? ⟨b1, 6, none⟩ = some (.int .i64 (d : Int)) ∧ w9.cell? ⟨b1, 7, none⟩ = some (.bool Q) ∧ w9.cell? ⟨b3, 0, none⟩ = some (.bool (pN i)) ∧ w9.cell? ⟨b3, 1, none⟩ = some (.bool (full i)) ∧ w9.cell? ⟨b3, 2, none⟩ = some (.bool (pU i)) ∧ w9.cell? ⟨b3, 3, none⟩ = some (.bool (sized i)) ∧ w9.cell? ⟨b3, 4, none⟩ = some (.bool (pC i)) ∧ w9.cell? ⟨b3, 5, none⟩ = some (.bool (stepV i)) ∧ w9.cell? ⟨b3, 6, none⟩ = some (.bool (pQ i)) := hs15 (cellsCm S5.out.V1) (cells7 S5.out.V3)) | (fail))
  clear SE HE HF H4 hBd
  obtain ⟨r0, r1, r2, r3, r4, r5, r6, r7⟩ := cellsCm S5.out.V1
  obtain ⟨s0, s1, s2, s3, s4, s5, s6⟩ := cells7 S5.out.V3
  go_upto_region 11 with (fail)
  have SD5 : Hid (Si w w9.drew b1 b3 b4 [.int .i64 (i : Int), .string N, .int .i64 (f : Int), .int .i64 (u : Int), .string B, .int .i64 (c : Int), .int .i64 (d : Int), .bool Q] [.bool (pN i), .bool (full i), .bool (pU i), .bool (sized i), .bool (pC i), .bool (stepV i), .bool (pQ i)] (Q5 i N f u B.size c)) := S5.out.grow (Below.refl _ _).drew
  have H5 : w9.drew.cell? ⟨b1, 0, none⟩ = some (.int .i64 (i : Int)) ∧ w9.drew.cell? ⟨b1, 1, none⟩ = some (.string N) ∧ w9.drew.cell? ⟨b1, 2, none⟩ = some (.int .i64 (f : Int)) ∧ w9.drew.cell? ⟨b1, 3, none⟩ = some (.int .i64 (u : Int)) ∧ w9.drew.cell? ⟨b1, 4, none⟩ = some (.string B) ∧ w9.drew.cell? ⟨b1, 5, none⟩ = some (.int .i64 (c : Int)) ∧ w9.drew.cell? ⟨b1, 6, none⟩ = some (.int .i64 (d : Int)) ∧ w9.drew.cell? ⟨b1, 7, none⟩ = some (.bool Q) ∧ w9.drew.cell? ⟨b3, 0, none⟩ = some (.bool (pN i)) ∧ w9.drew.cell? ⟨b3, 1, none⟩ = some (.bool (full i)) ∧ w9.drew.cell? ⟨b3, 2, none⟩ = some (.bool (pU i)) ∧ w9.drew.cell? ⟨b3, 3, none⟩ = some (.bool (sized i)) ∧ w9.drew.cell? ⟨b3, 4, none⟩ = some (.bool (pC i)) ∧ w9.drew.cell? ⟨b3, 5, none⟩ = some (.bool (stepV i)) ∧ w9.drew.cell? ⟨b3, 6, none⟩ = some (.bool (pQ i)) := ⟨r0, r1, r2, r3, r4, r5, r6, r7, s0, s1, s2, s3, s4, s5, s6⟩
  clear r0 r1 r2 r3 r4 r5 r6 r7 s0 s1 s2 s3 s4 s5 s6
  obtain ⟨x5, hx5⟩ := hid_ex (tx (digs d))
  go_region_held3 (fun w' => w'.cell? ⟨b1, 0, none⟩ = some (.int .i64 (i : Int)) ∧ w'.cell? ⟨b1, 1, none⟩ = some (.string N) ∧ w'.cell? ⟨b1, 2, none⟩ = some (.int .i64 (f : Int)) ∧ w'.cell? ⟨b1, 3, none⟩ = some (.int .i64 (u : Int)) ∧ w'.cell? ⟨b1, 4, none⟩ = some (.string B) ∧ w'.cell? ⟨b1, 5, none⟩ = some (.int .i64 (c : Int)) ∧ w'.cell? ⟨b1, 6, none⟩ = some (.int .i64 (d : Int)) ∧ w'.cell? ⟨b1, 7, none⟩ = some (.bool Q) ∧ w'.cell? ⟨b3, 0, none⟩ = some (.bool (pN i)) ∧ w'.cell? ⟨b3, 1, none⟩ = some (.bool (full i)) ∧ w'.cell? ⟨b3, 2, none⟩ = some (.bool (pU i)) ∧ w'.cell? ⟨b3, 3, none⟩ = some (.bool (sized i)) ∧ w'.cell? ⟨b3, 4, none⟩ = some (.bool (pC i)) ∧ w'.cell? ⟨b3, 5, none⟩ = some (.bool (stepV i)) ∧ w'.cell? ⟨b3, 6, none⟩ = some (.bool (pQ i))) (first | with_reducible assumption | with_reducible exact H5 | (fail)) (first | (go_at_call 57; refine (decimal_nat d x5 hx5.out (by omega) _ (EN.out.grow SD5.out.b)).mono ?_; rintro e wd ⟨rfl, hBd⟩; have SE := SD5.out.grow hBd; have HE : wd.cell? ⟨b1, 0, none⟩ = some (.int .i64 (i : Int)) ∧ wd.cell? ⟨b1, 1, none⟩ = some (.string N) ∧ wd.cell? ⟨b1, 2, none⟩ = some (.int .i64 (f : Int)) ∧ wd.cell? ⟨b1, 3, none⟩ = some (.int .i64 (u : Int)) ∧ wd.cell? ⟨b1, 4, none⟩ = some (.string B) ∧ wd.cell? ⟨b1, 5, none⟩ = some (.int .i64 (c : Int)) ∧ wd.cell? ⟨b1, 6, none⟩ = some (.int .i64 (d : Int)) ∧ wd.cell? ⟨b1, 7, none⟩ = some (.bool Q) ∧ wd.cell? ⟨b3, 0, none⟩ = some (.bool (pN i)) ∧ wd.cell? ⟨b3, 1, none⟩ = some (.bool (full i)) ∧ wd.cell? ⟨b3, 2, none⟩ = some (.bool (pU i)) ∧ wd.cell? ⟨b3, 3, none⟩ = some (.bool (sized i)) ∧ wd.cell? ⟨b3, 4, none⟩ = some (.bool (pC i)) ∧ wd.cell? ⟨b3, 5, none⟩ = some (.bool (stepV i)) ∧ wd.cell? ⟨b3, 6, none⟩ = some (.bool (pQ i)) := hs15 (cellsCm SE.V1) (cells7 SE.V3)) | (go_at_call 56; refine (SE.add _ _ (by have := LEN.out; omega)).mono ?_; rintro e w10 ⟨rfl, T1⟩; have S6 : Hid (Si w w10 b1 b3 b4 [.int .i64 (i : Int), .string N, .int .i64 (f : Int), .int .i64 (u : Int), .string B, .int .i64 (c : Int), .int .i64 (d : Int), .bool Q] [.bool (pN i), .bool (full i), .bool (pU i), .bool (sized i), .bool (pC i), .bool (stepV i), .bool (pQ i)] (Q6 i N f u B.size c d)) := (by rw [← hx5.out] at T1; exact T1); clear T1; have HF : w10.cell? ⟨b1, 0, none⟩ = some (.int .i64 (i : Int)) ∧ w10.cell? ⟨b1, 1, none⟩ = some (.string N) ∧ w10.cell? ⟨b1, 2, none⟩ = some (.int .i64 (f : Int)) ∧ w10.cell? ⟨b1, 3, none⟩ = some (.int .i64 (u : Int)) ∧ w10.cell? ⟨b1, 4, none⟩ = some (.string B) ∧ w10.cell? ⟨b1, 5, none⟩ = some (.int .i64 (c : Int)) ∧ w10.cell? ⟨b1, 6, none⟩ = some (.int .i64 (d : Int)) ∧ w10.cell? ⟨b1, 7, none⟩ = some (.bool Q) ∧ w10.cell? ⟨b3, 0, none⟩ = some (.bool (pN i)) ∧ w10.cell? ⟨b3, 1, none⟩ = some (.bool (full i)) ∧ w10.cell? ⟨b3, 2, none⟩ = some (.bool (pU i)) ∧ w10.cell? ⟨b3, 3, none⟩ = some (.bool (sized i)) ∧ w10.cell? ⟨b3, 4, none⟩ = some (.bool (pC i)) ∧ w10.cell? ⟨b3, 5, none⟩ = some (.bool (stepV i)) ∧ w10.cell? ⟨b3, 6, none⟩ = some (.bool (pQ i)) := hs15 (cellsCm S6.out.V1) (cells7 S6.out.V3)) | (fail))
  clear SE HE HF H5 hBd
  obtain ⟨r0, r1, r2, r3, r4, r5, r6, r7⟩ := cellsCm S6.out.V1
  obtain ⟨s0, s1, s2, s3, s4, s5, s6⟩ := cells7 S6.out.V3

  have HM : Hid (∀ x ∈ Q7 i N f u B.size c d Q, x.size ≤ 10000) := Q_size i N f u B.size c d Q hN hf hu hBs hd hc (by omega) (by omega)
  have HW : Hid ((Q7 i N f u B.size c d Q).map bs = wordsK ⟨i, N, f, u, B, c, d, Q⟩ B.size) := Q7_words (by omega) (by omega) N f u B c d Q (fun h => by have hb : B = emp := (cmdB_iff.1 hy.out).b h; rw [hb]; rfl)
  obtain ⟨x, hx⟩ := hid_ex (tx (wordsL ((Q7 i N f u B.size c d Q).map bs)))
  have hxl : x.size ≤ 1000000 := by
    rw [← hx.out, tx_size]
    have h1 := wordsL_len ((Q7 i N f u B.size c d Q).map bs) 10000 (fun y hy => by
      obtain ⟨z, hz, rfl⟩ := List.mem_map.1 hy
      rw [bs_len]
      exact HM.out z hz)
    have h2 := LEN.out.2.2.2.2.2.2
    rw [List.length_map] at h1
    have : (Q7 i N f u B.size c d Q).length * (10000 + 1) ≤ 10 * 10001 := Nat.mul_le_mul_right _ h2
    omega
  have e1 : (x ++ (⟨#[10]⟩ : ByteArray)).size = x.size + 1 := by rw [ByteArray.size_append]; rfl
  have e2 : (x ++ (⟨#[10]⟩ : ByteArray) ++ B).size = x.size + 1 + B.size := by rw [ByteArray.size_append, e1]
  have hq1 : Hid (1 ≤ (Q7 i N f u B.size c d Q).length) := by unfold Hid Q7 Q6 Q5 Q4 Q3 Q2 Q1 Q0; simp
  obtain ⟨sv, hsv⟩ := hid_ex (sized i)
  have hqx : (⟨#[113, 117, 105, 101, 116]⟩ : ByteArray) = tx quiet := rfl
  cases sv with
  | false =>
    have hsb : sized (i : Int) = false := hsv.out
    go_wp2_with (first | (go_at_call 56; refine (S6.out.add _ _ (by have := LEN.out; omega)).mono ?_; rintro e wb ⟨rfl, T1⟩; have S7 : Hid (Si w wb b1 b3 b4 [.int .i64 (i : Int), .string N, .int .i64 (f : Int), .int .i64 (u : Int), .string B, .int .i64 (c : Int), .int .i64 (d : Int), .bool Q] [.bool (pN i), .bool (full i), .bool (pU i), .bool (sized i), .bool (pC i), .bool (stepV i), .bool (pQ i)] (Q7 i N f u B.size c d Q)) := T1; clear T1; obtain ⟨v4, V9, O9⟩ := S7.out.v4; have c9 := V9.cell 0 (by simp); obtain ⟨A9, n9, k9, rfl⟩ := O9.slice) | (go_at_call 58; refine (join_any _ _ _ O9.rd hq1.out (by have := LEN.out; omega) HM.out).mono ?_; rintro e wj ⟨rfl, hBj⟩; rw [hx.out]; have S8 := S7.out.grow hBj; obtain ⟨j0, j1, j2, j3, j4, j5, j6, j7⟩ := cellsCm S8.V1; obtain ⟨l0, l1, l2, l3, l4, l5, l6⟩ := cells7 S8.V3) | (fail))
    go_ret
    refine ⟨?_, S8.b⟩
    unfold showL lineK
    rw [← HW.out, hsb]
    exact congrArg (fun z => Ending.returned (.string z)) (by rw [← hx.out]; exact bs_inj0 (by rw [bs_app, bs_tx, bs_tx]; rfl))
  | true =>
    have hsb : sized (i : Int) = true := hsv.out
    go_wp2_with (first | (go_at_call 56; refine (S6.out.add _ _ (by have := LEN.out; omega)).mono ?_; rintro e wb ⟨rfl, T1⟩; have S7 : Hid (Si w wb b1 b3 b4 [.int .i64 (i : Int), .string N, .int .i64 (f : Int), .int .i64 (u : Int), .string B, .int .i64 (c : Int), .int .i64 (d : Int), .bool Q] [.bool (pN i), .bool (full i), .bool (pU i), .bool (sized i), .bool (pC i), .bool (stepV i), .bool (pQ i)] (Q7 i N f u B.size c d Q)) := T1; clear T1; obtain ⟨v4, V9, O9⟩ := S7.out.v4; have c9 := V9.cell 0 (by simp); obtain ⟨A9, n9, k9, rfl⟩ := O9.slice) | (go_at_call 58; refine (join_any _ _ _ O9.rd hq1.out (by have := LEN.out; omega) HM.out).mono ?_; rintro e wj ⟨rfl, hBj⟩; rw [hx.out]; have S8 := S7.out.grow hBj; obtain ⟨j0, j1, j2, j3, j4, j5, j6, j7⟩ := cellsCm S8.V1; obtain ⟨l0, l1, l2, l3, l4, l5, l6⟩ := cells7 S8.V3) | (fail))
    go_ret
    refine ⟨?_, S8.b⟩
    unfold showL lineK
    rw [← HW.out, hsb]
    exact congrArg (fun z => Ending.returned (.string z)) (by rw [← hx.out]; exact bs_inj0 (by rw [bs_app, bs_app, bs_app, bs_tx, bs_tx]; simp [bs]))
end Go.Proofs.YtaabmkhckbndgaaGreatDoor.cm
/- What a row's list of package-level variables gives: tables of numbers, tables of texts, as they lie in memory. -/
namespace Go.Proofs.YtaabmkhckbndgaaGreatDoor.cm
open Go.ChangeShapes Go.WideShapes Go.ChangeAt Go.RowKit
open Go.Proofs.YtaabmkhckbndgaaGreatDoor.ce Go.Proofs.YtaabmkhckbndgaaGreatDoor.ro Go.Proofs.YtaabmkhckbndgaaGreatDoor.rg
set_option linter.unusedVariables false

theorem laid_get {P : Program} {w : World} : ∀ {l : List (String × DataW Unit)} {ps : List MemPlace}, DataW.LaidVars P w l ps → ∀ {n : String} {d : DataW Unit}, (n, d) ∈ l → ∃ g t cs fuel p, P.globalNamed n = some g ∧ (P.globals[g]?).map (·.type) = some t ∧ w.var? P n = some cs ∧ DataW.trod (fun _ => ()) P w 0 (fun _ => true) false fuel t cs.toList = some (d, p)
  | [], _, _, n, d, h => by simp at h
  | (m, e) :: r, ps, hl, n, d, h => by
    obtain ⟨g, t, cs, fuel, p, q, h1, h2, h3, h4, h5, -⟩ := hl
    rcases List.mem_cons.1 h with h | h
    · obtain ⟨rfl, rfl⟩ := Prod.mk.inj h
      exact ⟨g, t, cs, fuel, p, h1, h2, h3, h4⟩
    · exact laid_get h5 h
theorem tab_get {P : Program} {w : World} {l : List (String × DataW Unit)} (h : laidMet P l w) {n : String} {k : IntKind} {zs : List Int} {g : Nat} {t e : TypeId} {m : Nat} (hm : (n, Lib.tabData k zs) ∈ l) (hg : P.globalNamed n = some g) (hty : (P.globals[g]?).map (·.type) = some t) (ht : P.underlying t = some (.array m e)) (he : P.underlying e = some (.int k)) (hce : P.cellsOf e = 1) (hct : P.cellsOf t = m) : Lib.TabIs P w n k zs := by
  obtain ⟨ps, hl, -⟩ := h
  obtain ⟨g', t', cs, fuel, p, h1, h2, h3, h4⟩ := laid_get hl hm
  obtain rfl := Option.some.inj (hg.symm.trans h1)
  obtain rfl := Option.some.inj (hty.symm.trans h2)
  unfold Lib.TabIs
  rw [h3, ← Lib.cells_of_tab ht he hce hct h4]
theorem strs_get {P : Program} {w : World} {l : List (String × DataW Unit)} (h : laidMet P l w) {n : String} {xs : List ByteArray} {g : Nat} {t e : TypeId} {m : Nat} (hm : (n, (DataW.agg (xs.map fun s => .lit (.string s.data.toList)) : DataW Unit)) ∈ l) (hg : P.globalNamed n = some g) (hty : (P.globals[g]?).map (·.type) = some t) (ht : P.underlying t = some (.array m e)) (he : P.underlying e = some .string) (hce : P.cellsOf e = 1) (hct : P.cellsOf t = m) : ∀ i (hi : i < xs.length), w.cell? ⟨g, i, none⟩ = some (.string xs[i]) := by
  obtain ⟨ps, hl, -⟩ := h
  obtain ⟨g', t', cs, fuel, p, h1, h2, h3, h4⟩ := laid_get hl hm
  obtain rfl := Option.some.inj (hg.symm.trans h1)
  obtain rfl := Option.some.inj (hty.symm.trans h2)
  intro i hi
  cases fuel with
  | zero => simp [DataW.trod] at h4
  | succ fuel =>
    simp only [DataW.trod, ht, hce, hct, Nat.mul_one] at h4
    split at h4
    · rename_i hlen
      obtain ⟨ys, hmm, hx⟩ := Option.map_eq_some_iff.1 h4
      have hys : ys.map (·.1) = xs.map fun s => (DataW.lit (.string s.data.toList) : DataW Unit) := by
        have := congrArg Prod.fst hx
        simpa using this
      have hyl : ys.length = m := by simpa using Lib.mapM_length hmm
      have hxl : xs.length = m := by
        have := congrArg List.length hys
        simp at this
        omega
      obtain ⟨b, hb, hf⟩ := Lib.mapM_at hmm i i (by rw [List.getElem?_range (by omega)])
      obtain ⟨z, hc, hz, -⟩ := DataW.trod_string he hf
      have h5 : cs.toList[i]? = some (.string z) := by
        have := congrArg (·[0]?) hc
        simpa [List.getElem?_take, List.getElem?_drop] using this
      have h6 : (ys.map (·.1))[i]? = some b.1 := by simp [hb]
      rw [hys] at h6
      have h7 : z = xs[i] := by
        rw [List.getElem?_map, List.getElem?_eq_getElem hi, hz] at h6
        simp at h6
        exact rg.bytes_inj (congrArg Array.toList h6.symm)
      rw [World.var?_cell hg h3 i, ← h7]
      simpa using h5
    · cases h4
end Go.Proofs.YtaabmkhckbndgaaGreatDoor.cm
/- The kinds' words as they lie in memory; how a reply that tells no value is shown, the program's. -/
namespace Go.Proofs.YtaabmkhckbndgaaGreatDoor.cm
open Go.ChangeShapes Go.WideShapes Go.ChangeAt Go.RowKit
open Go.Proofs.YtaabmkhckbndgaaGreatDoor.ce Go.Proofs.YtaabmkhckbndgaaGreatDoor.ro Go.Proofs.YtaabmkhckbndgaaGreatDoor.rg
set_option linter.unusedVariables false

/-- the kinds' words, the nought ahead -/
def kws : List ByteArray := tx [] :: kinds.map tx
structure EnvP (w : World) : Prop where
  wd : ∀ i (h : i < kws.length), w.cell? ⟨1, i, none⟩ = some (.string kws[i])
  tab : Lib.TabIs Tryz.prog w "internal/strconv.uint64pow10" .u64 Lib.pow10Tab
theorem tab_grow {w w' : World} (ht : Lib.TabIs Tryz.prog w "internal/strconv.uint64pow10" .u64 Lib.pow10Tab) (hb : Below w.heap.size w w') : Lib.TabIs Tryz.prog w' "internal/strconv.uint64pow10" .u64 Lib.pow10Tab := by
  unfold Lib.TabIs World.var? at ht ⊢
  cases hg : Tryz.prog.globalNamed "internal/strconv.uint64pow10" with
  | none => rw [hg] at ht; exact ht
  | some g =>
    rw [hg] at ht
    simp only [Option.bind_some] at ht ⊢
    have hlt : g < w.heap.size := by
      cases hh : w.heap[g]? with
      | none => rw [hh] at ht; cases ht
      | some o => exact (Array.getElem?_eq_some_iff.1 hh).1
    rw [hb.block g hlt]
    exact ht
theorem EnvP.grow {w w' : World} (h : EnvP w) (hb : Below w.heap.size w w') : EnvP w' :=
  ⟨fun i hi => cell_grow hb (World.block_lt_of_cell? w _ (h.wd i hi)) (h.wd i hi), tab_grow h.tab hb⟩
theorem kws_at {i : Nat} (h0 : 1 ≤ i) (h1 : i ≤ 12) : kws[i]'(by show i < 13; omega) = tx (kw i) := by
  obtain ⟨j, rfl⟩ : ∃ j, i = j + 1 := ⟨i - 1, by omega⟩
  unfold kw
  have : (((j + 1 : Nat) : Int) - 1).toNat = j := by omega
  rw [this, List.getElem?_eq_getElem (show j < kinds.length by show j < 12; omega)]
  simp [kws]
theorem EnvP.at {w : World} (h : EnvP w) {i : Nat} (h0 : 1 ≤ i) (h1 : i ≤ 12) : w.cell? ⟨1, i, none⟩ = some (.string (tx (kw i))) := by
  have := h.wd i (by show i < 13; omega)
  rw [kws_at h0 h1] at this
  exact this
theorem kw_size {i : Nat} (h0 : 1 ≤ i) (h1 : i ≤ 12) : (tx (kw i)).size ≤ 12 := by
  rw [tx_size]
  exact (kw_ok (v := i) (by omega) (by omega)).2
theorem dec_tab (n : Nat) (x : ByteArray) (hx : tx (digs n) = x) (h1 : n ≤ 1000000000) (w : World) (tab : Lib.TabIs Tryz.prog w "internal/strconv.uint64pow10" .u64 Lib.pow10Tab) : Calls Tryz.prog 57 #[.int .i64 n] w fun e w' => e = .returned (.string x) ∧ Below w.heap.size w w' := by
  subst hx
  rw [← itoa_digs n]
  go_enter Tryz.func57, Tryz.ntmps57
  go_wp2_with (first | (go_at_call 109; refine (Tryz.strconv_FormatInt_10 (n : Int) (by omega) (by omega) _ tab).mono ?_; rintro e w2 ⟨rfl, k, os, rfl⟩) | (fail))
  go_ret
  exact ⟨rfl, Go.Lib.below_grow _ w (Nat.le_refl _) k os⟩
theorem dig_sz {n : Nat} (h : n ≤ 1000000000) : (tx (digs n)).size ≤ 100 := by
  rw [tx_size]
  have := digs_len 9 n (by omega)
  omega
theorem sz_app (x y : ByteArray) : (x ++ y).size = x.size + y.size := ByteArray.size_append
set_option maxRecDepth 10000 in
set_option maxHeartbeats 1000000 in
theorem shown_bare (i : Nat) (h0 : 1 ≤ i) (h1 : i ≤ 12) (w : World) (en : EnvP w) : Calls Tryz.prog 76 #[.iface 156 (.int .i64 i)] w fun e w' => e = .returned (.string (tx (kw i ++ [10]))) ∧ w' = w := by
  have aB : ∀ w : World, (Instr.typeAssert (.iface 156 (.int .i64 (i : Int))) 103 156 true).run Tryz.prog w = .ok (.tuple #[.int .i64 (i : Int), .bool true]) w := fun _ => by kernel_rfl
  have dk := en.at h0 h1
  have hs := kw_size h0 h1
  have hi : (i : Int) < 13 := by omega
  obtain ⟨x, hx⟩ := hid_ex (tx (kw i))
  rw [hx.out] at dk hs
  have e1 : (x ++ (⟨#[10]⟩ : ByteArray)).size = x.size + 1 := by rw [ByteArray.size_append]; rfl
  clear en
  go_enter Tryz.func76, Tryz.ntmps76
  go_wp2
  go_ret
  refine ⟨?_, rfl⟩
  exact congrArg (fun z => Ending.returned (.string z)) (by rw [← hx.out]; exact bs_inj0 (by rw [bs_app, bs_tx, bs_tx]; rfl))
set_option maxRecDepth 10000 in
set_option maxHeartbeats 1000000 in
theorem shown_num (m : Nat) (hm : m ≤ 999999999) (w : World) (en : EnvP w) : Calls Tryz.prog 76 #[.iface 158 (.int .i64 m)] w fun e w' => e = .returned (.string (tx (kw 6 ++ 32 :: (digs m ++ [10])))) ∧ Below w.heap.size w w' := by
  have aB : ∀ w : World, (Instr.typeAssert (.iface 158 (.int .i64 (m : Int))) 103 156 true).run Tryz.prog w = .ok (.tuple #[.int .i64 0, .bool false]) w := fun _ => by kernel_rfl
  have aN : ∀ w : World, (Instr.typeAssert (.iface 158 (.int .i64 (m : Int))) 103 158 true).run Tryz.prog w = .ok (.tuple #[.int .i64 (m : Int), .bool true]) w := fun _ => by kernel_rfl
  have dk := en.at (i := 6) (by omega) (by omega)
  have hs := kw_size (i := 6) (by omega) (by omega)
  have TB : Hid (Lib.TabIs Tryz.prog w "internal/strconv.uint64pow10" .u64 Lib.pow10Tab) := en.tab
  obtain ⟨x, hx⟩ := hid_ex (tx (kw ((6 : Nat) : Int)))
  rw [hx.out] at dk hs
  obtain ⟨z, hz⟩ := hid_ex (tx (digs m))
  have hzs : z.size ≤ 100 := by rw [← hz.out]; exact dig_sz (by omega)
  have e1 : (x ++ (⟨#[32]⟩ : ByteArray)).size = x.size + 1 := by rw [ByteArray.size_append]; rfl
  have e2 : (x ++ (⟨#[32]⟩ : ByteArray) ++ z).size = x.size + 1 + z.size := by rw [ByteArray.size_append, e1]
  have e3 : (x ++ (⟨#[32]⟩ : ByteArray) ++ z ++ (⟨#[10]⟩ : ByteArray)).size = x.size + 1 + z.size + 1 := by rw [ByteArray.size_append, e2]; rfl
  clear en
  have h66 : (6 : Int) < 13 := by omega
  go_enter Tryz.func76, Tryz.ntmps76
  go_wp2
  go_region_with (first | (go_at_call 57; refine (dec_tab m z hz.out (by omega) _ (by first | exact TB.out | exact tab_grow TB.out (Below.refl _ _).drew)).mono ?_; rintro e w2 ⟨rfl, hB2⟩; have dk2 : w2.cell? ⟨1, 6, none⟩ = some (.string x) := cell_grow hB2 (World.block_lt_of_cell? w _ dk) dk) | (fail))
  all_goals
    go_wp2
    go_ret
    refine ⟨?_, (Below.refl _ w).drew.trans hB2⟩
    exact congrArg (fun q => Ending.returned (.string q)) (by rw [← hx.out, ← hz.out]; exact bs_inj0 (by rw [bs_app, bs_app, bs_app, bs_tx, bs_tx, bs_tx]; simp [bs]))
end Go.Proofs.YtaabmkhckbndgaaGreatDoor.cm
