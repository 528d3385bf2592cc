/- Contracts: how a command is shown, the program's, second part. -/
import Derived.Test.YtpngnblfkijkhaaDoorSc1
import Derived.Deep.DeepCutAuto
import Derived.Deep.RegionHeld3
import Derived.BigQuiet
namespace Go.Proofs.YtpngnblfkijkhaaDoor.cm
open Go.ChangeShapes Go.WideShapes Go.ChangeAt Go.RowKit
open Go.Deep Go.Joins
open Go.Proofs.YtpngnblfkijkhaaDoor.ce Go.Proofs.YtpngnblfkijkhaaDoor.ro Go.Proofs.YtpngnblfkijkhaaDoor.rg
set_option linter.unusedVariables false

theorem hs15 {p0 p1 p2 p3 p4 p5 p6 p7 q0 q1 q2 q3 q4 q5 q6 : Prop} (h : p0 ∧ p1 ∧ p2 ∧ p3 ∧ p4 ∧ p5 ∧ p6 ∧ p7) (k : q0 ∧ q1 ∧ q2 ∧ q3 ∧ q4 ∧ q5 ∧ q6) : p0 ∧ p1 ∧ p2 ∧ p3 ∧ p4 ∧ p5 ∧ p6 ∧ p7 ∧ q0 ∧ q1 ∧ q2 ∧ q3 ∧ q4 ∧ q5 ∧ q6 := by
  obtain ⟨h0, h1, h2, h3, h4, h5, h6, h7⟩ := h
  exact ⟨h0, h1, h2, h3, h4, h5, h6, h7, k⟩
/-- while words are added: the command, what is told of it, the words' variable -/
structure Si (w wr : World) (b1 b3 b4 : Nat) (cs ps : List Value) (ws : List ByteArray) : Prop where
  V1 : VBlk wr b1 26 cs
  V3 : VBlk wr b3 44 ps
  v4 : ∃ v, VBlk wr b4 47 [v] ∧ Own encS wr w.heap.size wr.heap.size v ws
  b : Below w.heap.size w wr
  n1 : b1 ≠ b4
  n3 : b3 ≠ b4
  lo : w.heap.size ≤ b4
theorem Si.size {w wr : World} {b1 b3 b4 : Nat} {cs ps : List Value} {ws : List ByteArray} (h : Si w wr b1 b3 b4 cs ps ws) : w.heap.size ≤ wr.heap.size := h.b.size
theorem Si.grow {w wr w' : World} {b1 b3 b4 : Nat} {cs ps : List Value} {ws : List ByteArray} (h : Si w wr b1 b3 b4 cs ps ws) (hb : Below wr.heap.size wr w') : Si w w' b1 b3 b4 cs ps ws := by
  obtain ⟨v, h1, h2⟩ := h.v4
  exact ⟨vblk_grow h.V1 hb, vblk_grow h.V3 hb, ⟨v, vblk_grow h1 hb, (h2.grow hb).top⟩, h.b.trans (hb.mono h.b.size), h.n1, h.n3, h.lo⟩
theorem Si.added {w wr w' : World} {b1 b3 b4 : Nat} {cs ps : List Value} {ws ws' : List ByteArray} (h : Si w wr b1 b3 b4 cs ps ws) (hA : Ad w.heap.size b4 wr w') (h4 : ∃ v, VBlk w' b4 47 [v] ∧ Own encS w' w.heap.size w'.heap.size v ws') : Si w w' b1 b3 b4 cs ps ws' :=
  ⟨hA.vblk h.V1 (by decide) h.n1, hA.vblk h.V3 (by decide) h.n3, h4, h.b.trans hA.low, h.n1, h.n3, h.lo⟩
/-- the closure that adds a word -/
theorem Si.add {w wr : World} {b1 b3 b4 : Nat} {cs ps : List Value} {ws : List ByteArray} (h : Si w wr b1 b3 b4 cs ps ws) (t : Bool) (x : ByteArray) (hl : ws.length ≤ 100) :
    Calls Tryd.prog 25 #[.bool t, .string x, .pointer (some ⟨b4, 0, none⟩)] wr fun e w' => e = .returned (.tuple #[]) ∧ Si w w' b1 b3 b4 cs ps (ws ++ (if t then [x] else [])) := by
  obtain ⟨v, h1, h2⟩ := h.v4
  refine (add_any t x b4 w.heap.size _ v ws wr h1 h2 h.lo hl).mono ?_
  rintro e w' ⟨rfl, v', a1, a2, a3⟩
  exact ⟨rfl, h.added a3 ⟨v', a1, a2⟩⟩
def Q0 (V : Int) : List ByteArray := [tx (vw V)]
def Q1 (V : Int) (N : ByteArray) : List ByteArray := Q0 V ++ (if pN V then [N] else [])
def Q2 (V : Int) (N : ByteArray) (f : Nat) : List ByteArray := Q1 V N ++ (if full V then [tx (digs f)] else [])
def Q3 (V : Int) (N : ByteArray) (f u : Nat) : List ByteArray := Q2 V N f ++ (if pU V then [tx (digs u)] else [])
def Q4 (V : Int) (N : ByteArray) (f u k : Nat) : List ByteArray := Q3 V N f u ++ (if sized V then [tx (digs k)] else [])
def Q5 (V : Int) (N : ByteArray) (f u k c : Nat) : List ByteArray := Q4 V N f u k ++ (if pC V then [tx (digs c)] else [])
def Q6 (V : Int) (N : ByteArray) (f u k c d : Nat) : List ByteArray := Q5 V N f u k c ++ (if stepV V then [tx (digs d)] else [])
def Q7 (V : Int) (N : ByteArray) (f u k c d : Nat) (Q : Bool) : List ByteArray := Q6 V N f u k c d ++ (if Q then [tx quiet] else [])
theorem Q_len (V : Int) (N : ByteArray) (f u k c d : Nat) (Q : Bool) : (Q1 V N).length ≤ 10 ∧ (Q2 V N f).length ≤ 10 ∧ (Q3 V N f u).length ≤ 10 ∧ (Q4 V N f u k).length ≤ 10 ∧ (Q5 V N f u k c).length ≤ 10 ∧ (Q6 V N f u k c d).length ≤ 10 ∧ (Q7 V N f u k c d Q).length ≤ 10 := by
  have a0 : (Q0 V).length = 1 := rfl
  have a1 : (Q1 V N).length ≤ (Q0 V).length + 1 := by unfold Q1; split <;> simp
  have a2 : (Q2 V N f).length ≤ (Q1 V N).length + 1 := by unfold Q2; split <;> simp
  have a3 : (Q3 V N f u).length ≤ (Q2 V N f).length + 1 := by unfold Q3; split <;> simp
  have a4 : (Q4 V N f u k).length ≤ (Q3 V N f u).length + 1 := by unfold Q4; split <;> simp
  have a5 : (Q5 V N f u k c).length ≤ (Q4 V N f u k).length + 1 := by unfold Q5; split <;> simp
  have a6 : (Q6 V N f u k c d).length ≤ (Q5 V N f u k c).length + 1 := by unfold Q6; split <;> simp
  have a7 : (Q7 V N f u k c d Q).length ≤ (Q6 V N f u k c d).length + 1 := by unfold Q7; split <;> simp
  omega
theorem Q7_words {V : Int} (h0 : 1 ≤ V) (h1 : V ≤ 13) (N : ByteArray) (f u : Nat) (B : ByteArray) (c d : Nat) (Q : Bool) (hs : sized V = false → B.size = 0) : (Q7 V N f u B.size c d Q).map bs = wordsK ⟨V, N, f, u, B, c, d, Q⟩ B.size := by
  have key := words_key h0 h1 (bs N) f u B.size c d (if Q then [quiet] else []) hs
  have m : ∀ (b : Bool) (x : List UInt8), (if b then [tx x] else []).map bs = if b then [x] else [] := fun b x => by cases b <;> simp [bs_tx]
  have m2 : (if pN V then [N] else []).map bs = if pN V then [bs N] else [] := by cases pN V <;> rfl
  unfold Q7 Q6 Q5 Q4 Q3 Q2 Q1 Q0 wordsK numsK
  simp only [List.map_append, m, m2, List.map_cons, List.map_nil, bs_tx, List.append_assoc, Int.toNat_natCast]
  simp only [List.append_assoc] at key
  rw [key]
  simp
theorem Q_size (V : Int) (N : ByteArray) (f u k c d : Nat) (Q : Bool) (hN : N.size ≤ 12) (hf : f ≤ 1000000) (hu : u ≤ 1000000) (hk : k ≤ 64) (hd : d ≤ 1000000) (hc : c ≤ 1000000) (v0 : 1 ≤ V) (v1 : V ≤ 13) : ∀ x ∈ Q7 V N f u k c d Q, x.size ≤ 10000 := by
  have hv : (tx (vw V)).size ≤ 10000 := by
    rw [tx_size]
    unfold vw
    have hi : (V - 1).toNat < verbs.length := by show (V - 1).toNat < 13; omega
    rw [List.getElem?_eq_getElem hi]
    exact Nat.le_trans (verbs_size _ (List.getElem_mem hi)) (by omega)
  have hq : (tx quiet).size ≤ 10000 := by decide
  have o : ∀ (p : Prop) [Decidable p] (l m : List ByteArray), (∀ x ∈ l, x.size ≤ 10000) → (∀ x ∈ m, x.size ≤ 10000) → ∀ x ∈ (if p then l else m), x.size ≤ 10000 := fun p _ l m h1 h2 => by split <;> assumption
  have a : ∀ (l m : List ByteArray), (∀ x ∈ l, x.size ≤ 10000) → (∀ x ∈ m, x.size ≤ 10000) → ∀ x ∈ l ++ m, x.size ≤ 10000 := fun l m h1 h2 x hx => (List.mem_append.1 hx).elim (h1 x) (h2 x)
  have n0 : ∀ x ∈ ([] : List ByteArray), x.size ≤ 10000 := fun x hx => by simp at hx
  have s1 : ∀ y : ByteArray, y.size ≤ 10000 → ∀ x ∈ [y], x.size ≤ 10000 := fun y h x hx => by rw [List.mem_singleton.1 hx]; exact h
  unfold Q7 Q6 Q5 Q4 Q3 Q2 Q1 Q0
  exact a _ _ (a _ _ (a _ _ (a _ _ (a _ _ (a _ _ (a _ _ (s1 _ hv) (o _ _ _ (s1 _ (by omega)) n0)) (o _ _ _ (s1 _ (dig_size hf)) n0)) (o _ _ _ (s1 _ (dig_size hu)) n0)) (o _ _ _ (s1 _ (dig_size (by omega))) n0)) (o _ _ _ (s1 _ (dig_size hc)) n0)) (o _ _ _ (s1 _ (dig_size hd)) n0)) (o _ _ _ (s1 _ hq) n0)
theorem join_any (ws : List ByteArray) (v : Value) (w : World) (r : Rd encS w v ws) (h1 : 1 ≤ ws.length) (hl : ws.length ≤ 100) (hm : ∀ x ∈ ws, x.size ≤ 10000) :
    Calls Tryd.prog 27 #[v, .string ⟨#[32]⟩] w fun e w' => e = .returned (.string (tx (wordsL (ws.map bs)))) ∧ Below w.heap.size w w' := by
  obtain ⟨a, cap, rfl⟩ := r.form
  obtain ⟨b, off, rfl, hb, hr⟩ := r.start h1
  have e : Lib.join (ws.map (·.data.toList)) (⟨#[32]⟩ : ByteArray).data.toList = wordsL (ws.map bs) := join_words (ws.map bs)
  have hlen : (wordsL (ws.map bs)).length ≤ 140737488355328 := by
    have h2 := wordsL_len (ws.map bs) 10000 (fun y hy => by
      obtain ⟨z, hz, rfl⟩ := List.mem_map.1 hy
      rw [bs_len]
      exact hm z hz)
    rw [List.length_map] at h2
    have : ws.length * (10000 + 1) ≤ 100 * 10001 := Nat.mul_le_mul_right _ hl
    omega
  have hc := r.cap
  have := Tryd.strings_Join b off cap ws ⟨#[32]⟩ w (fun j x hj => by
    have hjl := (List.getElem?_eq_some_iff.1 hj).1
    obtain ⟨b', off', e', -, hcell⟩ := rdS_cell r j hjl
    cases e'
    rw [hcell, (List.getElem?_eq_some_iff.1 hj).2]) hb (by omega) hc.2.1 (by rw [e]; exact hlen)
  rw [e] at this
  exact this
set_option maxRecDepth 100000 in
set_option maxHeartbeats 2000000 in
theorem implShow_yes (i : Nat) (N : ByteArray) (f u : Nat) (B : ByteArray) (c d : Nat) (Q : Bool) (hy : Hid (cmdB ⟨i, N, f, u, B, c, d, Q⟩ = true)) (v0 : 1 ≤ i) (v1 : i ≤ 13) (hN : N.size ≤ 12) (hf : f ≤ 1000000) (hu : u ≤ 1000000) (hBs : B.size ≤ 64) (hc : c ≤ 1000000) (hd : d ≤ 1000000) (w : World) (en : EnvW w) :
    Calls Tryd.prog 9 #[.agg #[.int .i64 (i : Int), .string N, .int .i64 (f : Int), .int .i64 (u : Int), .string B, .int .i64 (c : Int), .int .i64 (d : Int), .bool Q]] w fun e w' => e = .returned (.string (tx (showL ⟨i, N, f, u, B, c, d, Q⟩))) ∧ Below w.heap.size w w' := by
  have EN : Hid (EnvW w) := en
  have hmk : ∀ (fn : Fn) (first cap : Array Value) (w : World), (Instr.makeFunc fn first cap).run Tryd.prog w = .ok (.func fn first cap) w := fun _ _ _ _ => rfl
  have hi14 : i < vws.length := by show i < 14; omega
  have hi14' : (i : Int) < 14 := by omega
  have HV : Hid (vws[i] = tx (vw i)) := by
    unfold Hid vw
    obtain ⟨j, rfl⟩ : ∃ j, i = j + 1 := ⟨i - 1, by omega⟩
    have : (((j + 1 : Nat) : Int) - 1).toNat = j := by omega
    rw [this, List.getElem?_eq_getElem (show j < verbs.length by show j < 13; omega)]
    simp [vws, vtx]
  clear en
  go_enter Tryd.func9, Tryd.ntmps9
  have m1 : Hid True := trivial
  go_upto_region 6 with (first | (refine wpList_box_v rfl 26 _ rfl [.int .i64 (i : Int), .string N, .int .i64 (f : Int), .int .i64 (u : Int), .string B, .int .i64 (c : Int), .int .i64 (d : Int), .bool Q] rfl ?_; intro b1 w1 hb1 hw1 hB1 V1; have hz1 := hB1.size) | (clear m1; refine wpList_load_r rfl 26 _ rfl b1 0 [.int .i64 (i : Int), .string N, .int .i64 (f : Int), .int .i64 (u : Int), .string B, .int .i64 (c : Int), .int .i64 (d : Int), .bool Q] rfl _ Tryd.underlying26 rfl sizeCm V1.range ?_) | (go_at_call 23; refine (implCmdOk_any i N B f u c d Q true hy (by omega) (by omega) _).mono ?_; rintro e w2 ⟨rfl, hB2⟩; have hz2 := hB2.size; have V2 := vblk_grow V1 hB2; obtain ⟨c0, c1, c2, c3, c4, c5, c6, c7⟩ := cellsCm V2) | (go_at_call 24; refine (partsOf_any i (by omega) (by omega) _).mono ?_; rintro e w3 ⟨rfl, hB3⟩; have hz3 := hB3.size; have V3 := vblk_grow V2 hB3; clear c0 c1 c2 c3 c4 c5 c6 c7; obtain ⟨c0, c1, c2, c3, c4, c5, c6, c7⟩ := cellsCm V3; dsimp only [ptv]; have hBw : Below w.heap.size w w3 := (hB1.trans (hB2.mono hz1)).trans (hB3.mono (by omega)); have dv := cell_grow hBw (World.block_lt_of_cell? w _ (EN.out.vw i hi14)) (EN.out.vw i hi14); rw [HV.out] at dv; have bP := bAl w3 (.cells #[.bool (pN i), .bool (full i), .bool (pU i), .bool (sized i), .bool (pC i), .bool (stepV i), .bool (pQ i)] 44); have V4 := vblk_grow V3 bP; obtain ⟨q0, q1, q2, q3, q4, q5, q6, q7⟩ := cellsCm V4; have dv2 := cell_grow bP (World.block_lt_of_cell? w3 _ dv) dv) | (fail))
  obtain ⟨wA, hwA⟩ := hid_ex (((w3.alloc (.cells #[.bool (pN i), .bool (full i), .bool (pU i), .bool (sized i), .bool (pC i), .bool (stepV i), .bool (pQ i)] 44)).alloc (.cells #[.string (tx (vw i))] 9)).alloc (.cells #[.slice (some ⟨w3.heap.size + 1, 0, none⟩) 1 1] 47))
  have SI : Si w wA b1 w3.heap.size (w3.heap.size + 1 + 1) [.int .i64 (i : Int), .string N, .int .i64 (f : Int), .int .i64 (u : Int), .string B, .int .i64 (c : Int), .int .i64 (d : Int), .bool Q] [.bool (pN i), .bool (full i), .bool (pU i), .bool (sized i), .bool (pC i), .bool (stepV i), .bool (pQ i)] (Q0 i) := by
    rw [← hwA.out]
    have hlt1 : b1 < w3.heap.size := V3.lt
    have O := own_new (E := encS) (w3.alloc (.cells #[.bool (pN i), .bool (full i), .bool (pU i), .bool (sized i), .bool (pC i), .bool (stepV i), .bool (pQ i)] 44)) w.heap.size (tx (vw i)) #[.string (tx (vw i))] rfl (by simp; omega)
    have e1 : (w3.alloc (.cells #[.bool (pN i), .bool (full i), .bool (pU i), .bool (sized i), .bool (pC i), .bool (stepV i), .bool (pQ i)] 44)).heap.size = w3.heap.size + 1 := by simp
    have e2 : ((w3.alloc (.cells #[.bool (pN i), .bool (full i), .bool (pU i), .bool (sized i), .bool (pC i), .bool (stepV i), .bool (pQ i)] 44)).alloc (.cells #[.string (tx (vw i))] 9)).heap.size = w3.heap.size + 1 + 1 := by simp
    rw [e1] at O
    have Vv := vblk_new ((w3.alloc (.cells #[.bool (pN i), .bool (full i), .bool (pU i), .bool (sized i), .bool (pC i), .bool (stepV i), .bool (pQ i)] 44)).alloc (.cells #[.string (tx (vw i))] 9)) #[.slice (some ⟨w3.heap.size + 1, 0, none⟩) 1 1] 47
    rw [e2] at Vv
    refine ⟨vblk_grow (vblk_grow V4 (bAl _ _)) (bAl _ _), vblk_grow (vblk_grow (vblk_new w3 _ _) (bAl _ _)) (bAl _ _), ⟨_, Vv, (O.grow (bAl _ _)).top⟩, ?_, by omega, by omega, by omega⟩
    exact ((hBw.trans (bP.mono (by omega))).trans ((bAl _ _).mono (by rw [e1]; omega))).trans ((bAl _ _).mono (by rw [e2]; omega))
  rw [hwA.out]
  clear hwA dv dv2 c0 c1 c2 c3 c4 c5 c6 c7 q0 q1 q2 q3 q4 q5 q6 q7 V1 V2 V3 V4 bP hBw hB1 hB2 hB3 hz1 hz2 hz3
  generalize w3.heap.size + 1 + 1 = b4 at SI ⊢
  generalize w3.heap.size = b3 at SI ⊢
  have LEN : Hid ((Q1 i N).length ≤ 10 ∧ (Q2 i N f).length ≤ 10 ∧ (Q3 i N f u).length ≤ 10 ∧ (Q4 i N f u B.size).length ≤ 10 ∧ (Q5 i N f u B.size c).length ≤ 10 ∧ (Q6 i N f u B.size c d).length ≤ 10 ∧ (Q7 i N f u B.size c d Q).length ≤ 10) := Q_len i N f u B.size c d Q
  obtain ⟨c0, c1, c2, c3, c4, c5, c6, c7⟩ := cellsCm SI.V1
  obtain ⟨d0, d1, d2, d3, d4, d5, d6⟩ := cells7 SI.V3
  have S0 : Hid (Si w wA b1 b3 b4 [.int .i64 (i : Int), .string N, .int .i64 (f : Int), .int .i64 (u : Int), .string B, .int .i64 (c : Int), .int .i64 (d : Int), .bool Q] [.bool (pN i), .bool (full i), .bool (pU i), .bool (sized i), .bool (pC i), .bool (stepV i), .bool (pQ i)] (Q0 i)) := SI
  clear SI
  go_upto_region 7 with (first | (go_at_call 25; refine (S0.out.add _ _ (by show 1 ≤ 100; omega)).mono ?_; rintro e w5 ⟨rfl, T1⟩; have S1 : Hid (Si w w5 b1 b3 b4 [.int .i64 (i : Int), .string N, .int .i64 (f : Int), .int .i64 (u : Int), .string B, .int .i64 (c : Int), .int .i64 (d : Int), .bool Q] [.bool (pN i), .bool (full i), .bool (pU i), .bool (sized i), .bool (pC i), .bool (stepV i), .bool (pQ i)] (Q1 i N)) := T1; clear T1; obtain ⟨r0, r1, r2, r3, r4, r5, r6, r7⟩ := cellsCm S1.out.V1; obtain ⟨s0, s1, s2, s3, s4, s5, s6⟩ := cells7 S1.out.V3) | (fail))
  have SD1 : Hid (Si w w5.drew b1 b3 b4 [.int .i64 (i : Int), .string N, .int .i64 (f : Int), .int .i64 (u : Int), .string B, .int .i64 (c : Int), .int .i64 (d : Int), .bool Q] [.bool (pN i), .bool (full i), .bool (pU i), .bool (sized i), .bool (pC i), .bool (stepV i), .bool (pQ i)] (Q1 i N)) := S1.out.grow (Below.refl _ _).drew
  have H1 : w5.drew.cell? ⟨b1, 0, none⟩ = some (.int .i64 (i : Int)) ∧ w5.drew.cell? ⟨b1, 1, none⟩ = some (.string N) ∧ w5.drew.cell? ⟨b1, 2, none⟩ = some (.int .i64 (f : Int)) ∧ w5.drew.cell? ⟨b1, 3, none⟩ = some (.int .i64 (u : Int)) ∧ w5.drew.cell? ⟨b1, 4, none⟩ = some (.string B) ∧ w5.drew.cell? ⟨b1, 5, none⟩ = some (.int .i64 (c : Int)) ∧ w5.drew.cell? ⟨b1, 6, none⟩ = some (.int .i64 (d : Int)) ∧ w5.drew.cell? ⟨b1, 7, none⟩ = some (.bool Q) ∧ w5.drew.cell? ⟨b3, 0, none⟩ = some (.bool (pN i)) ∧ w5.drew.cell? ⟨b3, 1, none⟩ = some (.bool (full i)) ∧ w5.drew.cell? ⟨b3, 2, none⟩ = some (.bool (pU i)) ∧ w5.drew.cell? ⟨b3, 3, none⟩ = some (.bool (sized i)) ∧ w5.drew.cell? ⟨b3, 4, none⟩ = some (.bool (pC i)) ∧ w5.drew.cell? ⟨b3, 5, none⟩ = some (.bool (stepV i)) ∧ w5.drew.cell? ⟨b3, 6, none⟩ = some (.bool (pQ i)) := ⟨r0, r1, r2, r3, r4, r5, r6, r7, s0, s1, s2, s3, s4, s5, s6⟩
  clear r0 r1 r2 r3 r4 r5 r6 r7 s0 s1 s2 s3 s4 s5 s6
  obtain ⟨x1, hx1⟩ := hid_ex (tx (digs f))
  go_region_held3 (fun w' => w'.cell? ⟨b1, 0, none⟩ = some (.int .i64 (i : Int)) ∧ w'.cell? ⟨b1, 1, none⟩ = some (.string N) ∧ w'.cell? ⟨b1, 2, none⟩ = some (.int .i64 (f : Int)) ∧ w'.cell? ⟨b1, 3, none⟩ = some (.int .i64 (u : Int)) ∧ w'.cell? ⟨b1, 4, none⟩ = some (.string B) ∧ w'.cell? ⟨b1, 5, none⟩ = some (.int .i64 (c : Int)) ∧ w'.cell? ⟨b1, 6, none⟩ = some (.int .i64 (d : Int)) ∧ w'.cell? ⟨b1, 7, none⟩ = some (.bool Q) ∧ w'.cell? ⟨b3, 0, none⟩ = some (.bool (pN i)) ∧ w'.cell? ⟨b3, 1, none⟩ = some (.bool (full i)) ∧ w'.cell? ⟨b3, 2, none⟩ = some (.bool (pU i)) ∧ w'.cell? ⟨b3, 3, none⟩ = some (.bool (sized i)) ∧ w'.cell? ⟨b3, 4, none⟩ = some (.bool (pC i)) ∧ w'.cell? ⟨b3, 5, none⟩ = some (.bool (stepV i)) ∧ w'.cell? ⟨b3, 6, none⟩ = some (.bool (pQ i))) (first | with_reducible assumption | with_reducible exact H1 | (fail)) (first | (go_at_call 26; refine (decimal_nat f x1 hx1.out (by omega) _ (EN.out.grow SD1.out.b)).mono ?_; rintro e wd ⟨rfl, hBd⟩; have SE := SD1.out.grow hBd; have HE : wd.cell? ⟨b1, 0, none⟩ = some (.int .i64 (i : Int)) ∧ wd.cell? ⟨b1, 1, none⟩ = some (.string N) ∧ wd.cell? ⟨b1, 2, none⟩ = some (.int .i64 (f : Int)) ∧ wd.cell? ⟨b1, 3, none⟩ = some (.int .i64 (u : Int)) ∧ wd.cell? ⟨b1, 4, none⟩ = some (.string B) ∧ wd.cell? ⟨b1, 5, none⟩ = some (.int .i64 (c : Int)) ∧ wd.cell? ⟨b1, 6, none⟩ = some (.int .i64 (d : Int)) ∧ wd.cell? ⟨b1, 7, none⟩ = some (.bool Q) ∧ wd.cell? ⟨b3, 0, none⟩ = some (.bool (pN i)) ∧ wd.cell? ⟨b3, 1, none⟩ = some (.bool (full i)) ∧ wd.cell? ⟨b3, 2, none⟩ = some (.bool (pU i)) ∧ wd.cell? ⟨b3, 3, none⟩ = some (.bool (sized i)) ∧ wd.cell? ⟨b3, 4, none⟩ = some (.bool (pC i)) ∧ wd.cell? ⟨b3, 5, none⟩ = some (.bool (stepV i)) ∧ wd.cell? ⟨b3, 6, none⟩ = some (.bool (pQ i)) := hs15 (cellsCm SE.V1) (cells7 SE.V3)) | (go_at_call 25; refine (SE.add _ _ (by have := LEN.out; omega)).mono ?_; rintro e w6 ⟨rfl, T1⟩; have S2 : Hid (Si w w6 b1 b3 b4 [.int .i64 (i : Int), .string N, .int .i64 (f : Int), .int .i64 (u : Int), .string B, .int .i64 (c : Int), .int .i64 (d : Int), .bool Q] [.bool (pN i), .bool (full i), .bool (pU i), .bool (sized i), .bool (pC i), .bool (stepV i), .bool (pQ i)] (Q2 i N f)) := (by rw [← hx1.out] at T1; exact T1); clear T1; have HF : w6.cell? ⟨b1, 0, none⟩ = some (.int .i64 (i : Int)) ∧ w6.cell? ⟨b1, 1, none⟩ = some (.string N) ∧ w6.cell? ⟨b1, 2, none⟩ = some (.int .i64 (f : Int)) ∧ w6.cell? ⟨b1, 3, none⟩ = some (.int .i64 (u : Int)) ∧ w6.cell? ⟨b1, 4, none⟩ = some (.string B) ∧ w6.cell? ⟨b1, 5, none⟩ = some (.int .i64 (c : Int)) ∧ w6.cell? ⟨b1, 6, none⟩ = some (.int .i64 (d : Int)) ∧ w6.cell? ⟨b1, 7, none⟩ = some (.bool Q) ∧ w6.cell? ⟨b3, 0, none⟩ = some (.bool (pN i)) ∧ w6.cell? ⟨b3, 1, none⟩ = some (.bool (full i)) ∧ w6.cell? ⟨b3, 2, none⟩ = some (.bool (pU i)) ∧ w6.cell? ⟨b3, 3, none⟩ = some (.bool (sized i)) ∧ w6.cell? ⟨b3, 4, none⟩ = some (.bool (pC i)) ∧ w6.cell? ⟨b3, 5, none⟩ = some (.bool (stepV i)) ∧ w6.cell? ⟨b3, 6, none⟩ = some (.bool (pQ i)) := hs15 (cellsCm S2.out.V1) (cells7 S2.out.V3)) | (fail))
  clear SE HE HF H1 hBd
  obtain ⟨r0, r1, r2, r3, r4, r5, r6, r7⟩ := cellsCm S2.out.V1
  obtain ⟨s0, s1, s2, s3, s4, s5, s6⟩ := cells7 S2.out.V3
  go_upto_region 8 with (fail)
  have SD2 : Hid (Si w w6.drew b1 b3 b4 [.int .i64 (i : Int), .string N, .int .i64 (f : Int), .int .i64 (u : Int), .string B, .int .i64 (c : Int), .int .i64 (d : Int), .bool Q] [.bool (pN i), .bool (full i), .bool (pU i), .bool (sized i), .bool (pC i), .bool (stepV i), .bool (pQ i)] (Q2 i N f)) := S2.out.grow (Below.refl _ _).drew
  have H2 : w6.drew.cell? ⟨b1, 0, none⟩ = some (.int .i64 (i : Int)) ∧ w6.drew.cell? ⟨b1, 1, none⟩ = some (.string N) ∧ w6.drew.cell? ⟨b1, 2, none⟩ = some (.int .i64 (f : Int)) ∧ w6.drew.cell? ⟨b1, 3, none⟩ = some (.int .i64 (u : Int)) ∧ w6.drew.cell? ⟨b1, 4, none⟩ = some (.string B) ∧ w6.drew.cell? ⟨b1, 5, none⟩ = some (.int .i64 (c : Int)) ∧ w6.drew.cell? ⟨b1, 6, none⟩ = some (.int .i64 (d : Int)) ∧ w6.drew.cell? ⟨b1, 7, none⟩ = some (.bool Q) ∧ w6.drew.cell? ⟨b3, 0, none⟩ = some (.bool (pN i)) ∧ w6.drew.cell? ⟨b3, 1, none⟩ = some (.bool (full i)) ∧ w6.drew.cell? ⟨b3, 2, none⟩ = some (.bool (pU i)) ∧ w6.drew.cell? ⟨b3, 3, none⟩ = some (.bool (sized i)) ∧ w6.drew.cell? ⟨b3, 4, none⟩ = some (.bool (pC i)) ∧ w6.drew.cell? ⟨b3, 5, none⟩ = some (.bool (stepV i)) ∧ w6.drew.cell? ⟨b3, 6, none⟩ = some (.bool (pQ i)) := ⟨r0, r1, r2, r3, r4, r5, r6, r7, s0, s1, s2, s3, s4, s5, s6⟩
  clear r0 r1 r2 r3 r4 r5 r6 r7 s0 s1 s2 s3 s4 s5 s6
  obtain ⟨x2, hx2⟩ := hid_ex (tx (digs u))
  go_region_held3 (fun w' => w'.cell? ⟨b1, 0, none⟩ = some (.int .i64 (i : Int)) ∧ w'.cell? ⟨b1, 1, none⟩ = some (.string N) ∧ w'.cell? ⟨b1, 2, none⟩ = some (.int .i64 (f : Int)) ∧ w'.cell? ⟨b1, 3, none⟩ = some (.int .i64 (u : Int)) ∧ w'.cell? ⟨b1, 4, none⟩ = some (.string B) ∧ w'.cell? ⟨b1, 5, none⟩ = some (.int .i64 (c : Int)) ∧ w'.cell? ⟨b1, 6, none⟩ = some (.int .i64 (d : Int)) ∧ w'.cell? ⟨b1, 7, none⟩ = some (.bool Q) ∧ w'.cell? ⟨b3, 0, none⟩ = some (.bool (pN i)) ∧ w'.cell? ⟨b3, 1, none⟩ = some (.bool (full i)) ∧ w'.cell? ⟨b3, 2, none⟩ = some (.bool (pU i)) ∧ w'.cell? ⟨b3, 3, none⟩ = some (.bool (sized i)) ∧ w'.cell? ⟨b3, 4, none⟩ = some (.bool (pC i)) ∧ w'.cell? ⟨b3, 5, none⟩ = some (.bool (stepV i)) ∧ w'.cell? ⟨b3, 6, none⟩ = some (.bool (pQ i))) (first | with_reducible assumption | with_reducible exact H2 | (fail)) (first | (go_at_call 26; refine (decimal_nat u x2 hx2.out (by omega) _ (EN.out.grow SD2.out.b)).mono ?_; rintro e wd ⟨rfl, hBd⟩; have SE := SD2.out.grow hBd; have HE : wd.cell? ⟨b1, 0, none⟩ = some (.int .i64 (i : Int)) ∧ wd.cell? ⟨b1, 1, none⟩ = some (.string N) ∧ wd.cell? ⟨b1, 2, none⟩ = some (.int .i64 (f : Int)) ∧ wd.cell? ⟨b1, 3, none⟩ = some (.int .i64 (u : Int)) ∧ wd.cell? ⟨b1, 4, none⟩ = some (.string B) ∧ wd.cell? ⟨b1, 5, none⟩ = some (.int .i64 (c : Int)) ∧ wd.cell? ⟨b1, 6, none⟩ = some (.int .i64 (d : Int)) ∧ wd.cell? ⟨b1, 7, none⟩ = some (.bool Q) ∧ wd.cell? ⟨b3, 0, none⟩ = some (.bool (pN i)) ∧ wd.cell? ⟨b3, 1, none⟩ = some (.bool (full i)) ∧ wd.cell? ⟨b3, 2, none⟩ = some (.bool (pU i)) ∧ wd.cell? ⟨b3, 3, none⟩ = some (.bool (sized i)) ∧ wd.cell? ⟨b3, 4, none⟩ = some (.bool (pC i)) ∧ wd.cell? ⟨b3, 5, none⟩ = some (.bool (stepV i)) ∧ wd.cell? ⟨b3, 6, none⟩ = some (.bool (pQ i)) := hs15 (cellsCm SE.V1) (cells7 SE.V3)) | (go_at_call 25; refine (SE.add _ _ (by have := LEN.out; omega)).mono ?_; rintro e w7 ⟨rfl, T1⟩; have S3 : Hid (Si w w7 b1 b3 b4 [.int .i64 (i : Int), .string N, .int .i64 (f : Int), .int .i64 (u : Int), .string B, .int .i64 (c : Int), .int .i64 (d : Int), .bool Q] [.bool (pN i), .bool (full i), .bool (pU i), .bool (sized i), .bool (pC i), .bool (stepV i), .bool (pQ i)] (Q3 i N f u)) := (by rw [← hx2.out] at T1; exact T1); clear T1; have HF : w7.cell? ⟨b1, 0, none⟩ = some (.int .i64 (i : Int)) ∧ w7.cell? ⟨b1, 1, none⟩ = some (.string N) ∧ w7.cell? ⟨b1, 2, none⟩ = some (.int .i64 (f : Int)) ∧ w7.cell? ⟨b1, 3, none⟩ = some (.int .i64 (u : Int)) ∧ w7.cell? ⟨b1, 4, none⟩ = some (.string B) ∧ w7.cell? ⟨b1, 5, none⟩ = some (.int .i64 (c : Int)) ∧ w7.cell? ⟨b1, 6, none⟩ = some (.int .i64 (d : Int)) ∧ w7.cell? ⟨b1, 7, none⟩ = some (.bool Q) ∧ w7.cell? ⟨b3, 0, none⟩ = some (.bool (pN i)) ∧ w7.cell? ⟨b3, 1, none⟩ = some (.bool (full i)) ∧ w7.cell? ⟨b3, 2, none⟩ = some (.bool (pU i)) ∧ w7.cell? ⟨b3, 3, none⟩ = some (.bool (sized i)) ∧ w7.cell? ⟨b3, 4, none⟩ = some (.bool (pC i)) ∧ w7.cell? ⟨b3, 5, none⟩ = some (.bool (stepV i)) ∧ w7.cell? ⟨b3, 6, none⟩ = some (.bool (pQ i)) := hs15 (cellsCm S3.out.V1) (cells7 S3.out.V3)) | (fail))
  clear SE HE HF H2 hBd
  obtain ⟨r0, r1, r2, r3, r4, r5, r6, r7⟩ := cellsCm S3.out.V1
  obtain ⟨s0, s1, s2, s3, s4, s5, s6⟩ := cells7 S3.out.V3
  go_upto_region 9 with (fail)
  have SD3 : Hid (Si w w7.drew b1 b3 b4 [.int .i64 (i : Int), .string N, .int .i64 (f : Int), .int .i64 (u : Int), .string B, .int .i64 (c : Int), .int .i64 (d : Int), .bool Q] [.bool (pN i), .bool (full i), .bool (pU i), .bool (sized i), .bool (pC i), .bool (stepV i), .bool (pQ i)] (Q3 i N f u)) := S3.out.grow (Below.refl _ _).drew
  have H3 : w7.drew.cell? ⟨b1, 0, none⟩ = some (.int .i64 (i : Int)) ∧ w7.drew.cell? ⟨b1, 1, none⟩ = some (.string N) ∧ w7.drew.cell? ⟨b1, 2, none⟩ = some (.int .i64 (f : Int)) ∧ w7.drew.cell? ⟨b1, 3, none⟩ = some (.int .i64 (u : Int)) ∧ w7.drew.cell? ⟨b1, 4, none⟩ = some (.string B) ∧ w7.drew.cell? ⟨b1, 5, none⟩ = some (.int .i64 (c : Int)) ∧ w7.drew.cell? ⟨b1, 6, none⟩ = some (.int .i64 (d : Int)) ∧ w7.drew.cell? ⟨b1, 7, none⟩ = some (.bool Q) ∧ w7.drew.cell? ⟨b3, 0, none⟩ = some (.bool (pN i)) ∧ w7.drew.cell? ⟨b3, 1, none⟩ = some (.bool (full i)) ∧ w7.drew.cell? ⟨b3, 2, none⟩ = some (.bool (pU i)) ∧ w7.drew.cell? ⟨b3, 3, none⟩ = some (.bool (sized i)) ∧ w7.drew.cell? ⟨b3, 4, none⟩ = some (.bool (pC i)) ∧ w7.drew.cell? ⟨b3, 5, none⟩ = some (.bool (stepV i)) ∧ w7.drew.cell? ⟨b3, 6, none⟩ = some (.bool (pQ i)) := ⟨r0, r1, r2, r3, r4, r5, r6, r7, s0, s1, s2, s3, s4, s5, s6⟩
  clear r0 r1 r2 r3 r4 r5 r6 r7 s0 s1 s2 s3 s4 s5 s6
  obtain ⟨x3, hx3⟩ := hid_ex (tx (digs B.size))
  go_region_held3 (fun w' => w'.cell? ⟨b1, 0, none⟩ = some (.int .i64 (i : Int)) ∧ w'.cell? ⟨b1, 1, none⟩ = some (.string N) ∧ w'.cell? ⟨b1, 2, none⟩ = some (.int .i64 (f : Int)) ∧ w'.cell? ⟨b1, 3, none⟩ = some (.int .i64 (u : Int)) ∧ w'.cell? ⟨b1, 4, none⟩ = some (.string B) ∧ w'.cell? ⟨b1, 5, none⟩ = some (.int .i64 (c : Int)) ∧ w'.cell? ⟨b1, 6, none⟩ = some (.int .i64 (d : Int)) ∧ w'.cell? ⟨b1, 7, none⟩ = some (.bool Q) ∧ w'.cell? ⟨b3, 0, none⟩ = some (.bool (pN i)) ∧ w'.cell? ⟨b3, 1, none⟩ = some (.bool (full i)) ∧ w'.cell? ⟨b3, 2, none⟩ = some (.bool (pU i)) ∧ w'.cell? ⟨b3, 3, none⟩ = some (.bool (sized i)) ∧ w'.cell? ⟨b3, 4, none⟩ = some (.bool (pC i)) ∧ w'.cell? ⟨b3, 5, none⟩ = some (.bool (stepV i)) ∧ w'.cell? ⟨b3, 6, none⟩ = some (.bool (pQ i))) (first | with_reducible assumption | with_reducible exact H3 | (fail)) (first | (go_at_call 26; refine (decimal_nat B.size x3 hx3.out (by omega) _ (EN.out.grow SD3.out.b)).mono ?_; rintro e wd ⟨rfl, hBd⟩; have SE := SD3.out.grow hBd; have HE : wd.cell? ⟨b1, 0, none⟩ = some (.int .i64 (i : Int)) ∧ wd.cell? ⟨b1, 1, none⟩ = some (.string N) ∧ wd.cell? ⟨b1, 2, none⟩ = some (.int .i64 (f : Int)) ∧ wd.cell? ⟨b1, 3, none⟩ = some (.int .i64 (u : Int)) ∧ wd.cell? ⟨b1, 4, none⟩ = some (.string B) ∧ wd.cell? ⟨b1, 5, none⟩ = some (.int .i64 (c : Int)) ∧ wd.cell? ⟨b1, 6, none⟩ = some (.int .i64 (d : Int)) ∧ wd.cell? ⟨b1, 7, none⟩ = some (.bool Q) ∧ wd.cell? ⟨b3, 0, none⟩ = some (.bool (pN i)) ∧ wd.cell? ⟨b3, 1, none⟩ = some (.bool (full i)) ∧ wd.cell? ⟨b3, 2, none⟩ = some (.bool (pU i)) ∧ wd.cell? ⟨b3, 3, none⟩ = some (.bool (sized i)) ∧ wd.cell? ⟨b3, 4, none⟩ = some (.bool (pC i)) ∧ wd.cell? ⟨b3, 5, none⟩ = some (.bool (stepV i)) ∧ wd.cell? ⟨b3, 6, none⟩ = some (.bool (pQ i)) := hs15 (cellsCm SE.V1) (cells7 SE.V3)) | (go_at_call 25; refine (SE.add _ _ (by have := LEN.out; omega)).mono ?_; rintro e w8 ⟨rfl, T1⟩; have S4 : Hid (Si w w8 b1 b3 b4 [.int .i64 (i : Int), .string N, .int .i64 (f : Int), .int .i64 (u : Int), .string B, .int .i64 (c : Int), .int .i64 (d : Int), .bool Q] [.bool (pN i), .bool (full i), .bool (pU i), .bool (sized i), .bool (pC i), .bool (stepV i), .bool (pQ i)] (Q4 i N f u B.size)) := (by rw [← hx3.out] at T1; exact T1); clear T1; have HF : w8.cell? ⟨b1, 0, none⟩ = some (.int .i64 (i : Int)) ∧ w8.cell? ⟨b1, 1, none⟩ = some (.string N) ∧ w8.cell? ⟨b1, 2, none⟩ = some (.int .i64 (f : Int)) ∧ w8.cell? ⟨b1, 3, none⟩ = some (.int .i64 (u : Int)) ∧ w8.cell? ⟨b1, 4, none⟩ = some (.string B) ∧ w8.cell? ⟨b1, 5, none⟩ = some (.int .i64 (c : Int)) ∧ w8.cell? ⟨b1, 6, none⟩ = some (.int .i64 (d : Int)) ∧ w8.cell? ⟨b1, 7, none⟩ = some (.bool Q) ∧ w8.cell? ⟨b3, 0, none⟩ = some (.bool (pN i)) ∧ w8.cell? ⟨b3, 1, none⟩ = some (.bool (full i)) ∧ w8.cell? ⟨b3, 2, none⟩ = some (.bool (pU i)) ∧ w8.cell? ⟨b3, 3, none⟩ = some (.bool (sized i)) ∧ w8.cell? ⟨b3, 4, none⟩ = some (.bool (pC i)) ∧ w8.cell? ⟨b3, 5, none⟩ = some (.bool (stepV i)) ∧ w8.cell? ⟨b3, 6, none⟩ = some (.bool (pQ i)) := hs15 (cellsCm S4.out.V1) (cells7 S4.out.V3)) | (fail))
  clear SE HE HF H3 hBd
  obtain ⟨r0, r1, r2, r3, r4, r5, r6, r7⟩ := cellsCm S4.out.V1
  obtain ⟨s0, s1, s2, s3, s4, s5, s6⟩ := cells7 S4.out.V3
  go_upto_region 10 with (fail)
  have SD4 : Hid (Si w w8.drew b1 b3 b4 [.int .i64 (i : Int), .string N, .int .i64 (f : Int), .int .i64 (u : Int), .string B, .int .i64 (c : Int), .int .i64 (d : Int), .bool Q] [.bool (pN i), .bool (full i), .bool (pU i), .bool (sized i), .bool (pC i), .bool (stepV i), .bool (pQ i)] (Q4 i N f u B.size)) := S4.out.grow (Below.refl _ _).drew
  have H4 : w8.drew.cell? ⟨b1, 0, none⟩ = some (.int .i64 (i : Int)) ∧ w8.drew.cell? ⟨b1, 1, none⟩ = some (.string N) ∧ w8.drew.cell? ⟨b1, 2, none⟩ = some (.int .i64 (f : Int)) ∧ w8.drew.cell? ⟨b1, 3, none⟩ = some (.int .i64 (u : Int)) ∧ w8.drew.cell? ⟨b1, 4, none⟩ = some (.string B) ∧ w8.drew.cell? ⟨b1, 5, none⟩ = some (.int .i64 (c : Int)) ∧ w8.drew.cell? ⟨b1, 6, none⟩ = some (.int .i64 (d : Int)) ∧ w8.drew.cell? ⟨b1, 7, none⟩ = some (.bool Q) ∧ w8.drew.cell? ⟨b3, 0, none⟩ = some (.bool (pN i)) ∧ w8.drew.cell? ⟨b3, 1, none⟩ = some (.bool (full i)) ∧ w8.drew.cell? ⟨b3, 2, none⟩ = some (.bool (pU i)) ∧ w8.drew.cell? ⟨b3, 3, none⟩ = some (.bool (sized i)) ∧ w8.drew.cell? ⟨b3, 4, none⟩ = some (.bool (pC i)) ∧ w8.drew.cell? ⟨b3, 5, none⟩ = some (.bool (stepV i)) ∧ w8.drew.cell? ⟨b3, 6, none⟩ = some (.bool (pQ i)) := ⟨r0, r1, r2, r3, r4, r5, r6, r7, s0, s1, s2, s3, s4, s5, s6⟩
  clear r0 r1 r2 r3 r4 r5 r6 r7 s0 s1 s2 s3 s4 s5 s6
  obtain ⟨x4, hx4⟩ := hid_ex (tx (digs c))
  go_region_held3 (fun w' => w'.cell? ⟨b1, 0, none⟩ = some (.int .i64 (i : Int)) ∧ w'.cell? ⟨b1, 1, none⟩ = some (.string N) ∧ w'.cell? ⟨b1, 2, none⟩ = some (.int .i64 (f : Int)) ∧ w'.cell? ⟨b1, 3, none⟩ = some (.int .i64 (u : Int)) ∧ w'.cell? ⟨b1, 4, none⟩ = some (.string B) ∧ w'.cell? ⟨b1, 5, none⟩ = some (.int .i64 (c : Int)) ∧ w'.cell? ⟨b1, 6, none⟩ = some (.int .i64 (d : Int)) ∧ w'.cell? ⟨b1, 7, none⟩ = some (.bool Q) ∧ w'.cell? ⟨b3, 0, none⟩ = some (.bool (pN i)) ∧ w'.cell? ⟨b3, 1, none⟩ = some (.bool (full i)) ∧ w'.cell? ⟨b3, 2, none⟩ = some (.bool (pU i)) ∧ w'.cell? ⟨b3, 3, none⟩ = some (.bool (sized i)) ∧ w'.cell? ⟨b3, 4, none⟩ = some (.bool (pC i)) ∧ w'.cell? ⟨b3, 5, none⟩ = some (.bool (stepV i)) ∧ w'.cell? ⟨b3, 6, none⟩ = some (.bool (pQ i))) (first | with_reducible assumption | with_reducible exact H4 | (fail)) (first | (go_at_call 26; refine (decimal_nat c x4 hx4.out (by omega) _ (EN.out.grow SD4.out.b)).mono ?_; rintro e wd ⟨rfl, hBd⟩; have SE := SD4.out.grow hBd; have HE : wd.cell? ⟨b1, 0, none⟩ = some (.int .i64 (i : Int)) ∧ wd.cell? ⟨b1, 1, none⟩ = some (.string N) ∧ wd.cell? ⟨b1, 2, none⟩ = some (.int .i64 (f : Int)) ∧ wd.cell? ⟨b1, 3, none⟩ = some (.int .i64 (u : Int)) ∧ wd.cell? ⟨b1, 4, none⟩ = some (.string B) ∧ wd.cell? ⟨b1, 5, none⟩ = some (.int .i64 (c : Int)) ∧ wd.cell? ⟨b1, 6, none⟩ = some (.int .i64 (d : Int)) ∧ wd.cell? ⟨b1, 7, none⟩ = some (.bool Q) ∧ wd.cell? ⟨b3, 0, none⟩ = some (.bool (pN i)) ∧ wd.cell? ⟨b3, 1, none⟩ = some (.bool (full i)) ∧ wd.cell? ⟨b3, 2, none⟩ = some (.bool (pU i)) ∧ wd.cell? ⟨b3, 3, none⟩ = some (.bool (sized i)) ∧ wd.cell? ⟨b3, 4, none⟩ = some (.bool (pC i)) ∧ wd.cell? ⟨b3, 5, none⟩ = some (.bool (stepV i)) ∧ wd.cell? ⟨b3, 6, none⟩ = some (.bool (pQ i)) := hs15 (cellsCm SE.V1) (cells7 SE.V3)) | (go_at_call 25; refine (SE.add _ _ (by have := LEN.out; omega)).mono ?_; rintro e w9 ⟨rfl, T1⟩; have S5 : Hid (Si w w9 b1 b3 b4 [.int .i64 (i : Int), .string N, .int .i64 (f : Int), .int .i64 (u : Int), .string B, .int .i64 (c : Int), .int .i64 (d : Int), .bool Q] [.bool (pN i), .bool (full i), .bool (pU i), .bool (sized i), .bool (pC i), .bool (stepV i), .bool (pQ i)] (Q5 i N f u B.size c)) := (by rw [← hx4.out] at T1; exact T1); clear T1; have HF : w9.cell? ⟨b1, 0, none⟩ = some (.int .i64 (i : Int)) ∧ w9.cell? ⟨b1, 1, none⟩ = some (.string N) ∧ w9.cell? ⟨b1, 2, none⟩ = some (.int .i64 (f : Int)) ∧ w9.cell? ⟨b1, 3, none⟩ = some (.int .i64 (u : Int)) ∧ w9.cell? ⟨b1, 4, none⟩ = some (.string B) ∧ w9.cell? ⟨b1, 5, none⟩ = some (.int .i64 (c : Int)) ∧ w9.cell? ⟨b1, 6, none⟩ = some (.int .i64 (d : Int)) ∧ w9.cell? ⟨b1, 7, none⟩ = some (.bool Q) ∧ w9.cell? ⟨b3, 0, none⟩ = some (.bool (pN i)) ∧ w9.cell? ⟨b3, 1, none⟩ = some (.bool (full i)) ∧ w9.cell? ⟨b3, 2, none⟩ = some (.bool (pU i)) ∧ w9.cell? ⟨b3, 3, none⟩ = some (.bool (sized i)) ∧ w9.cell? ⟨b3, 4, none⟩ = some (.bool (pC i)) ∧ w9.cell? ⟨b3, 5, none⟩ = some (.bool (stepV i)) ∧ w9.cell? ⟨b3, 6, none⟩ = some (.bool (pQ i)) := hs15 (cellsCm S5.out.V1) (cells7 S5.out.V3)) | (fail))
  clear SE HE HF H4 hBd
  obtain ⟨r0, r1, r2, r3, r4, r5, r6, r7⟩ := cellsCm S5.out.V1
  obtain ⟨s0, s1, s2, s3, s4, s5, s6⟩ := cells7 S5.out.V3
  go_upto_region 11 with (fail)
  have SD5 : Hid (Si w w9.drew b1 b3 b4 [.int .i64 (i : Int), .string N, .int .i64 (f : Int), .int .i64 (u : Int), .string B, .int .i64 (c : Int), .int .i64 (d : Int), .bool Q] [.bool (pN i), .bool (full i), .bool (pU i), .bool (sized i), .bool (pC i), .bool (stepV i), .bool (pQ i)] (Q5 i N f u B.size c)) := S5.out.grow (Below.refl _ _).drew
  have H5 : w9.drew.cell? ⟨b1, 0, none⟩ = some (.int .i64 (i : Int)) ∧ w9.drew.cell? ⟨b1, 1, none⟩ = some (.string N) ∧ w9.drew.cell? ⟨b1, 2, none⟩ = some (.int .i64 (f : Int)) ∧ w9.drew.cell? ⟨b1, 3, none⟩ = some (.int .i64 (u : Int)) ∧ w9.drew.cell? ⟨b1, 4, none⟩ = some (.string B) ∧ w9.drew.cell? ⟨b1, 5, none⟩ = some (.int .i64 (c : Int)) ∧ w9.drew.cell? ⟨b1, 6, none⟩ = some (.int .i64 (d : Int)) ∧ w9.drew.cell? ⟨b1, 7, none⟩ = some (.bool Q) ∧ w9.drew.cell? ⟨b3, 0, none⟩ = some (.bool (pN i)) ∧ w9.drew.cell? ⟨b3, 1, none⟩ = some (.bool (full i)) ∧ w9.drew.cell? ⟨b3, 2, none⟩ = some (.bool (pU i)) ∧ w9.drew.cell? ⟨b3, 3, none⟩ = some (.bool (sized i)) ∧ w9.drew.cell? ⟨b3, 4, none⟩ = some (.bool (pC i)) ∧ w9.drew.cell? ⟨b3, 5, none⟩ = some (.bool (stepV i)) ∧ w9.drew.cell? ⟨b3, 6, none⟩ = some (.bool (pQ i)) := ⟨r0, r1, r2, r3, r4, r5, r6, r7, s0, s1, s2, s3, s4, s5, s6⟩
  clear r0 r1 r2 r3 r4 r5 r6 r7 s0 s1 s2 s3 s4 s5 s6
  obtain ⟨x5, hx5⟩ := hid_ex (tx (digs d))
  go_region_held3 (fun w' => w'.cell? ⟨b1, 0, none⟩ = some (.int .i64 (i : Int)) ∧ w'.cell? ⟨b1, 1, none⟩ = some (.string N) ∧ w'.cell? ⟨b1, 2, none⟩ = some (.int .i64 (f : Int)) ∧ w'.cell? ⟨b1, 3, none⟩ = some (.int .i64 (u : Int)) ∧ w'.cell? ⟨b1, 4, none⟩ = some (.string B) ∧ w'.cell? ⟨b1, 5, none⟩ = some (.int .i64 (c : Int)) ∧ w'.cell? ⟨b1, 6, none⟩ = some (.int .i64 (d : Int)) ∧ w'.cell? ⟨b1, 7, none⟩ = some (.bool Q) ∧ w'.cell? ⟨b3, 0, none⟩ = some (.bool (pN i)) ∧ w'.cell? ⟨b3, 1, none⟩ = some (.bool (full i)) ∧ w'.cell? ⟨b3, 2, none⟩ = some (.bool (pU i)) ∧ w'.cell? ⟨b3, 3, none⟩ = some (.bool (sized i)) ∧ w'.cell? ⟨b3, 4, none⟩ = some (.bool (pC i)) ∧ w'.cell? ⟨b3, 5, none⟩ = some (.bool (stepV i)) ∧ w'.cell? ⟨b3, 6, none⟩ = some (.bool (pQ i))) (first | with_reducible assumption | with_reducible exact H5 | (fail)) (first | (go_at_call 26; refine (decimal_nat d x5 hx5.out (by omega) _ (EN.out.grow SD5.out.b)).mono ?_; rintro e wd ⟨rfl, hBd⟩; have SE := SD5.out.grow hBd; have HE : wd.cell? ⟨b1, 0, none⟩ = some (.int .i64 (i : Int)) ∧ wd.cell? ⟨b1, 1, none⟩ = some (.string N) ∧ wd.cell? ⟨b1, 2, none⟩ = some (.int .i64 (f : Int)) ∧ wd.cell? ⟨b1, 3, none⟩ = some (.int .i64 (u : Int)) ∧ wd.cell? ⟨b1, 4, none⟩ = some (.string B) ∧ wd.cell? ⟨b1, 5, none⟩ = some (.int .i64 (c : Int)) ∧ wd.cell? ⟨b1, 6, none⟩ = some (.int .i64 (d : Int)) ∧ wd.cell? ⟨b1, 7, none⟩ = some (.bool Q) ∧ wd.cell? ⟨b3, 0, none⟩ = some (.bool (pN i)) ∧ wd.cell? ⟨b3, 1, none⟩ = some (.bool (full i)) ∧ wd.cell? ⟨b3, 2, none⟩ = some (.bool (pU i)) ∧ wd.cell? ⟨b3, 3, none⟩ = some (.bool (sized i)) ∧ wd.cell? ⟨b3, 4, none⟩ = some (.bool (pC i)) ∧ wd.cell? ⟨b3, 5, none⟩ = some (.bool (stepV i)) ∧ wd.cell? ⟨b3, 6, none⟩ = some (.bool (pQ i)) := hs15 (cellsCm SE.V1) (cells7 SE.V3)) | (go_at_call 25; refine (SE.add _ _ (by have := LEN.out; omega)).mono ?_; rintro e w10 ⟨rfl, T1⟩; have S6 : Hid (Si w w10 b1 b3 b4 [.int .i64 (i : Int), .string N, .int .i64 (f : Int), .int .i64 (u : Int), .string B, .int .i64 (c : Int), .int .i64 (d : Int), .bool Q] [.bool (pN i), .bool (full i), .bool (pU i), .bool (sized i), .bool (pC i), .bool (stepV i), .bool (pQ i)] (Q6 i N f u B.size c d)) := (by rw [← hx5.out] at T1; exact T1); clear T1; have HF : w10.cell? ⟨b1, 0, none⟩ = some (.int .i64 (i : Int)) ∧ w10.cell? ⟨b1, 1, none⟩ = some (.string N) ∧ w10.cell? ⟨b1, 2, none⟩ = some (.int .i64 (f : Int)) ∧ w10.cell? ⟨b1, 3, none⟩ = some (.int .i64 (u : Int)) ∧ w10.cell? ⟨b1, 4, none⟩ = some (.string B) ∧ w10.cell? ⟨b1, 5, none⟩ = some (.int .i64 (c : Int)) ∧ w10.cell? ⟨b1, 6, none⟩ = some (.int .i64 (d : Int)) ∧ w10.cell? ⟨b1, 7, none⟩ = some (.bool Q) ∧ w10.cell? ⟨b3, 0, none⟩ = some (.bool (pN i)) ∧ w10.cell? ⟨b3, 1, none⟩ = some (.bool (full i)) ∧ w10.cell? ⟨b3, 2, none⟩ = some (.bool (pU i)) ∧ w10.cell? ⟨b3, 3, none⟩ = some (.bool (sized i)) ∧ w10.cell? ⟨b3, 4, none⟩ = some (.bool (pC i)) ∧ w10.cell? ⟨b3, 5, none⟩ = some (.bool (stepV i)) ∧ w10.cell? ⟨b3, 6, none⟩ = some (.bool (pQ i)) := hs15 (cellsCm S6.out.V1) (cells7 S6.out.V3)) | (fail))
  clear SE HE HF H5 hBd
  obtain ⟨r0, r1, r2, r3, r4, r5, r6, r7⟩ := cellsCm S6.out.V1
  obtain ⟨s0, s1, s2, s3, s4, s5, s6⟩ := cells7 S6.out.V3

  have HM : Hid (∀ x ∈ Q7 i N f u B.size c d Q, x.size ≤ 10000) := Q_size i N f u B.size c d Q hN hf hu hBs hd hc (by omega) (by omega)
  have HW : Hid ((Q7 i N f u B.size c d Q).map bs = wordsK ⟨i, N, f, u, B, c, d, Q⟩ B.size) := Q7_words (by omega) (by omega) N f u B c d Q (fun h => by have hb : B = emp := (cmdB_iff.1 hy.out).b h; rw [hb]; rfl)
  obtain ⟨x, hx⟩ := hid_ex (tx (wordsL ((Q7 i N f u B.size c d Q).map bs)))
  have hxl : x.size ≤ 1000000 := by
    rw [← hx.out, tx_size]
    have h1 := wordsL_len ((Q7 i N f u B.size c d Q).map bs) 10000 (fun y hy => by
      obtain ⟨z, hz, rfl⟩ := List.mem_map.1 hy
      rw [bs_len]
      exact HM.out z hz)
    have h2 := LEN.out.2.2.2.2.2.2
    rw [List.length_map] at h1
    have : (Q7 i N f u B.size c d Q).length * (10000 + 1) ≤ 10 * 10001 := Nat.mul_le_mul_right _ h2
    omega
  have e1 : (x ++ (⟨#[10]⟩ : ByteArray)).size = x.size + 1 := by rw [ByteArray.size_append]; rfl
  have e2 : (x ++ (⟨#[10]⟩ : ByteArray) ++ B).size = x.size + 1 + B.size := by rw [ByteArray.size_append, e1]
  have hq1 : Hid (1 ≤ (Q7 i N f u B.size c d Q).length) := by unfold Hid Q7 Q6 Q5 Q4 Q3 Q2 Q1 Q0; simp
  obtain ⟨sv, hsv⟩ := hid_ex (sized i)
  have hqx : (⟨#[113, 117, 105, 101, 116]⟩ : ByteArray) = tx quiet := rfl
  cases sv with
  | false =>
    have hsb : sized (i : Int) = false := hsv.out
    go_wp2_with (first | (go_at_call 25; refine (S6.out.add _ _ (by have := LEN.out; omega)).mono ?_; rintro e wb ⟨rfl, T1⟩; have S7 : Hid (Si w wb b1 b3 b4 [.int .i64 (i : Int), .string N, .int .i64 (f : Int), .int .i64 (u : Int), .string B, .int .i64 (c : Int), .int .i64 (d : Int), .bool Q] [.bool (pN i), .bool (full i), .bool (pU i), .bool (sized i), .bool (pC i), .bool (stepV i), .bool (pQ i)] (Q7 i N f u B.size c d Q)) := T1; clear T1; obtain ⟨v4, V9, O9⟩ := S7.out.v4; have c9 := V9.cell 0 (by simp); obtain ⟨A9, n9, k9, rfl⟩ := O9.slice) | (go_at_call 27; refine (join_any _ _ _ O9.rd hq1.out (by have := LEN.out; omega) HM.out).mono ?_; rintro e wj ⟨rfl, hBj⟩; rw [hx.out]; have S8 := S7.out.grow hBj; obtain ⟨j0, j1, j2, j3, j4, j5, j6, j7⟩ := cellsCm S8.V1; obtain ⟨l0, l1, l2, l3, l4, l5, l6⟩ := cells7 S8.V3) | (fail))
    go_ret
    refine ⟨?_, S8.b⟩
    unfold showL lineK
    rw [← HW.out, hsb]
    exact congrArg (fun z => Ending.returned (.string z)) (by rw [← hx.out]; exact bs_inj0 (by rw [bs_app, bs_tx, bs_tx]; rfl))
  | true =>
    have hsb : sized (i : Int) = true := hsv.out
    go_wp2_with (first | (go_at_call 25; refine (S6.out.add _ _ (by have := LEN.out; omega)).mono ?_; rintro e wb ⟨rfl, T1⟩; have S7 : Hid (Si w wb b1 b3 b4 [.int .i64 (i : Int), .string N, .int .i64 (f : Int), .int .i64 (u : Int), .string B, .int .i64 (c : Int), .int .i64 (d : Int), .bool Q] [.bool (pN i), .bool (full i), .bool (pU i), .bool (sized i), .bool (pC i), .bool (stepV i), .bool (pQ i)] (Q7 i N f u B.size c d Q)) := T1; clear T1; obtain ⟨v4, V9, O9⟩ := S7.out.v4; have c9 := V9.cell 0 (by simp); obtain ⟨A9, n9, k9, rfl⟩ := O9.slice) | (go_at_call 27; refine (join_any _ _ _ O9.rd hq1.out (by have := LEN.out; omega) HM.out).mono ?_; rintro e wj ⟨rfl, hBj⟩; rw [hx.out]; have S8 := S7.out.grow hBj; obtain ⟨j0, j1, j2, j3, j4, j5, j6, j7⟩ := cellsCm S8.V1; obtain ⟨l0, l1, l2, l3, l4, l5, l6⟩ := cells7 S8.V3) | (fail))
    go_ret
    refine ⟨?_, S8.b⟩
    unfold showL lineK
    rw [← HW.out, hsb]
    exact congrArg (fun z => Ending.returned (.string z)) (by rw [← hx.out]; exact bs_inj0 (by rw [bs_app, bs_app, bs_app, bs_tx, bs_tx]; simp [bs]))
end Go.Proofs.YtpngnblfkijkhaaDoor.cm
