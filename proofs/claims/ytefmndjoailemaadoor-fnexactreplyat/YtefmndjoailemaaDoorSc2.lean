/- Contracts: how a command is shown, the program's, second part. -/
import Derived.Test.YtefmndjoailemaaDoorSc1
import Derived.Deep.DeepCutAuto
import Derived.Deep.RegionHeld3
import Derived.BigQuiet
namespace Go.Proofs.YtefmndjoailemaaDoor.cm
open Go.ChangeShapes Go.WideShapes Go.ChangeAt Go.RowKit
open Go.Deep Go.Joins
open Go.Proofs.YtefmndjoailemaaDoor.ce Go.Proofs.YtefmndjoailemaaDoor.ro Go.Proofs.YtefmndjoailemaaDoor.rg
set_option linter.unusedVariables false

theorem hs15 {p0 p1 p2 p3 p4 p5 p6 p7 q0 q1 q2 q3 q4 q5 q6 : Prop} (h : p0 ∧ p1 ∧ p2 ∧ p3 ∧ p4 ∧ p5 ∧ p6 ∧ p7) (k : q0 ∧ q1 ∧ q2 ∧ q3 ∧ q4 ∧ q5 ∧ q6) : p0 ∧ p1 ∧ p2 ∧ p3 ∧ p4 ∧ p5 ∧ p6 ∧ p7 ∧ q0 ∧ q1 ∧ q2 ∧ q3 ∧ q4 ∧ q5 ∧ q6 := by
  obtain ⟨h0, h1, h2, h3, h4, h5, h6, h7⟩ := h
  exact ⟨h0, h1, h2, h3, h4, h5, h6, h7, k⟩
/-- while words are added: the command, what is told of it, the words' variable -/
structure Si (w wr : World) (b1 b3 b4 : Nat) (cs ps : List Value) (ws : List ByteArray) : Prop where
  V1 : VBlk wr b1 43 cs
  V3 : VBlk wr b3 87 ps
  v4 : ∃ v, VBlk wr b4 53 [v] ∧ Own encS wr w.heap.size wr.heap.size v ws
  b : Below w.heap.size w wr
  n1 : b1 ≠ b4
  n3 : b3 ≠ b4
  lo : w.heap.size ≤ b4
theorem Si.size {w wr : World} {b1 b3 b4 : Nat} {cs ps : List Value} {ws : List ByteArray} (h : Si w wr b1 b3 b4 cs ps ws) : w.heap.size ≤ wr.heap.size := h.b.size
theorem Si.grow {w wr w' : World} {b1 b3 b4 : Nat} {cs ps : List Value} {ws : List ByteArray} (h : Si w wr b1 b3 b4 cs ps ws) (hb : Below wr.heap.size wr w') : Si w w' b1 b3 b4 cs ps ws := by
  obtain ⟨v, h1, h2⟩ := h.v4
  exact ⟨vblk_grow h.V1 hb, vblk_grow h.V3 hb, ⟨v, vblk_grow h1 hb, (h2.grow hb).top⟩, h.b.trans (hb.mono h.b.size), h.n1, h.n3, h.lo⟩
theorem Si.added {w wr w' : World} {b1 b3 b4 : Nat} {cs ps : List Value} {ws ws' : List ByteArray} (h : Si w wr b1 b3 b4 cs ps ws) (hA : Ad w.heap.size b4 wr w') (h4 : ∃ v, VBlk w' b4 53 [v] ∧ Own encS w' w.heap.size w'.heap.size v ws') : Si w w' b1 b3 b4 cs ps ws' :=
  ⟨hA.vblk h.V1 (by decide) h.n1, hA.vblk h.V3 (by decide) h.n3, h4, h.b.trans hA.low, h.n1, h.n3, h.lo⟩
def Q0 (V : Int) : List ByteArray := [tx (vw V)]
def Q1 (V : Int) (N : ByteArray) : List ByteArray := Q0 V ++ (if pN V then [N] else [])
def Q2 (V : Int) (N : ByteArray) (f : Nat) : List ByteArray := Q1 V N ++ (if full V then [tx (digs f)] else [])
def Q3 (V : Int) (N : ByteArray) (f u : Nat) : List ByteArray := Q2 V N f ++ (if pU V then [tx (digs u)] else [])
def Q4 (V : Int) (N : ByteArray) (f u k : Nat) : List ByteArray := Q3 V N f u ++ (if sized V then [tx (digs k)] else [])
def Q5 (V : Int) (N : ByteArray) (f u k c : Nat) : List ByteArray := Q4 V N f u k ++ (if pC V then [tx (digs c)] else [])
def Q6 (V : Int) (N : ByteArray) (f u k c d : Nat) : List ByteArray := Q5 V N f u k c ++ (if stepV V then [tx (digs d)] else [])
def Q7 (V : Int) (N : ByteArray) (f u k c d : Nat) (Q : Bool) : List ByteArray := Q6 V N f u k c d ++ (if Q then [tx quiet] else [])
theorem Q_len (V : Int) (N : ByteArray) (f u k c d : Nat) (Q : Bool) : (Q1 V N).length ≤ 10 ∧ (Q2 V N f).length ≤ 10 ∧ (Q3 V N f u).length ≤ 10 ∧ (Q4 V N f u k).length ≤ 10 ∧ (Q5 V N f u k c).length ≤ 10 ∧ (Q6 V N f u k c d).length ≤ 10 ∧ (Q7 V N f u k c d Q).length ≤ 10 := by
  have a0 : (Q0 V).length = 1 := rfl
  have a1 : (Q1 V N).length ≤ (Q0 V).length + 1 := by unfold Q1; split <;> simp
  have a2 : (Q2 V N f).length ≤ (Q1 V N).length + 1 := by unfold Q2; split <;> simp
  have a3 : (Q3 V N f u).length ≤ (Q2 V N f).length + 1 := by unfold Q3; split <;> simp
  have a4 : (Q4 V N f u k).length ≤ (Q3 V N f u).length + 1 := by unfold Q4; split <;> simp
  have a5 : (Q5 V N f u k c).length ≤ (Q4 V N f u k).length + 1 := by unfold Q5; split <;> simp
  have a6 : (Q6 V N f u k c d).length ≤ (Q5 V N f u k c).length + 1 := by unfold Q6; split <;> simp
  have a7 : (Q7 V N f u k c d Q).length ≤ (Q6 V N f u k c d).length + 1 := by unfold Q7; split <;> simp
  omega
theorem Q7_words {V : Int} (h0 : 1 ≤ V) (h1 : V ≤ 13) (N : ByteArray) (f u : Nat) (B : ByteArray) (c d : Nat) (Q : Bool) (hs : sized V = false → B.size = 0) : (Q7 V N f u B.size c d Q).map bs = wordsK ⟨V, N, f, u, B, c, d, Q⟩ B.size := by
  have key := words_key h0 h1 (bs N) f u B.size c d (if Q then [quiet] else []) hs
  have m : ∀ (b : Bool) (x : List UInt8), (if b then [tx x] else []).map bs = if b then [x] else [] := fun b x => by cases b <;> simp [bs_tx]
  have m2 : (if pN V then [N] else []).map bs = if pN V then [bs N] else [] := by cases pN V <;> rfl
  unfold Q7 Q6 Q5 Q4 Q3 Q2 Q1 Q0 wordsK numsK
  simp only [List.map_append, m, m2, List.map_cons, List.map_nil, bs_tx, List.append_assoc, Int.toNat_natCast]
  simp only [List.append_assoc] at key
  rw [key]
  simp
theorem Q_size (V : Int) (N : ByteArray) (f u k c d : Nat) (Q : Bool) (hN : N.size ≤ 12) (hf : f ≤ 1000000) (hu : u ≤ 1000000) (hk : k ≤ 64) (hd : d ≤ 1000000) (hc : c ≤ 1000000) (v0 : 1 ≤ V) (v1 : V ≤ 13) : ∀ x ∈ Q7 V N f u k c d Q, x.size ≤ 10000 := by
  have hv : (tx (vw V)).size ≤ 10000 := by
    rw [tx_size]
    unfold vw
    have hi : (V - 1).toNat < verbs.length := by show (V - 1).toNat < 13; omega
    rw [List.getElem?_eq_getElem hi]
    exact Nat.le_trans (verbs_size _ (List.getElem_mem hi)) (by omega)
  have hq : (tx quiet).size ≤ 10000 := by decide
  have o : ∀ (p : Prop) [Decidable p] (l m : List ByteArray), (∀ x ∈ l, x.size ≤ 10000) → (∀ x ∈ m, x.size ≤ 10000) → ∀ x ∈ (if p then l else m), x.size ≤ 10000 := fun p _ l m h1 h2 => by split <;> assumption
  have a : ∀ (l m : List ByteArray), (∀ x ∈ l, x.size ≤ 10000) → (∀ x ∈ m, x.size ≤ 10000) → ∀ x ∈ l ++ m, x.size ≤ 10000 := fun l m h1 h2 x hx => (List.mem_append.1 hx).elim (h1 x) (h2 x)
  have n0 : ∀ x ∈ ([] : List ByteArray), x.size ≤ 10000 := fun x hx => by simp at hx
  have s1 : ∀ y : ByteArray, y.size ≤ 10000 → ∀ x ∈ [y], x.size ≤ 10000 := fun y h x hx => by rw [List.mem_singleton.1 hx]; exact h
  unfold Q7 Q6 Q5 Q4 Q3 Q2 Q1 Q0
  exact a _ _ (a _ _ (a _ _ (a _ _ (a _ _ (a _ _ (a _ _ (s1 _ hv) (o _ _ _ (s1 _ (by omega)) n0)) (o _ _ _ (s1 _ (dig_size hf)) n0)) (o _ _ _ (s1 _ (dig_size hu)) n0)) (o _ _ _ (s1 _ (dig_size (by omega))) n0)) (o _ _ _ (s1 _ (dig_size hc)) n0)) (o _ _ _ (s1 _ (dig_size hd)) n0)) (o _ _ _ (s1 _ hq) n0)
theorem join_any (ws : List ByteArray) (v : Value) (w : World) (r : Rd encS w v ws) (h1 : 1 ≤ ws.length) (hl : ws.length ≤ 100) (hm : ∀ x ∈ ws, x.size ≤ 10000) :
    Calls Tryd.prog 63 #[v, .string ⟨#[32]⟩] w fun e w' => e = .returned (.string (tx (wordsL (ws.map bs)))) ∧ Below w.heap.size w w' := by
  obtain ⟨a, cap, rfl⟩ := r.form
  obtain ⟨b, off, rfl, hb, hr⟩ := r.start h1
  have e : Lib.join (ws.map (·.data.toList)) (⟨#[32]⟩ : ByteArray).data.toList = wordsL (ws.map bs) := join_words (ws.map bs)
  have hlen : (wordsL (ws.map bs)).length ≤ 140737488355328 := by
    have h2 := wordsL_len (ws.map bs) 10000 (fun y hy => by
      obtain ⟨z, hz, rfl⟩ := List.mem_map.1 hy
      rw [bs_len]
      exact hm z hz)
    rw [List.length_map] at h2
    have : ws.length * (10000 + 1) ≤ 100 * 10001 := Nat.mul_le_mul_right _ hl
    omega
  have hc := r.cap
  have := Tryd.strings_Join b off cap ws ⟨#[32]⟩ w (fun j x hj => by
    have hjl := (List.getElem?_eq_some_iff.1 hj).1
    obtain ⟨b', off', e', -, hcell⟩ := rdS_cell r j hjl
    cases e'
    rw [hcell, (List.getElem?_eq_some_iff.1 hj).2]) hb (by omega) hc.2.1 (by rw [e]; exact hlen)
  rw [e] at this
  exact this
end Go.Proofs.YtefmndjoailemaaDoor.cm
