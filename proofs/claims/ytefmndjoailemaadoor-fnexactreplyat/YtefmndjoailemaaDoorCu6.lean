/- Contracts: how a command is shown, the model's. -/
import Derived.Test.YtefmndjoailemaaDoorCu3
import Derived.Test.YtefmndjoailemaaDoorCy2
import Derived.Test.YtefmndjoailemaaDoorCy3
import Derived.Deep.DeepCutAuto
import Derived.Deep.RegionHeld3
import Derived.BigQuiet
import Derived.Deep.CutBlock
namespace Go.Proofs.YtefmndjoailemaaDoor.cm
open Go.ChangeShapes Go.WideShapes Go.ChangeAt Go.RowKit
open Go.Deep Go.Joins
open Go.Proofs.YtefmndjoailemaaDoor.ce Go.Proofs.YtefmndjoailemaaDoor.ro Go.Proofs.YtefmndjoailemaaDoor.rg
set_option linter.unusedVariables false

/-- while words are gathered: the command in its variable, the words so far -/
structure Sh (w wr : World) (b1 : Nat) (cs : List Value) (v : Value) (ws : List ByteArray) : Prop where
  V1 : VBlk wr b1 43 cs
  o : Own encS wr w.heap.size wr.heap.size v ws
  b : Below w.heap.size w wr
theorem Sh.size {w wr : World} {b1 : Nat} {cs : List Value} {v : Value} {ws : List ByteArray} (h : Sh w wr b1 cs v ws) : w.heap.size ≤ wr.heap.size := h.b.size
theorem Sh.grow {w wr w' : World} {b1 : Nat} {cs : List Value} {v : Value} {ws : List ByteArray} (h : Sh w wr b1 cs v ws) (hb : Below wr.heap.size wr w') : Sh w w' b1 cs v ws :=
  ⟨vblk_grow h.V1 hb, (h.o.grow hb).top, h.b.trans (hb.mono h.b.size)⟩
theorem Sh.app {w wr w' : World} {b1 : Nat} {cs : List Value} {v v' : Value} {ws ws' : List ByteArray} (h : Sh w wr b1 cs v ws) (hT : Ty w.heap.size 9 wr w') (o' : Own encS w' w.heap.size w'.heap.size v' ws') : Sh w w' b1 cs v' ws' :=
  ⟨hT.vblk h.V1 (by decide), o', h.b.trans hT.low⟩
theorem own_new {α : Type} {E : Enc α} (w : World) (lo : Nat) (x : α) (cs : Array Value) (h : E.put x = cs.toList) (hlo : lo ≤ w.heap.size) : Own E (w.alloc (.cells cs E.t)) lo (w.alloc (.cells cs E.t)).heap.size (.slice (some ⟨w.heap.size, 0, none⟩) 1 1) [x] := by
  have hl := E.len x
  rw [h] at hl
  refine ⟨.inr ⟨w.heap.size, 1, cs, rfl, ⟨hlo, by simp⟩, by simpa using heap_alloc_new w (.cells cs E.t), Nat.le_refl _, by unfold maxLen; omega, by rw [Nat.one_mul]; simpa using hl, ?_⟩⟩
  rw [Enc.row_one', h, List.length_singleton, Nat.one_mul, List.take_of_length_le (by omega)]
def P0 (V : Int) : List ByteArray := [tx (vw V)]
def P1 (V : Int) (N : ByteArray) : List ByteArray := P0 V ++ (if V = 13 then [] else [N])
def P2 (V : Int) (N : ByteArray) (f u : Nat) : List ByteArray := P1 V N ++ (if full V then [tx (digs f), tx (digs u)] else [])
def P3 (V : Int) (N : ByteArray) (f u k d : Nat) : List ByteArray := P2 V N f u ++ (if sized V then [tx (digs k)] else if V = 11 then [tx (digs u)] else if stepV V then [tx (digs d)] else [])
def P4 (V : Int) (N : ByteArray) (f u k d c : Nat) : List ByteArray := P3 V N f u k d ++ (if V = 8 then [tx (digs c)] else [])
def P5 (V : Int) (N : ByteArray) (f u k d c : Nat) (Q : Bool) : List ByteArray := P4 V N f u k d c ++ (if Q then [tx quiet] else [])
theorem P5_words (V : Int) (N : ByteArray) (f u : Nat) (B : ByteArray) (c d : Nat) (Q : Bool) : (P5 V N f u B.size d c Q).map bs = wordsK ⟨V, N, f, u, B, c, d, Q⟩ B.size := by
  unfold P5 P4 P3 P2 P1 P0 wordsK numsK
  simp only [Int.toNat_natCast]
  by_cases h1 : V = 13 <;> by_cases h2 : V = 11 <;> by_cases h3 : V = 8 <;> cases full V <;> cases sized V <;> cases stepV V <;> cases Q <;> simp [h1, h2, h3, bs_tx]
theorem P_len (V : Int) (N : ByteArray) (f u k d c : Nat) (Q : Bool) : (P1 V N).length ≤ 10 ∧ (P2 V N f u).length ≤ 10 ∧ (P3 V N f u k d).length ≤ 10 ∧ (P4 V N f u k d c).length ≤ 10 ∧ (P5 V N f u k d c Q).length ≤ 10 := by
  have a1 : (P1 V N).length ≤ 2 := by unfold P1 P0; split <;> simp
  have a2 : (P2 V N f u).length ≤ (P1 V N).length + 2 := by unfold P2; split <;> simp
  have a3 : (P3 V N f u k d).length ≤ (P2 V N f u).length + 1 := by
    unfold P3
    split
    · simp
    · split
      · simp
      · split <;> simp
  have a4 : (P4 V N f u k d c).length ≤ (P3 V N f u k d).length + 1 := by unfold P4; split <;> simp
  have a5 : (P5 V N f u k d c Q).length ≤ (P4 V N f u k d c).length + 1 := by unfold P5; split <;> simp
  omega
theorem verbs_size : ∀ x ∈ verbs, x.length ≤ 10 := by decide
theorem dig_size {n : Nat} (h : n ≤ 1000000) : (tx (digs n)).size ≤ 10000 := by
  rw [tx_size]
  exact Nat.le_trans (digs_len 8 n (by omega)) (by omega)
theorem P_size (V : Int) (N : ByteArray) (f u k d c : Nat) (Q : Bool) (hN : N.size ≤ 12) (hf : f ≤ 1000000) (hu : u ≤ 1000000) (hk : k ≤ 64) (hd : d ≤ 1000000) (hc : c ≤ 1000000) (v0 : 1 ≤ V) (v1 : V ≤ 13) : ∀ x ∈ P5 V N f u k d c Q, x.size ≤ 10000 := by
  have hv : (tx (vw V)).size ≤ 10000 := by
    rw [tx_size]
    unfold vw
    have hi : (V - 1).toNat < verbs.length := by show (V - 1).toNat < 13; omega
    rw [List.getElem?_eq_getElem hi]
    exact Nat.le_trans (verbs_size _ (List.getElem_mem hi)) (by omega)
  have hq : (tx quiet).size ≤ 10000 := by decide
  have g1 := dig_size hf
  have g2 := dig_size hu
  have g3 := dig_size (n := k) (by omega)
  have g4 := dig_size hd
  have g5 := dig_size hc
  have o : ∀ (p : Prop) [Decidable p] (l m : List ByteArray), (∀ x ∈ l, x.size ≤ 10000) → (∀ x ∈ m, x.size ≤ 10000) → ∀ x ∈ (if p then l else m), x.size ≤ 10000 := fun p _ l m h1 h2 => by split <;> assumption
  have a : ∀ (l m : List ByteArray), (∀ x ∈ l, x.size ≤ 10000) → (∀ x ∈ m, x.size ≤ 10000) → ∀ x ∈ l ++ m, x.size ≤ 10000 := fun l m h1 h2 x hx => (List.mem_append.1 hx).elim (h1 x) (h2 x)
  have n0 : ∀ x ∈ ([] : List ByteArray), x.size ≤ 10000 := fun x hx => by simp at hx
  have s1 : ∀ y : ByteArray, y.size ≤ 10000 → ∀ x ∈ [y], x.size ≤ 10000 := fun y h x hx => by rw [List.mem_singleton.1 hx]; exact h
  unfold P5 P4 P3 P2 P1 P0
  refine a _ _ (a _ _ (a _ _ (a _ _ (a _ _ (s1 _ hv) (o _ _ _ n0 (s1 _ (by omega)))) (o _ _ _ ?_ n0)) (o _ _ _ (s1 _ g3) (o _ _ _ (s1 _ g2) (o _ _ _ (s1 _ g4) n0)))) (o _ _ _ (s1 _ g5) n0)) (o _ _ _ (s1 _ hq) n0)
  intro x hx
  simp only [List.mem_cons, List.not_mem_nil, or_false] at hx
  rcases hx with rfl | rfl
  · exact g1
  · exact g2

end Go.Proofs.YtefmndjoailemaaDoor.cm
