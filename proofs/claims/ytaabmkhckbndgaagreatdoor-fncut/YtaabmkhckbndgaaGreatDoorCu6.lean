/- Contracts: how a command is shown, the model's. -/
import Derived.Test.YtaabmkhckbndgaaGreatDoorCu3
import Derived.Test.YtaabmkhckbndgaaGreatDoorMg08
import Derived.Deep.DeepCutAuto
import Derived.Deep.RegionHeld3
import Derived.BigQuiet
import Derived.Deep.CutBlock
namespace Go.Proofs.YtaabmkhckbndgaaGreatDoor.cm
open Go.ChangeShapes Go.WideShapes Go.ChangeAt Go.RowKit
open Go.Deep Go.Joins
open Go.Proofs.YtaabmkhckbndgaaGreatDoor.ce Go.Proofs.YtaabmkhckbndgaaGreatDoor.ro Go.Proofs.YtaabmkhckbndgaaGreatDoor.rg
set_option linter.unusedVariables false

/-- while words are gathered: the command in its variable, the words so far -/
structure Sh (w wr : World) (b1 : Nat) (cs : List Value) (v : Value) (ws : List ByteArray) : Prop where
  V1 : VBlk wr b1 25 cs
  o : Own encS wr w.heap.size wr.heap.size v ws
  b : Below w.heap.size w wr
theorem Sh.size {w wr : World} {b1 : Nat} {cs : List Value} {v : Value} {ws : List ByteArray} (h : Sh w wr b1 cs v ws) : w.heap.size ≤ wr.heap.size := h.b.size
theorem Sh.grow {w wr w' : World} {b1 : Nat} {cs : List Value} {v : Value} {ws : List ByteArray} (h : Sh w wr b1 cs v ws) (hb : Below wr.heap.size wr w') : Sh w w' b1 cs v ws :=
  ⟨vblk_grow h.V1 hb, (h.o.grow hb).top, h.b.trans (hb.mono h.b.size)⟩
theorem Sh.app {w wr w' : World} {b1 : Nat} {cs : List Value} {v v' : Value} {ws ws' : List ByteArray} (h : Sh w wr b1 cs v ws) (hT : Ty w.heap.size 9 wr w') (o' : Own encS w' w.heap.size w'.heap.size v' ws') : Sh w w' b1 cs v' ws' :=
  ⟨hT.vblk h.V1 (by decide), o', h.b.trans hT.low⟩
theorem own_new {α : Type} {E : Enc α} (w : World) (lo : Nat) (x : α) (cs : Array Value) (h : E.put x = cs.toList) (hlo : lo ≤ w.heap.size) : Own E (w.alloc (.cells cs E.t)) lo (w.alloc (.cells cs E.t)).heap.size (.slice (some ⟨w.heap.size, 0, none⟩) 1 1) [x] := by
  have hl := E.len x
  rw [h] at hl
  refine ⟨.inr ⟨w.heap.size, 1, cs, rfl, ⟨hlo, by simp⟩, by simpa using heap_alloc_new w (.cells cs E.t), Nat.le_refl _, by unfold maxLen; omega, by rw [Nat.one_mul]; simpa using hl, ?_⟩⟩
  rw [Enc.row_one', h, List.length_singleton, Nat.one_mul, List.take_of_length_le (by omega)]
def P0 (V : Int) : List ByteArray := [tx (vw V)]
def P1 (V : Int) (N : ByteArray) : List ByteArray := P0 V ++ (if V = 13 then [] else [N])
def P2 (V : Int) (N : ByteArray) (f u : Nat) : List ByteArray := P1 V N ++ (if full V then [tx (digs f), tx (digs u)] else [])
def P3 (V : Int) (N : ByteArray) (f u k d : Nat) : List ByteArray := P2 V N f u ++ (if sized V then [tx (digs k)] else if V = 11 then [tx (digs u)] else if stepV V then [tx (digs d)] else [])
def P4 (V : Int) (N : ByteArray) (f u k d c : Nat) : List ByteArray := P3 V N f u k d ++ (if V = 8 then [tx (digs c)] else [])
def P5 (V : Int) (N : ByteArray) (f u k d c : Nat) (Q : Bool) : List ByteArray := P4 V N f u k d c ++ (if Q then [tx quiet] else [])
theorem P5_words (V : Int) (N : ByteArray) (f u : Nat) (B : ByteArray) (c d : Nat) (Q : Bool) : (P5 V N f u B.size d c Q).map bs = wordsK ⟨V, N, f, u, B, c, d, Q⟩ B.size := by
  unfold P5 P4 P3 P2 P1 P0 wordsK numsK
  simp only [Int.toNat_natCast]
  by_cases h1 : V = 13 <;> by_cases h2 : V = 11 <;> by_cases h3 : V = 8 <;> cases full V <;> cases sized V <;> cases stepV V <;> cases Q <;> simp [h1, h2, h3, bs_tx]
theorem P_len (V : Int) (N : ByteArray) (f u k d c : Nat) (Q : Bool) : (P1 V N).length ≤ 10 ∧ (P2 V N f u).length ≤ 10 ∧ (P3 V N f u k d).length ≤ 10 ∧ (P4 V N f u k d c).length ≤ 10 ∧ (P5 V N f u k d c Q).length ≤ 10 := by
  have a1 : (P1 V N).length ≤ 2 := by unfold P1 P0; split <;> simp
  have a2 : (P2 V N f u).length ≤ (P1 V N).length + 2 := by unfold P2; split <;> simp
  have a3 : (P3 V N f u k d).length ≤ (P2 V N f u).length + 1 := by
    unfold P3
    split
    · simp
    · split
      · simp
      · split <;> simp
  have a4 : (P4 V N f u k d c).length ≤ (P3 V N f u k d).length + 1 := by unfold P4; split <;> simp
  have a5 : (P5 V N f u k d c Q).length ≤ (P4 V N f u k d c).length + 1 := by unfold P5; split <;> simp
  omega
theorem verbs_size : ∀ x ∈ verbs, x.length ≤ 10 := by decide
theorem dig_size {n : Nat} (h : n ≤ 1000000) : (tx (digs n)).size ≤ 10000 := by
  rw [tx_size]
  exact Nat.le_trans (digs_len 8 n (by omega)) (by omega)
theorem P_size (V : Int) (N : ByteArray) (f u k d c : Nat) (Q : Bool) (hN : N.size ≤ 12) (hf : f ≤ 1000000) (hu : u ≤ 1000000) (hk : k ≤ 64) (hd : d ≤ 1000000) (hc : c ≤ 1000000) (v0 : 1 ≤ V) (v1 : V ≤ 13) : ∀ x ∈ P5 V N f u k d c Q, x.size ≤ 10000 := by
  have hv : (tx (vw V)).size ≤ 10000 := by
    rw [tx_size]
    unfold vw
    have hi : (V - 1).toNat < verbs.length := by show (V - 1).toNat < 13; omega
    rw [List.getElem?_eq_getElem hi]
    exact Nat.le_trans (verbs_size _ (List.getElem_mem hi)) (by omega)
  have hq : (tx quiet).size ≤ 10000 := by decide
  have g1 := dig_size hf
  have g2 := dig_size hu
  have g3 := dig_size (n := k) (by omega)
  have g4 := dig_size hd
  have g5 := dig_size hc
  have o : ∀ (p : Prop) [Decidable p] (l m : List ByteArray), (∀ x ∈ l, x.size ≤ 10000) → (∀ x ∈ m, x.size ≤ 10000) → ∀ x ∈ (if p then l else m), x.size ≤ 10000 := fun p _ l m h1 h2 => by split <;> assumption
  have a : ∀ (l m : List ByteArray), (∀ x ∈ l, x.size ≤ 10000) → (∀ x ∈ m, x.size ≤ 10000) → ∀ x ∈ l ++ m, x.size ≤ 10000 := fun l m h1 h2 x hx => (List.mem_append.1 hx).elim (h1 x) (h2 x)
  have n0 : ∀ x ∈ ([] : List ByteArray), x.size ≤ 10000 := fun x hx => by simp at hx
  have s1 : ∀ y : ByteArray, y.size ≤ 10000 → ∀ x ∈ [y], x.size ≤ 10000 := fun y h x hx => by rw [List.mem_singleton.1 hx]; exact h
  unfold P5 P4 P3 P2 P1 P0
  refine a _ _ (a _ _ (a _ _ (a _ _ (a _ _ (s1 _ hv) (o _ _ _ n0 (s1 _ (by omega)))) (o _ _ _ ?_ n0)) (o _ _ _ (s1 _ g3) (o _ _ _ (s1 _ g2) (o _ _ _ (s1 _ g4) n0)))) (o _ _ _ (s1 _ g5) n0)) (o _ _ _ (s1 _ hq) n0)
  intro x hx
  simp only [List.mem_cons, List.not_mem_nil, or_false] at hx
  rcases hx with rfl | rfl
  · exact g1
  · exact g2

set_option maxRecDepth 100000 in
set_option maxHeartbeats 2000000 in
theorem l11Show_any (V : Int) (N : ByteArray) (f u : Nat) (B : ByteArray) (c d : Nat) (Q : Bool) (v0 : 1 ≤ V) (v1 : V ≤ 13) (hN : N.size ≤ 12) (hf : f ≤ 1000000) (hu : u ≤ 1000000) (hBs : B.size ≤ 64) (hc : c ≤ 1000000) (hd : d ≤ 1000000) (w : World) :
    Calls Tryz.prog 70 #[.agg #[.int .i64 V, .string N, .int .i64 (f : Int), .int .i64 (u : Int), .string B, .int .i64 (c : Int), .int .i64 (d : Int), .bool Q]] w fun e w' => e = .returned (.string (tx (showL ⟨V, N, f, u, B, c, d, Q⟩))) ∧ Below w.heap.size w w' := by
  have LEN : Hid ((P1 V N).length ≤ 10 ∧ (P2 V N f u).length ≤ 10 ∧ (P3 V N f u B.size d).length ≤ 10 ∧ (P4 V N f u B.size d c).length ≤ 10 ∧ (P5 V N f u B.size d c Q).length ≤ 10) := P_len V N f u B.size d c Q
  obtain ⟨i, hi⟩ : ∃ i : Nat, V = i + 1 := ⟨(V - 1).toNat, by omega⟩
  have hi13 : i < vtx.length := by show i < 13; omega
  have ei : IntKind.i64.wrap (V - 1) = (i : Int) := by rw [IntKind.wrap_i64]; omega
  have HV : Hid (vtx[i] = tx (vw V)) := by
    unfold Hid vw
    have : (V - 1).toNat = i := by omega
    rw [this, List.getElem?_eq_getElem (show i < verbs.length from hi13)]
    simp [vtx]
  have HI : Hid (V = i + 1) := hi
  have hi13' : (i : Int) < 13 := by omega
  clear hi
  go_enter Tryz.func70, Tryz.ntmps70
  go_upto_region 1 with (first | (refine wpList_box_v rfl 25 _ rfl [.int .i64 V, .string N, .int .i64 (f : Int), .int .i64 (u : Int), .string B, .int .i64 (c : Int), .int .i64 (d : Int), .bool Q] rfl ?_; intro b1 w1 hb1 hw1 hB1 V1; obtain ⟨c0, c1, c2, c3, c4, c5, c6, c7⟩ := cellsCm V1) | (fail))
  go_cut [3] from 5 to 11 (fun v3 wc => ∃ A n k, v3 = .slice A n k ∧ Hid (Sh w wc b1 [.int .i64 V, .string N, .int .i64 (f : Int), .int .i64 (u : Int), .string B, .int .i64 (c : Int), .int .i64 (d : Int), .bool Q] (.slice A n k) (P0 V)))
  case first =>
    have hz1 := hB1.size
    go_region_with (first | (go_at_call 67; refine (l11Words_any _).mono ?_; rintro e w2 ⟨x2, rfl, R2, hB2⟩; have V2 := vblk_grow V1.drew hB2; obtain ⟨q0, q1, q2, q3, q4, q5, q6, q7⟩ := cellsCm V2; have hz2 : w1.heap.size ≤ w2.heap.size := hB2.size; obtain ⟨a2, k2, rfl⟩ := R2.form; obtain ⟨g2, o2, rfl, hg2, dd⟩ := rdS_cell R2 i hi13; rw [HV.out] at dd; have hvl : vtx.length = 13 := rfl) | (fail))
    all_goals
      go_wp2
      (try simp only [Act.put])
      go_meet
      case rel => exact ⟨_, _, _, rfl, ⟨vblk_grow V2 (bAl _ _), own_new (E := encS) w2 w.heap.size (tx (vw V)) #[.string (tx (vw V))] rfl (by omega), (hB1.drew.trans (hB2.mono hz1)).trans ((bAl w2 _).mono (by omega))⟩⟩
  case rest =>
  obtain ⟨A, n, k, rfl, SH⟩ := hcut
  clear c0 c1 c2 c3 c4 c5 c6 c7 V1
  obtain ⟨c0, c1, c2, c3, c4, c5, c6, c7⟩ := cellsCm SH.out.V1
  go_upto_if 14 with (fail)
  go_cut [3] from 14 to 19 (fun v3 wc => ∃ A n k, v3 = .slice A n k ∧ Hid (Sh w wc b1 [.int .i64 V, .string N, .int .i64 (f : Int), .int .i64 (u : Int), .string B, .int .i64 (c : Int), .int .i64 (d : Int), .bool Q] (.slice A n k) (P1 V N)))
  case first =>
    by_cases h13 : V = 13
    · have e13 : (V != 13) = false := by simp [h13]
      have hP : Hid (P1 V N = P0 V) := by unfold Hid P1; rw [if_pos h13, List.append_nil]
      clear h13
      go_wp2
      go_meet
      case rel => exact ⟨A, n, k, rfl, by unfold Hid; rw [hP.out]; exact SH.out⟩
    · have e13 : (V != 13) = true := by simp [h13]
      have hP : Hid (P1 V N = P0 V ++ [N]) := by unfold Hid P1; rw [if_neg h13]
      have hl0 : (P0 V).length = 1 := rfl
      clear h13
      go_wp2_with (first | (at_builtin; refine wpList_append_g infoS rfl _ _ 69 rfl Tryz.underlying69 w.heap.size _ _ (P0 V) rfl (SH.out.grow (bAl _ _)).o (by have := (SH.out).size; simp; omega) _ [N] rfl (rd_lit (E := encS) _ [N] 1 _ rfl (by omega) rfl) (by have := LEN.out; simp; omega) ?_; intro v7 w7 o7 hT7; have SH7 := (SH.out.grow (bAl _ _)).app hT7 o7; obtain ⟨A7, n7, c7, rfl⟩ := o7.slice) | (fail))
      go_meet
      case rel => exact ⟨A7, n7, c7, rfl, by unfold Hid; rw [hP.out]; exact SH7⟩
  case rest =>
  obtain ⟨A2, n2, k2, rfl, SH2⟩ := hcut
  clear c0 c1 c2 c3 c4 c5 c6 c7 SH
  have SH := SH2
  clear SH2
  obtain ⟨c0, c1, c2, c3, c4, c5, c6, c7⟩ := cellsCm SH.out.V1
  obtain ⟨fv, hfv⟩ := hid_ex (full V)
  go_upto_if 22 with (first | (go_at_call 74; refine (l11Full_is V _ hfv.out _).mono ?_; rintro e wq ⟨rfl, hq⟩; subst wq) | (fail))
  go_cut [3] from 22 to 31 (fun v3 wc => ∃ A n k, v3 = .slice A n k ∧ Hid (Sh w wc b1 [.int .i64 V, .string N, .int .i64 (f : Int), .int .i64 (u : Int), .string B, .int .i64 (c : Int), .int .i64 (d : Int), .bool Q] (.slice A n k) (P2 V N f u)))
  case first =>
    cases fv with
    | false =>
      have hP : Hid (P2 V N f u = P1 V N) := by unfold Hid P2; rw [hfv.out]; simp
      go_wp2
      go_meet
      case rel => exact ⟨A2, n2, k2, rfl, by unfold Hid; rw [hP.out]; exact SH.out⟩
    | true =>
      have hP : Hid (P2 V N f u = P1 V N ++ [tx (digs f), tx (digs u)]) := by unfold Hid P2; rw [hfv.out]; rfl
      go_upto_region 5 with (fail)
      obtain ⟨xf, hxf⟩ := hid_ex (tx (digs f))
      obtain ⟨xu, hxu⟩ := hid_ex (tx (digs u))
      rw [hxf.out, hxu.out] at hP
      have m5 : Hid True := trivial
      have S1 : wc.drew.cell? ⟨b1, 0, none⟩ = some (.int .i64 V) ∧ wc.drew.cell? ⟨b1, 1, none⟩ = some (.string N) ∧ wc.drew.cell? ⟨b1, 2, none⟩ = some (.int .i64 (f : Int)) ∧ wc.drew.cell? ⟨b1, 3, none⟩ = some (.int .i64 (u : Int)) ∧ wc.drew.cell? ⟨b1, 4, none⟩ = some (.string B) ∧ wc.drew.cell? ⟨b1, 5, none⟩ = some (.int .i64 (c : Int)) ∧ wc.drew.cell? ⟨b1, 6, none⟩ = some (.int .i64 (d : Int)) ∧ wc.drew.cell? ⟨b1, 7, none⟩ = some (.bool Q) := ⟨c0, c1, c2, c3, c4, c5, c6, c7⟩
      have SHd : Hid (Sh w _ b1 [.int .i64 V, .string N, .int .i64 (f : Int), .int .i64 (u : Int), .string B, .int .i64 (c : Int), .int .i64 (d : Int), .bool Q] (.slice A2 n2 k2) (P1 V N)) := SH.out.grow (Below.refl _ _).drew
      go_region_held3 (fun w' => w'.cell? ⟨b1, 0, none⟩ = some (.int .i64 V) ∧ w'.cell? ⟨b1, 1, none⟩ = some (.string N) ∧ w'.cell? ⟨b1, 2, none⟩ = some (.int .i64 (f : Int)) ∧ w'.cell? ⟨b1, 3, none⟩ = some (.int .i64 (u : Int)) ∧ w'.cell? ⟨b1, 4, none⟩ = some (.string B) ∧ w'.cell? ⟨b1, 5, none⟩ = some (.int .i64 (c : Int)) ∧ w'.cell? ⟨b1, 6, none⟩ = some (.int .i64 (d : Int)) ∧ w'.cell? ⟨b1, 7, none⟩ = some (.bool Q)) (first | with_reducible assumption | with_reducible exact S1 | (fail)) (first | (clear m5; go_at_call 120; refine (l1Int_is f (by omega) _).mono ?_; rintro e w4 ⟨rfl, hB4⟩; have SH4 := SHd.out.grow hB4; have S4 : w4.cell? ⟨b1, 0, none⟩ = some (.int .i64 V) ∧ w4.cell? ⟨b1, 1, none⟩ = some (.string N) ∧ w4.cell? ⟨b1, 2, none⟩ = some (.int .i64 (f : Int)) ∧ w4.cell? ⟨b1, 3, none⟩ = some (.int .i64 (u : Int)) ∧ w4.cell? ⟨b1, 4, none⟩ = some (.string B) ∧ w4.cell? ⟨b1, 5, none⟩ = some (.int .i64 (c : Int)) ∧ w4.cell? ⟨b1, 6, none⟩ = some (.int .i64 (d : Int)) ∧ w4.cell? ⟨b1, 7, none⟩ = some (.bool Q) := cellsCm SH4.V1; rw [hxf.out]) | (go_at_call 120; refine (l1Int_is u (by omega) _).mono ?_; rintro e w5 ⟨rfl, hB5⟩; have SH5 := SH4.grow hB5; have S5 : w5.cell? ⟨b1, 0, none⟩ = some (.int .i64 V) ∧ w5.cell? ⟨b1, 1, none⟩ = some (.string N) ∧ w5.cell? ⟨b1, 2, none⟩ = some (.int .i64 (f : Int)) ∧ w5.cell? ⟨b1, 3, none⟩ = some (.int .i64 (u : Int)) ∧ w5.cell? ⟨b1, 4, none⟩ = some (.string B) ∧ w5.cell? ⟨b1, 5, none⟩ = some (.int .i64 (c : Int)) ∧ w5.cell? ⟨b1, 6, none⟩ = some (.int .i64 (d : Int)) ∧ w5.cell? ⟨b1, 7, none⟩ = some (.bool Q) := cellsCm SH5.V1; rw [hxu.out]; have SH6 := SH5.grow (bAl w5 (.cells #[.string xf, .string xu] 9)); have S6 : (w5.alloc (.cells #[.string xf, .string xu] 9)).cell? ⟨b1, 0, none⟩ = some (.int .i64 V) ∧ (w5.alloc (.cells #[.string xf, .string xu] 9)).cell? ⟨b1, 1, none⟩ = some (.string N) ∧ (w5.alloc (.cells #[.string xf, .string xu] 9)).cell? ⟨b1, 2, none⟩ = some (.int .i64 (f : Int)) ∧ (w5.alloc (.cells #[.string xf, .string xu] 9)).cell? ⟨b1, 3, none⟩ = some (.int .i64 (u : Int)) ∧ (w5.alloc (.cells #[.string xf, .string xu] 9)).cell? ⟨b1, 4, none⟩ = some (.string B) ∧ (w5.alloc (.cells #[.string xf, .string xu] 9)).cell? ⟨b1, 5, none⟩ = some (.int .i64 (c : Int)) ∧ (w5.alloc (.cells #[.string xf, .string xu] 9)).cell? ⟨b1, 6, none⟩ = some (.int .i64 (d : Int)) ∧ (w5.alloc (.cells #[.string xf, .string xu] 9)).cell? ⟨b1, 7, none⟩ = some (.bool Q) := cellsCm SH6.V1) | (refine step_append_g infoS rfl _ _ 69 rfl Tryz.underlying69 w.heap.size _ _ (P1 V N) rfl SH6.o (by have := SH6.size; omega) _ [xf, xu] rfl (rd_lit (E := encS) w5 [xf, xu] 2 _ rfl (by omega) rfl) (by have := LEN.out; simp; omega) ?_; intro v7 w7 o7 hT7; have SH7 := SH6.app hT7 o7; have S7 : w7.cell? ⟨b1, 0, none⟩ = some (.int .i64 V) ∧ w7.cell? ⟨b1, 1, none⟩ = some (.string N) ∧ w7.cell? ⟨b1, 2, none⟩ = some (.int .i64 (f : Int)) ∧ w7.cell? ⟨b1, 3, none⟩ = some (.int .i64 (u : Int)) ∧ w7.cell? ⟨b1, 4, none⟩ = some (.string B) ∧ w7.cell? ⟨b1, 5, none⟩ = some (.int .i64 (c : Int)) ∧ w7.cell? ⟨b1, 6, none⟩ = some (.int .i64 (d : Int)) ∧ w7.cell? ⟨b1, 7, none⟩ = some (.bool Q) := cellsCm SH7.V1; obtain ⟨A7, n7, c7, rfl⟩ := o7.slice) | (fail))
      go_wp2
      go_meet
      case rel => exact ⟨A7, n7, c7, rfl, by unfold Hid; rw [hP.out]; exact SH7⟩
  case rest =>
  obtain ⟨A3, n3, k3, rfl, SH3⟩ := hcut
  clear c0 c1 c2 c3 c4 c5 c6 c7 SH
  have SH := SH3
  clear SH3
  obtain ⟨c0, c1, c2, c3, c4, c5, c6, c7⟩ := cellsCm SH.out.V1
  obtain ⟨sv, hsv⟩ := hid_ex (sized V)
  go_upto_block 0 with (fail)
  go_cut [3] from 32 to 67 (fun v3 wc => ∃ A n k, v3 = .slice A n k ∧ Hid (Sh w wc b1 [.int .i64 V, .string N, .int .i64 (f : Int), .int .i64 (u : Int), .string B, .int .i64 (c : Int), .int .i64 (d : Int), .bool Q] (.slice A n k) (P3 V N f u B.size d)))
  case first =>
    cases sv with
    | true =>
      have hP : Hid (P3 V N f u B.size d = P2 V N f u ++ [tx (digs B.size)]) := by unfold Hid P3; rw [hsv.out]; rfl
      obtain ⟨xf, hxf⟩ := hid_ex (tx (digs B.size))
      rw [hxf.out] at hP
      go_wp2_with (first | (go_at_call 69; refine (l11Sized_is V _ hsv.out _).mono ?_; rintro e wq ⟨rfl, hq⟩; subst wq) | (go_at_call 120; refine (l1Int_is B.size (by omega) _).mono ?_; rintro e w4 ⟨rfl, hB4⟩; have SH4 := SH.out.grow hB4; rw [hxf.out]) | (at_builtin; refine wpList_append_g infoS rfl _ _ 69 rfl Tryz.underlying69 w.heap.size _ _ (P2 V N f u) rfl (SH4.grow (bAl _ _)).o (by have := (SH4).size; simp; omega) _ [xf] rfl (rd_lit (E := encS) _ [xf] 1 _ rfl (by omega) rfl) (by have := LEN.out; simp; omega) ?_; intro v7 w7 o7 hT7; have SH7 := (SH4.grow (bAl _ _)).app hT7 o7; obtain ⟨A7, n7, c7, rfl⟩ := o7.slice) | (fail))
      go_meet
      case rel => exact ⟨A7, n7, c7, rfl, by unfold Hid; rw [hP.out]; exact SH7⟩
    | false =>
      by_cases h11 : V = 11
      · have e11 : (V == 11) = true := by simp [h11]
        have hP : Hid (P3 V N f u B.size d = P2 V N f u ++ [tx (digs u)]) := by unfold Hid P3; rw [hsv.out, if_neg (by decide), if_pos h11]
        obtain ⟨xf, hxf⟩ := hid_ex (tx (digs u))
        rw [hxf.out] at hP
        clear h11
        go_wp2_with (first | (go_at_call 69; refine (l11Sized_is V _ hsv.out _).mono ?_; rintro e wq ⟨rfl, hq⟩; subst wq) | (go_at_call 120; refine (l1Int_is u (by omega) _).mono ?_; rintro e w4 ⟨rfl, hB4⟩; have SH4 := SH.out.grow hB4; rw [hxf.out]) | (at_builtin; refine wpList_append_g infoS rfl _ _ 69 rfl Tryz.underlying69 w.heap.size _ _ (P2 V N f u) rfl (SH4.grow (bAl _ _)).o (by have := (SH4).size; simp; omega) _ [xf] rfl (rd_lit (E := encS) _ [xf] 1 _ rfl (by omega) rfl) (by have := LEN.out; simp; omega) ?_; intro v7 w7 o7 hT7; have SH7 := (SH4.grow (bAl _ _)).app hT7 o7; obtain ⟨A7, n7, c7, rfl⟩ := o7.slice) | (fail))
        go_meet
        case rel => exact ⟨A7, n7, c7, rfl, by unfold Hid; rw [hP.out]; exact SH7⟩
      · have e11 : (V == 11) = false := by simp [h11]
        by_cases h9 : V = 9
        · have e9 : (V == 9) = true := by simp [h9]
          have hP : Hid (P3 V N f u B.size d = P2 V N f u ++ [tx (digs d)]) := by unfold Hid P3; rw [hsv.out, if_neg (by decide), if_neg h11, h9]; rfl
          obtain ⟨xf, hxf⟩ := hid_ex (tx (digs d))
          rw [hxf.out] at hP
          clear h11 h9
          go_wp2_with (first | (go_at_call 69; refine (l11Sized_is V _ hsv.out _).mono ?_; rintro e wq ⟨rfl, hq⟩; subst wq) | (go_at_call 120; refine (l1Int_is d (by omega) _).mono ?_; rintro e w4 ⟨rfl, hB4⟩; have SH4 := SH.out.grow hB4; rw [hxf.out]) | (at_builtin; refine wpList_append_g infoS rfl _ _ 69 rfl Tryz.underlying69 w.heap.size _ _ (P2 V N f u) rfl (SH4.grow (bAl _ _)).o (by have := (SH4).size; simp; omega) _ [xf] rfl (rd_lit (E := encS) _ [xf] 1 _ rfl (by omega) rfl) (by have := LEN.out; simp; omega) ?_; intro v7 w7 o7 hT7; have SH7 := (SH4.grow (bAl _ _)).app hT7 o7; obtain ⟨A7, n7, c7, rfl⟩ := o7.slice) | (fail))
          go_meet
          case rel => exact ⟨A7, n7, c7, rfl, by unfold Hid; rw [hP.out]; exact SH7⟩
        · have e9 : (V == 9) = false := by simp [h9]
          by_cases h10 : V = 10
          · have e10 : (V == 10) = true := by simp [h10]
            have hP : Hid (P3 V N f u B.size d = P2 V N f u ++ [tx (digs d)]) := by unfold Hid P3; rw [hsv.out, if_neg (by decide), if_neg h11, h10]; rfl
            obtain ⟨xf, hxf⟩ := hid_ex (tx (digs d))
            rw [hxf.out] at hP
            clear h11 h9 h10
            go_wp2_with (first | (go_at_call 69; refine (l11Sized_is V _ hsv.out _).mono ?_; rintro e wq ⟨rfl, hq⟩; subst wq) | (go_at_call 120; refine (l1Int_is d (by omega) _).mono ?_; rintro e w4 ⟨rfl, hB4⟩; have SH4 := SH.out.grow hB4; rw [hxf.out]) | (at_builtin; refine wpList_append_g infoS rfl _ _ 69 rfl Tryz.underlying69 w.heap.size _ _ (P2 V N f u) rfl (SH4.grow (bAl _ _)).o (by have := (SH4).size; simp; omega) _ [xf] rfl (rd_lit (E := encS) _ [xf] 1 _ rfl (by omega) rfl) (by have := LEN.out; simp; omega) ?_; intro v7 w7 o7 hT7; have SH7 := (SH4.grow (bAl _ _)).app hT7 o7; obtain ⟨A7, n7, c7, rfl⟩ := o7.slice) | (fail))
            go_meet
            case rel => exact ⟨A7, n7, c7, rfl, by unfold Hid; rw [hP.out]; exact SH7⟩
          · have e10 : (V == 10) = false := by simp [h10]
            have hP : Hid (P3 V N f u B.size d = P2 V N f u) := by unfold Hid P3 stepV; rw [hsv.out, if_neg (by decide), if_neg h11, decide_eq_false h9, decide_eq_false h10]; simp
            clear h11 h9 h10
            go_wp2_with (first | (go_at_call 69; refine (l11Sized_is V _ hsv.out _).mono ?_; rintro e wq ⟨rfl, hq⟩; subst wq) | (fail))
            go_meet
            case rel => exact ⟨A3, n3, k3, rfl, by unfold Hid; rw [hP.out]; exact SH.out⟩
  case rest =>
  obtain ⟨A4, n4, k4, rfl, SH3⟩ := hcut
  clear c0 c1 c2 c3 c4 c5 c6 c7 SH
  have SH := SH3
  clear SH3
  obtain ⟨c0, c1, c2, c3, c4, c5, c6, c7⟩ := cellsCm SH.out.V1
  go_upto_if 70 with (fail)
  go_cut [3] from 70 to 76 (fun v3 wc => ∃ A n k, v3 = .slice A n k ∧ Hid (Sh w wc b1 [.int .i64 V, .string N, .int .i64 (f : Int), .int .i64 (u : Int), .string B, .int .i64 (c : Int), .int .i64 (d : Int), .bool Q] (.slice A n k) (P4 V N f u B.size d c)))
  case first =>
    by_cases h8 : V = 8
    · have e8 : (V == 8) = true := by simp [h8]
      have hP : Hid (P4 V N f u B.size d c = P3 V N f u B.size d ++ [tx (digs c)]) := by unfold Hid P4; rw [if_pos h8]
      obtain ⟨xf, hxf⟩ := hid_ex (tx (digs c))
      rw [hxf.out] at hP
      clear h8
      go_wp2_with (first | (go_at_call 120; refine (l1Int_is c (by omega) _).mono ?_; rintro e w4 ⟨rfl, hB4⟩; have SH4 := SH.out.grow hB4; rw [hxf.out]) | (at_builtin; refine wpList_append_g infoS rfl _ _ 69 rfl Tryz.underlying69 w.heap.size _ _ (P3 V N f u B.size d) rfl (SH4.grow (bAl _ _)).o (by have := (SH4).size; simp; omega) _ [xf] rfl (rd_lit (E := encS) _ [xf] 1 _ rfl (by omega) rfl) (by have := LEN.out; simp; omega) ?_; intro v7 w7 o7 hT7; have SH7 := (SH4.grow (bAl _ _)).app hT7 o7; obtain ⟨A7, n7, c7, rfl⟩ := o7.slice) | (fail))
      go_meet
      case rel => exact ⟨A7, n7, c7, rfl, by unfold Hid; rw [hP.out]; exact SH7⟩
    · have e8 : (V == 8) = false := by simp [h8]
      have hP : Hid (P4 V N f u B.size d c = P3 V N f u B.size d) := by unfold Hid P4; rw [if_neg h8, List.append_nil]
      clear h8
      go_wp2
      go_meet
      case rel => exact ⟨A4, n4, k4, rfl, by unfold Hid; rw [hP.out]; exact SH.out⟩
  case rest =>
  obtain ⟨A5, n5, k5, rfl, SH3⟩ := hcut
  clear c0 c1 c2 c3 c4 c5 c6 c7 SH
  have SH := SH3
  clear SH3
  obtain ⟨c0, c1, c2, c3, c4, c5, c6, c7⟩ := cellsCm SH.out.V1
  go_upto_if 78 with (fail)
  go_cut [3] from 78 to 81 (fun v3 wc => ∃ A n k, v3 = .slice A n k ∧ Hid (Sh w wc b1 [.int .i64 V, .string N, .int .i64 (f : Int), .int .i64 (u : Int), .string B, .int .i64 (c : Int), .int .i64 (d : Int), .bool Q] (.slice A n k) (P5 V N f u B.size d c Q)))
  case first =>
    cases Q with
    | true =>
      obtain ⟨xf, hxf⟩ := hid_ex (tx quiet)
      have hP : Hid (P5 V N f u B.size d c true = P4 V N f u B.size d c ++ [xf]) := by unfold Hid P5; rw [if_pos rfl, hxf.out]
      have hqx : (⟨#[113, 117, 105, 101, 116]⟩ : ByteArray) = xf := hxf.out
      go_wp2_with (first | (at_builtin; refine wpList_append_g infoS rfl _ _ 69 rfl Tryz.underlying69 w.heap.size _ _ (P4 V N f u B.size d c) rfl (SH.out.grow (bAl _ _)).o (by have := (SH.out).size; simp; omega) _ [xf] rfl (rd_lit (E := encS) _ [xf] 1 _ rfl (by omega) rfl) (by have := LEN.out; simp; omega) ?_; intro v7 w7 o7 hT7; have SH7 := (SH.out.grow (bAl _ _)).app hT7 o7; obtain ⟨A7, n7, c7, rfl⟩ := o7.slice) | (fail))
      go_meet
      case rel => exact ⟨A7, n7, c7, rfl, by unfold Hid; rw [hP.out]; exact SH7⟩
    | false =>
      have hP : Hid (P5 V N f u B.size d c false = P4 V N f u B.size d c) := by unfold Hid P5; simp
      go_wp2
      go_meet
      case rel => exact ⟨A5, n5, k5, rfl, by unfold Hid; rw [hP.out]; exact SH.out⟩
  case rest =>
  obtain ⟨A6, n6, k6, rfl, SH3⟩ := hcut
  clear c0 c1 c2 c3 c4 c5 c6 c7 SH
  have SH := SH3
  clear SH3
  obtain ⟨c0, c1, c2, c3, c4, c5, c6, c7⟩ := cellsCm SH.out.V1
  have HW : Hid ((P5 V N f u B.size d c Q).map bs = wordsK ⟨V, N, f, u, B, c, d, Q⟩ B.size) := P5_words V N f u B c d Q
  have HM : Hid (∀ x ∈ P5 V N f u B.size d c Q, x.size ≤ 10000) := P_size V N f u B.size d c Q hN hf hu hBs hd hc v0 v1
  obtain ⟨x, hx⟩ := hid_ex (tx (wordsL ((P5 V N f u B.size d c Q).map bs)))
  have hxl : x.size ≤ 1000000 := by
    rw [← hx.out, tx_size]
    have h1 := wordsL_len ((P5 V N f u B.size d c Q).map bs) 10000 (fun y hy => by
      obtain ⟨z, hz, rfl⟩ := List.mem_map.1 hy
      rw [bs_len]
      exact HM.out z hz)
    have h2 := LEN.out.2.2.2.2
    rw [List.length_map] at h1
    have : (P5 V N f u B.size d c Q).length * (10000 + 1) ≤ 10 * 10001 := Nat.mul_le_mul_right _ h2
    omega
  have e1 : (x ++ (⟨#[10]⟩ : ByteArray)).size = x.size + 1 := by rw [ByteArray.size_append]; rfl
  have e2 : (x ++ (⟨#[10]⟩ : ByteArray) ++ B).size = x.size + 1 + B.size := by rw [ByteArray.size_append, e1]
  have hlen5 : (P5 V N f u B.size d c Q).length ≤ 100 := Nat.le_trans LEN.out.2.2.2.2 (by omega)
  have m9 : Hid True := trivial
  cases sv with
  | false =>
    go_wp2_with (first | (go_at_call 121; refine (l1Words_any _ _ _ SH.out.o.rd hlen5 HM.out).mono ?_; rintro e wq ⟨rfl, hq⟩; subst wq; rw [hx.out]) | (go_at_call 69; refine (l11Sized_is V _ hsv.out _).mono ?_; rintro e wq ⟨rfl, hq⟩; subst wq) | (fail))
    go_ret
    refine ⟨?_, SH.out.b⟩
    unfold showL lineK
    rw [← HW.out, hsv.out]
    exact congrArg (fun z => Ending.returned (.string z)) (by rw [← hx.out]; exact bs_inj0 (by rw [bs_app, bs_tx, bs_tx]; rfl))
  | true =>
    go_wp2_with (first | (go_at_call 121; refine (l1Words_any _ _ _ SH.out.o.rd hlen5 HM.out).mono ?_; rintro e wq ⟨rfl, hq⟩; subst wq; rw [hx.out]) | (go_at_call 69; refine (l11Sized_is V _ hsv.out _).mono ?_; rintro e wq ⟨rfl, hq⟩; subst wq) | (fail))
    go_ret
    refine ⟨?_, SH.out.b⟩
    unfold showL lineK
    rw [← HW.out, hsv.out]
    exact congrArg (fun z => Ending.returned (.string z)) (by rw [← hx.out]; exact bs_inj0 (by rw [bs_app, bs_app, bs_app, bs_tx, bs_tx]; simp [bs]))
end Go.Proofs.YtaabmkhckbndgaaGreatDoor.cm
