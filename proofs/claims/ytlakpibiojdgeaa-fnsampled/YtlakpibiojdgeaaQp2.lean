/- Contracts: places of a queue, and who is sampled: the model's and the program's. -/
import Derived.Test.YtlakpibiojdgeaaQp1
import Derived.Lib.MinMax
namespace Go.Proofs.Ytlakpibiojdgeaa.rg
open Go.ChangeShapes Go.WideShapes Go.ChangeAt Go.RowKit
open Go.Proofs.Ytlakpibiojdgeaa.ce Go.Proofs.Ytlakpibiojdgeaa.ro
set_option linter.unusedVariables false

def encI : Enc Int := ⟨fun s => [.int .i64 s], 1, 2, fun _ => rfl, fun s v hv => by rw [List.mem_singleton.1 hv]; rfl, by decide⟩
theorem infoI : Info encI := by
  have h : (Try.prog.info? 2).map (fun i => (i.zero, i.size, i.bytes)) = some (some (.int .i64 0), 1, 8) := by kernel_rfl
  obtain ⟨i, hi, hz⟩ := Option.map_eq_some_iff.1 h
  simp only [Prod.mk.injEq] at hz
  exact ⟨i, _, hi, hz.1, hz.2.1, by omega, rfl⟩
theorem rdN_cell {w : World} {n cap : Nat} {a : Option Addr} {xs : List Int} (r : Rd encI w (.slice a n cap) xs) (i : Nat) (hi : i < xs.length) : ∃ b off, a = some ⟨b, off, none⟩ ∧ b < w.heap.size ∧ w.cell? ⟨b, off + i, none⟩ = some (.int .i64 xs[i]) := by
  obtain ⟨b, off, e, h1, h2⟩ := r.cell i 0 hi (show 0 < 1 by decide)
  exact ⟨b, off, e, h1, by simpa [encI] using h2⟩
theorem ownN_cell {w : World} {lo hi n cap : Nat} {a : Option Addr} {xs : List Int} (o : Own encI w lo hi (.slice a n cap) xs) (i : Nat) (h : i < xs.length) : ∃ g, a = some ⟨g, 0, none⟩ ∧ (lo ≤ g ∧ g < hi) ∧ w.cell? ⟨g, i, none⟩ = some (.int .i64 xs[i]) ∧ w.frozen? ⟨g, i, none⟩ = false := by
  obtain ⟨g, e, h1, h2, h3⟩ := o.cell i 0 h (show 0 < 1 by decide)
  exact ⟨g, e, h1, by simpa [encI] using h2, by simpa [encI] using h3⟩
theorem ownN_set {w : World} {lo hi g n cap : Nat} {xs : List Int} (o : Own encI w lo hi (.slice (some ⟨g, 0, none⟩) n cap) xs) (i : Nat) (h : i < xs.length) (x : Int) : Own encI (w.setCell ⟨g, i, none⟩ (.int .i64 x)) lo hi (.slice (some ⟨g, 0, none⟩) n cap) (xs.set i x) := by
  have := o.set i 0 h (show 0 < 1 by decide) (.int .i64 x) x rfl
  simpa [encI] using this
theorem wpList_make_int {o : Oper} {a : Act} {w : World} {ops : Array Oper} {rest : List Oper} {Q : Exit → Act → World → Prop} (hgd : o.guard = none) (l c : Operand) (t : TypeId) (ho : o.op = .makeSlice t l c) (ht : Try.prog.underlying t = some (.slice 2)) (n : Nat) (hn : n ≤ 1048576) (hl : a.eval l = .int .i64 n) (hc : a.eval c = .int .i64 n)
    (h : ∀ b w', w.heap.size ≤ b → b < w'.heap.size → Below w.heap.size w w' → Own encI w' w.heap.size w'.heap.size (.slice (some ⟨b, 0, none⟩) n n) (List.replicate n (0 : Int)) → wpList Try.prog ops Q rest (a.put o.dst (.slice (some ⟨b, 0, none⟩) n n)) w') : wpList Try.prog ops Q (o :: rest) a w := by
  have hi : (Try.prog.info? 2).map (fun i => (i.zero, i.size, i.bytes ≤ 16)) = some (some (Value.int .i64 0), 1, True) := by
    obtain ⟨i, z, h1, h2, h3, h4, h5⟩ := infoI.ex
    have : Try.prog.info? 2 = some i := h1
    have hh : (Try.prog.info? 2).map (fun i => (i.zero, i.size, decide (i.bytes ≤ 16))) = some (some (Value.int .i64 0), 1, true) := by kernel_rfl
    rw [this] at hh ⊢
    simp at hh ⊢
    exact hh
  obtain ⟨i0, hi0, hz⟩ := Option.map_eq_some_iff.1 hi
  simp only [Prod.mk.injEq, eq_iff_iff, iff_true] at hz
  refine wpList_make_full _ hgd l c t ho w.heap.size 2 i0 _ 1 ht hi0 hz.1 hz.2.1 .i64 .i64 n n n hl hc rfl rfl (by have h3 := hz.2.2; have := Nat.mul_le_mul h3 hn; omega) (by unfold maxLen; omega) (Nat.le_refl _) ?_
  intro w1 h1 h2
  have hb : Below w.heap.size w w1 := ro.below_grown h2 (Nat.le_refl _) (fun k hk => by cases hk)
  refine h _ w1 (Nat.le_refl _) (h1.lt _ rfl).2 hb (own_of ?_)
  have hr : (madeCells (Value.cells (Value.int .i64 0)) (n * 1)).toList = encI.row (List.replicate n (0 : Int)) := by
    rw [Enc.row_replicate encI (0 : Int) n (Value.int .i64 0) rfl]
    simp [Value.cells, toList_madeCells_one]
  rw [hr] at h1
  rw [List.length_replicate]
  exact h1


/-- the foremost -/
def fm (x : Int) (ys : List Int) : Int := ys.foldl min x
theorem fm_next {x : Int} {ys : List Int} {i : Nat} (hi : i < ys.length) : fm x (ys.take (i + 1)) = min (fm x (ys.take i)) ys[i] := by
  unfold fm
  rw [List.take_succ_eq_append_getElem hi, List.foldl_append]
  rfl
theorem fm_plcs {n p : Nat} (hp : p < n) : ∀ j, fm p ((plcs n p (j + 1)).drop 1) = (mins n (j + 1) n p : Nat)
  | 0 => by
    show ((p : Int)) = ((min n p : Nat) : Int)
    rw [Nat.min_eq_right (by omega)]
  | j + 1 => by
    rw [plcs_succ, List.drop_append_of_le_length (by rw [plcs_len]; omega), mins_succ]
    have h := fm_plcs hp j
    unfold fm at h ⊢
    rw [List.foldl_append, h]
    show min ((mins n (j + 1) n p : Nat) : Int) ((plc n p (j + 1) : Nat) : Int) = _
    omega

theorem foremost_any (x : Int) (ys : List Int) (a : Option Addr) (n cap : Nat) (w : World) (r : Rd encI w (.slice a n cap) ys) :
    Calls Try.prog 38 #[.int .i64 x, .slice a n cap] w fun e w' => e = .returned (.int .i64 (fm x ys)) ∧ w' = w := by
  have hl := r.len
  have hn : Hid (n = ys.length) := r.cap.1
  have hn1 : n ≤ ys.length := Nat.le_of_eq hn.out
  have hn2 : ys.length ≤ n := Nat.le_of_eq hn.out.symm
  have R : Hid (Rd encI w (.slice a n cap) ys) := r
  clear r
  obtain ⟨F, hF⟩ := hid_ex (fm x ys)
  rw [hF.out]
  go_enter Try.func38, Try.ntmps38
  go_wp2
  go_loop [0, 9] (fun u p => ∃ (i : Nat) (y : Int), i ≤ ys.length ∧ p = .int .i64 i ∧ u = .int .i64 y ∧ Hid (fm x (ys.take i) = y)) (fun _ p => ys.length - (intOf p).toNat)
  case atStart => exact ⟨0, x, by omega, rfl, rfl, (rfl : fm x [] = x)⟩
  case round =>
    obtain ⟨i, y, hi1, rfl, rfl, hy⟩ := hrel
    by_cases hlt : i < ys.length
    · obtain ⟨b, off, rfl, hb, d0⟩ := rdN_cell R.out i hlt
      have hlt' : (i : Int) < (n : Int) := by omega
      have hf := @fm_next x ys i hlt
      obtain ⟨z, hz⟩ := hid_ex (ys[i])
      rw [hz.out] at d0 hf
      rw [hy.out] at hf
      have HF : Hid (fm x (ys.take (i + 1)) = min y z) := hf
      clear hf
      go_wp2
      go_round
      case rel => exact ⟨i + 1, _, by omega, by go_num, rfl, HF⟩
      case measure => simp [intOf]; omega
    · have hlt' : ¬ (i : Int) < (n : Int) := by omega
      have e2 := hy.out
      rw [List.take_of_length_le (by omega), hF.out] at e2
      subst e2
      go_wp2
      go_ret
      exact ⟨rfl, rfl⟩

theorem placesFrom_any (s : Int) (k n p : Nat) (hs : 0 ≤ s) (hk : k ≤ 20) (hn : 0 < n) (hn2 : n ≤ 20) (hp : s.toNat % n = p) (w : World) :
    Calls Try.prog 37 #[.int .i64 s, .int .i64 k, .int .i64 n] w fun e w' => ∃ g, e = .returned (.slice (some ⟨g, 0, none⟩) k k) ∧ Own encI w' w.heap.size w'.heap.size (.slice (some ⟨g, 0, none⟩) k k) (plcs n p k) ∧ Below w.heap.size w w' := by
  have hpn : p < n := by rw [← hp]; exact Nat.mod_lt _ hn
  have hm : s.tmod (n : Int) = (p : Int) := by rw [mod_tm hs, hp]
  have hn0 : (n : Int) ≠ 0 := by omega
  have HPN : Hid (p < n) := hpn
  clear hp
  go_enter Try.func37, Try.ntmps37
  go_wp2_with (first | (refine wpList_make_int rfl _ _ 43 rfl Try.underlying43 k (by omega) rfl rfl ?_; intro g w1 hg hw1 hB1 o1) | (fail))
  have O1 : Hid (Own encI w1 w.heap.size w1.heap.size (.slice (some ⟨g, 0, none⟩) k k) (List.replicate k (0 : Int))) := o1
  clear o1
  have hz1 := hB1.size
  go_loopw [8, 17] (fun u v wr => ∃ i : Nat, i ≤ k ∧ v = .int .i64 i ∧ (∃ y : Nat, u = .int .i64 y ∧ Hid (plc n p i = y) ∧ y < n) ∧ Hid (Own encI wr w.heap.size w1.heap.size (.slice (some ⟨g, 0, none⟩) k k) (plcs n p i ++ (List.replicate k (0 : Int)).drop i)) ∧ Hid (Below w.heap.size w wr) ∧ Hid (w1.heap.size ≤ wr.heap.size)) (fun _ v _ => k - (intOf v).toNat)
  case atStart => exact ⟨0, by omega, rfl, ⟨p, by first | rfl | simp [hm], rfl, HPN.out⟩, by unfold Hid; simpa [plcs] using O1.out, hB1, Nat.le_refl _⟩
  case round =>
    obtain ⟨i, hi1, rfl, ⟨y, rfl, hy, hyn⟩, O, hB, hS⟩ := hrel
    by_cases hlt : i < k
    · obtain ⟨g', e', hg', d1, f1⟩ := ownN_cell O.out i (by simp [plcs]; omega)
      cases e'
      have hlt' : (i : Int) < (k : Int) := by omega
      have hset : Hid ((plcs n p i ++ (List.replicate k (0 : Int)).drop i).set i (y : Int) = plcs n p (i + 1) ++ (List.replicate k (0 : Int)).drop (i + 1)) := by
        unfold Hid
        rw [List.set_append_right _ _ (by rw [plcs_len]; omega), plcs_len, Nat.sub_self, List.drop_eq_getElem_cons (by simp; omega), List.set_cons_zero, plcs_succ, hy.out]
        simp
      have hnx : Hid (plc n p (i + 1) = (7 * y + 3) % n) := by unfold Hid; rw [plc_succ, hy.out]; rfl
      have hnl : (7 * y + 3) % n < n := Nat.mod_lt _ (by omega)
      obtain ⟨x, hx⟩ := hid_ex ((7 * y + 3) % n)
      rw [hx.out] at hnx hnl
      have hmx : (7 * (y : Int) + 3).tmod (n : Int) = (x : Int) := by
        rw [mod_tm (by omega), show (7 * (y : Int) + 3).toNat = 7 * y + 3 by omega, hx.out]
      have hw1 : IntKind.i64.wrap (7 * (y : Int)) = 7 * (y : Int) := by rw [IntKind.wrap_i64]; omega
      have hw2 : IntKind.i64.wrap (7 * (y : Int) + 3) = 7 * (y : Int) + 3 := by rw [IntKind.wrap_i64]; omega
      have hw3 : IntKind.i64.wrap (x : Int) = (x : Int) := by rw [IntKind.wrap_i64]; omega
      go_wp2
      go_roundw
      case rel =>
        have h1 := ownN_set O.out i (by simp [plcs]; omega) (y : Int)
        rw [hset.out] at h1
        exact ⟨i + 1, by omega, by go_num, ⟨x, rfl, hnx, hnl⟩, h1, hB.out.setCell (by omega) _, by unfold Hid; simp [World.setCell]; exact hS.out⟩
      case measure => simp [intOf]; omega
    · have hlt' : ¬ (i : Int) < (k : Int) := by omega
      have o2 := O.out
      rw [show i = k by omega, List.drop_of_length_le (by simp), List.append_nil] at o2
      clear O
      go_wp2
      go_ret
      exact ⟨g, rfl, o2.top, hB.out⟩
end Go.Proofs.Ytlakpibiojdgeaa.rg
