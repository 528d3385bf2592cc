/- Contracts: the program's generic ring in its variable: how many, the place of one, who joins, who is used. -/
import Derived.Test.YtgcgofnjaipndaaRo8
namespace Go.Proofs.Ytgcgofnjaipndaa.rg
open Go.ChangeShapes Go.WideShapes Go.ChangeAt Go.RowKit
open Go.Proofs.Ytgcgofnjaipndaa.ce Go.Proofs.Ytgcgofnjaipndaa.ro
set_option linter.unusedVariables false

def encSeat : Enc (ByteArray × Bool) := ⟨fun s => [.string s.1, .bool s.2], 2, 76, fun _ => rfl, fun s v hv => by
  simp only [List.mem_cons, List.not_mem_nil, or_false] at hv
  rcases hv with rfl | rfl <;> rfl, by decide⟩
theorem infoSeat : Info encSeat := by
  have h : (Try.prog.info? 76).map (fun i => (i.zero, i.size, i.bytes)) = some (some (.agg #[.string ⟨#[]⟩, .bool false]), 2, 24) := by kernel_rfl
  obtain ⟨i, hi, hz⟩ := Option.map_eq_some_iff.1 h
  simp only [Prod.mk.injEq] at hz
  exact ⟨i, _, hi, hz.1, hz.2.1, by omega, rfl⟩
theorem rdT_cell {w : World} {n cap : Nat} {a : Option Addr} {xs : List (ByteArray × Bool)} (r : Rd encSeat w (.slice a n cap) xs) (i : Nat) (hi : i < xs.length) : ∃ b off, a = some ⟨b, off, none⟩ ∧ b < w.heap.size ∧ w.cell? ⟨b, off + i * 2, none⟩ = some (.string xs[i].1) ∧ w.cell? ⟨b, off + i * 2 + 1, none⟩ = some (.bool xs[i].2) := by
  obtain ⟨b, off, e, h1, h2⟩ := r.cell i 0 hi (show 0 < 2 by decide)
  obtain ⟨b', off', e', h1', h2'⟩ := r.cell i 1 hi (show 1 < 2 by decide)
  rw [e] at e'
  cases e'
  exact ⟨b, off, e, h1, by simpa [encSeat] using h2, by simpa [encSeat, Nat.add_assoc] using h2'⟩
theorem ownT_cell {w : World} {lo hi n cap : Nat} {a : Option Addr} {xs : List (ByteArray × Bool)} (o : Own encSeat w lo hi (.slice a n cap) xs) (i : Nat) (h : i < xs.length) : ∃ g, a = some ⟨g, 0, none⟩ ∧ (lo ≤ g ∧ g < hi) ∧ w.cell? ⟨g, i * 2, none⟩ = some (.string xs[i].1) ∧ w.cell? ⟨g, i * 2 + 1, none⟩ = some (.bool xs[i].2) ∧ w.frozen? ⟨g, i * 2 + 1, none⟩ = false := by
  obtain ⟨g, e, h1, h2, h3⟩ := o.cell i 0 h (show 0 < 2 by decide)
  obtain ⟨g', e', h1', h2', h3'⟩ := o.cell i 1 h (show 1 < 2 by decide)
  rw [e] at e'
  cases e'
  exact ⟨g, e, h1, by simpa [encSeat] using h2, by simpa [encSeat] using h2', by simpa [encSeat] using h3'⟩
theorem ownT_set {w : World} {lo hi g n cap : Nat} {xs : List (ByteArray × Bool)} (o : Own encSeat w lo hi (.slice (some ⟨g, 0, none⟩) n cap) xs) (i : Nat) (h : i < xs.length) (x : Bool) : Own encSeat (w.setCell ⟨g, i * 2 + 1, none⟩ (.bool x)) lo hi (.slice (some ⟨g, 0, none⟩) n cap) (xs.set i (xs[i].1, x)) := by
  have := o.set i 1 h (show 1 < 2 by decide) (.bool x) (xs[i].1, x) rfl
  simpa [encSeat] using this
theorem ownT_ty {w : World} {lo hi g n cap : Nat} {xs : List (ByteArray × Bool)} (o : Own encSeat w lo hi (.slice (some ⟨g, 0, none⟩) n cap) xs) (h : 1 ≤ xs.length) (j : Nat) (x : Value) : Ty lo 76 w (w.setCell ⟨g, j, none⟩ x) := by
  rcases o.row with ⟨rfl, -⟩ | ⟨g2, cap2, cur, e2, hg, hb, -⟩
  · simp at h
  · cases e2
    exact ⟨(only_set w g j x).2.2 _ hg.1, fun k cur' t' f hk hn => (only_set w g j x).2.1 k fun e => by
      rw [e, hb] at hk
      simp at hk
      exact hn hk.2.1.symm⟩

/-- of the blocks that were there only b, and from lo on rows of seats, may be turned -/
structure Tq (lo b : Nat) (w w' : World) : Prop where
  os : w'.os = w.os
  tape : w'.tape = w.tape
  output : w'.output = w.output
  size : w.heap.size ≤ w'.heap.size
  low : ∀ k, k < lo → k ≠ b → w'.heap[k]? = w.heap[k]?
  keep : ∀ (k : Nat) (cur : Array Value) (t : TypeId) (f : Nat × Nat), w.heap[k]? = some (.cells cur t f) → k ≠ b → t ≠ 76 → w'.heap[k]? = w.heap[k]?
theorem Tq.refl (lo b : Nat) (w : World) : Tq lo b w w := ⟨rfl, rfl, rfl, Nat.le_refl _, fun _ _ _ => rfl, fun _ _ _ _ _ _ _ => rfl⟩
theorem Tq.trans {lo b : Nat} {x y z : World} (h : Tq lo b x y) (k : Tq lo b y z) : Tq lo b x z :=
  ⟨k.os.trans h.os, k.tape.trans h.tape, k.output.trans h.output, Nat.le_trans h.size k.size, fun j h1 h2 => (k.low j h1 h2).trans (h.low j h1 h2), fun j cur t f hj h1 h2 => (k.keep j cur t f (by rw [h.keep j cur t f hj h1 h2]; exact hj) h1 h2).trans (h.keep j cur t f hj h1 h2)⟩
theorem Tq.of_below {lo b : Nat} {w w' : World} (h : Below w.heap.size w w') (hl : lo ≤ w.heap.size) : Tq lo b w w' := ⟨h.os, h.tape, h.output, h.size, fun k h1 _ => h.block k (by omega), fun k cur t f hk _ _ => h.block k (Array.getElem?_eq_some_iff.1 hk).1⟩
theorem Tq.of_ty {lo b : Nat} {w w' : World} (h : Ty lo 76 w w') : Tq lo b w w' := ⟨h.low.os, h.low.tape, h.low.output, h.low.size, fun k h1 _ => h.low.block k h1, fun k cur t' f hk _ h1 => h.keep k cur t' f hk h1⟩
theorem Tq.of_only {lo b : Nat} {w w' : World} (h : Only b w w') : Tq lo b w w' := by
  have h0 := h.2.2 0 (Nat.zero_le _)
  exact ⟨h0.os, h0.tape, h0.output, h0.size, fun k _ h2 => h.2.1 k h2, fun k cur t f _ h2 _ => h.2.1 k h2⟩
theorem Tq.below {lo b B : Nat} {w w' : World} (h : Tq lo b w w') (h1 : B ≤ lo) (h2 : B ≤ b) : Below B w w' := ⟨h.os, h.tape, h.output, h.size, fun k hk => h.low k (by omega) (by omega)⟩
theorem Tq.vblk {lo b b' : Nat} {w w' : World} {t : TypeId} {vs : List Value} (h : Tq lo b w w') (hb : VBlk w b' t vs) (hn : b' ≠ b) (h1 : t ≠ 76) : VBlk w' b' t vs := hb.of (h.keep b' _ t _ hb hn h1)

/-- a ring of seats in its variable -/
structure RV (w : World) (lo hi b : Nat) (sv : Value) (ss : List (ByteArray × Bool)) (A : Int) : Prop where
  o : Own encSeat w lo hi sv ss
  v : VBlk w b 55 [sv, .int .i64 A]
theorem RV.grow {w w' : World} {lo hi b : Nat} {sv : Value} {ss : List (ByteArray × Bool)} {A : Int} (h : RV w lo hi b sv ss A) (hb : Below w.heap.size w w') : RV w' lo hi b sv ss A := ⟨h.o.grow hb, vblk_grow h.v hb⟩
theorem RV.top {w : World} {lo hi b : Nat} {sv : Value} {ss : List (ByteArray × Bool)} {A : Int} (h : RV w lo hi b sv ss A) : RV w lo w.heap.size b sv ss A := ⟨h.o.top, h.v⟩
theorem RV.only {w w' : World} {lo hi b b' : Nat} {sv : Value} {ss : List (ByteArray × Bool)} {A : Int} {t : TypeId} {vs : List Value} (h : RV w lo hi b sv ss A) (ho : Only b' w w') (hb : VBlk w b' t vs) (h1 : 76 ≠ t) (hn : b ≠ b') : RV w' lo hi b sv ss A := ⟨h.o.only ho hb h1, vblk_only h.v ho hn⟩
theorem sizeRd : (Try.prog.info? 55).map (·.size) = some 2 := by kernel_rfl
theorem zeroRd (w : World) : (zeroValue 55).run Try.prog w = .ok (.agg [Value.slice none 0 0, .int .i64 0].toArray) w := Try.zeroValue55 w

theorem many_any (w : World) (lo hi b : Nat) (sv : Value) (ss : List (ByteArray × Bool)) (A : Int) (h : RV w lo hi b sv ss A) :
    Calls Try.prog 49 #[.pointer (some ⟨b, 0, none⟩)] w fun e w' => e = .returned (.int .i64 ss.length) ∧ w' = w := by
  obtain ⟨a, cap, rfl⟩ := h.o.rd.form
  obtain ⟨c0, c1⟩ := cells2 h.v
  clear h
  go_enter Try.func49, Try.ntmps49
  go_wp2
  go_ret
  exact ⟨rfl, rfl⟩

theorem around_any (w : World) (lo hi b : Nat) (sv : Value) (ss : List (ByteArray × Bool)) (A p : Int) (h : RV w lo hi b sv ss A) :
    Calls Try.prog 70 #[.pointer (some ⟨b, 0, none⟩), .int .i64 p] w fun e w' => e = .returned (.int .i64 (if p < ss.length then p else 0)) ∧ w' = w := by
  have H : Hid (RV w lo hi b sv ss A) := h
  clear h
  obtain ⟨z, hz⟩ := hid_ex (if p < (ss.length : Int) then p else 0)
  rw [hz.out]
  by_cases hp : p < (ss.length : Int)
  · have ez : z = p := hz.out.symm.trans (if_pos hp)
    subst ez
    have hp2 : ¬ z ≥ (ss.length : Int) := by omega
    go_enter Try.func70, Try.ntmps70
    go_wp2_with (first | (go_at_call 49; refine (many_any _ lo hi b sv ss A H.out).mono ?_; rintro e wq ⟨rfl, hq⟩; subst wq) | (fail))
    go_ret
    exact ⟨rfl, rfl⟩
  · have ez : z = 0 := hz.out.symm.trans (if_neg hp)
    subst ez
    have hp2 : p ≥ (ss.length : Int) := by omega
    go_enter Try.func70, Try.ntmps70
    go_wp2_with (first | (go_at_call 49; refine (many_any _ lo hi b sv ss A H.out).mono ?_; rintro e wq ⟨rfl, hq⟩; subst wq) | (fail))
    go_ret
    exact ⟨rfl, rfl⟩

theorem placeOf_any (s : ByteArray) (w : World) (lo hi b : Nat) (sv : Value) (ss : List (ByteArray × Bool)) (A : Int) (h : RV w lo hi b sv ss A) :
    Calls Try.prog 48 #[.pointer (some ⟨b, 0, none⟩), .string s] w fun e w' => e = .returned (.int .i64 (posS s (ss.map (·.1)))) ∧ Below w.heap.size w w' := by
  have hl := h.o.rd.len
  obtain ⟨a, cap, rfl⟩ := h.o.rd.form
  obtain ⟨c0, c1⟩ := cells2 h.v
  have H : Hid (RV w lo hi b (.slice a ss.length cap) ss A) := h
  clear h
  obtain ⟨y, hy⟩ := hid_ex (posS s (ss.map (·.1)))
  rw [hy.out]
  go_enter Try.func48, Try.ntmps48
  go_wp2
  go_loopw [12] (fun p wr => ∃ i : Nat, i ≤ ss.length ∧ p = .int .i64 i ∧ Hid (s ∉ (ss.map (·.1)).take i) ∧ Below w.heap.size w wr) (fun p _ => ss.length - (intOf p).toNat)
  case atStart => exact ⟨0, by omega, rfl, (by unfold Hid; simp), Below.refl _ _⟩
  case round =>
    obtain ⟨i, hi1, rfl, hno, hB⟩ := hrel
    by_cases hlt : i < ss.length
    · obtain ⟨g, off, rfl, hb, d0, d1⟩ := rdT_cell (H.out.o.rd.grow hB) i hlt
      have hlt' : (i : Int) < (ss.length : Int) := by omega
      have hlm : i < (ss.map (·.1)).length := by rw [List.length_map]; exact hlt
      obtain ⟨z, hz⟩ := hid_ex (ss[i].1)
      obtain ⟨x, hx⟩ := hid_ex (ss[i].2)
      have hzm : Hid ((ss.map (·.1))[i] = z) := by unfold Hid; rw [List.getElem_map]; exact hz.out
      rw [hz.out] at d0
      rw [hx.out] at d1
      by_cases he : z.toList = s.toList
      · have ey : y = i := by rw [← hy.out]; exact posS_at hlm (hzm.out.trans (str_eq he)) hno.out
        subst ey
        have hbe : (z.toList == s.toList) = true := by simpa using he
        clear he
        go_wp2
        go_ret
        exact ⟨rfl, hB.alloc hB.size _⟩
      · have hno2 : Hid (s ∉ (ss.map (·.1)).take (i + 1)) := by
          unfold Hid
          rw [List.take_succ_eq_append_getElem hlm, List.mem_append, hzm.out, List.mem_singleton]
          rintro (h | h)
          · exact hno.out h
          · exact he (by rw [h])
        have hbe : (z.toList == s.toList) = false := by simpa using he
        clear he
        go_wp2
        go_roundw
        case rel => exact ⟨i + 1, by omega, by go_num, hno2, hB.alloc hB.size _⟩
        case measure => simp [intOf]; omega
    · have hlt' : ¬ (i : Int) < (ss.length : Int) := by omega
      have ey : y = -1 := by
        have h := hno.out
        rw [List.take_of_length_le (by rw [List.length_map]; omega)] at h
        rw [← hy.out]; exact posS_no h
      subst ey
      go_wp2
      go_ret
      exact ⟨rfl, hB⟩

section laws
variable {ops : Array Oper} {rest : List Oper} {o : Oper} {a : Act} {w : World} {Q : Exit → Act → World → Prop} {K : Act → World → Prop} {X : Prop}
theorem wpList_store_ts (hgd : o.guard = none) (x y : Operand) (ho : o.op = .store 53 x y) (b j : Nat) (va : Option Addr) (vn vc : Nat) (hx : a.eval x = .pointer (some ⟨b, j, none⟩)) (hy : a.eval y = .slice va vn vc)
    {t : TypeId} {vs : List Value} (hb : VBlk w b t vs) (hj : j < vs.length)
    (h : ∀ w', Only b w w' → VBlk w' b t (vs.set j (.slice va vn vc)) → wpList Try.prog ops Q rest (a.put o.dst undef) w') : wpList Try.prog ops Q (o :: rest) a w := by
  have hc := hb.cell j hj
  have hf : w.frozen? ⟨b, j, none⟩ = false := hb.frozen _
  refine wpList_skp hgd (w' := w.setCell ⟨b, j, none⟩ (.slice va vn vc)) ?_ (h _ (only_set _ _ _ _) (hb.set j _))
  unfold execOp
  simp only [ho, hx, hy]
  simp [go_sem, hc, hf]
end laws

theorem join_any (s : ByteArray) (w : World) (lo hi b : Nat) (sv : Value) (ss : List (ByteArray × Bool)) (A : Int) (h : RV w lo hi b sv ss A) (hlo : lo ≤ w.heap.size) (hl : ss.length ≤ 1000000) :
    Calls Try.prog 51 #[.pointer (some ⟨b, 0, none⟩), .string s] w fun e w' => (∃ u, e = .returned u) ∧ (∃ sv', RV w' lo w'.heap.size b sv' (ss ++ [(s, false)]) A) ∧ Tq lo b w w' := by
  obtain ⟨a, n, cap, rfl⟩ := h.o.slice
  obtain ⟨c0, c1⟩ := cells2 h.v
  have H : Hid (RV w lo hi b (.slice a n cap) ss A) := h
  clear h
  go_enter Try.func51, Try.ntmps51
  go_wp2_with (first | (at_builtin; refine wpList_append_g infoSeat rfl _ _ 53 rfl Try.underlying53 lo _ _ ss rfl (H.out.o.grow ((Below.refl _ _).alloc (Nat.le_refl _) _)) (by simp; omega) _ [(s, false)] rfl (rd_new (E := encSeat) w (s, false) #[.string s, .bool false] rfl) (by simp; omega) ?_; intro v1 w1 o1 hT1; have hBa : Below w.heap.size w (w.alloc (.cells #[.string s, .bool false] 76)) := (Below.refl _ _).alloc (Nat.le_refl _) _; have V1 := hT1.vblk (vblk_grow H.out.v hBa) (by decide); have T1 : Tq lo b w w1 := (Tq.of_below hBa hlo).trans (Tq.of_ty hT1); obtain ⟨a1, n1, k1, rfl⟩ := o1.slice) | (refine wpList_store_ts rfl _ _ rfl b 0 a1 n1 k1 rfl rfl V1 (by simp) ?_; intro w2 hO2 V2; replace o1 := o1.only hO2 V1 (by decide); have T2 : Tq lo b w w2 := T1.trans (Tq.of_only hO2)) | (fail))
  go_end0
  exact ⟨⟨_, rfl⟩, ⟨_, o1.top, V2⟩, T2⟩

theorem use_any (i : Nat) (w : World) (lo hi b : Nat) (sv : Value) (ss : List (ByteArray × Bool)) (A : Int) (h : RV w lo hi b sv ss A) (hi' : i < ss.length) :
    Calls Try.prog 57 #[.pointer (some ⟨b, 0, none⟩), .int .i64 i] w fun e w' => (∃ u, e = .returned u) ∧ RV w' lo hi b sv (ss.set i (ss[i].1, true)) A ∧ Tq lo b w w' := by
  obtain ⟨a, cap, rfl⟩ := h.o.rd.form
  obtain ⟨c0, c1⟩ := cells2 h.v
  have H : Hid (RV w lo hi b (.slice a ss.length cap) ss A) := h
  obtain ⟨g, rfl, hg, d0, d1, f1⟩ := ownT_cell h.o i hi'
  have hlt : (i : Int) < (ss.length : Int) := by omega
  clear h
  go_enter Try.func57, Try.ntmps57
  go_wp2
  go_end0
  have hT := ownT_ty H.out.o (by omega) (i * 2 + 1) (.bool true)
  exact ⟨⟨_, rfl⟩, ⟨ownT_set H.out.o i hi' true, hT.vblk H.out.v (by decide)⟩, Tq.of_ty hT⟩
end Go.Proofs.Ytgcgofnjaipndaa.rg
