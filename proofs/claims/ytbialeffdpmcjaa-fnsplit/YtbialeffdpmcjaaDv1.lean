/- What the laws of chapter 7 draw: a cursor, a split in its variable, a result's variable. -/
import Derived.Test.YtbialeffdpmcjaaDrawS
import Derived.Test.YtbialeffdpmcjaaSz2
namespace Go.Proofs.Ytbialeffdpmcjaa.draw
open Go.ChangeShapes Go.WideShapes Go.ChangeAt Go.RowKit
open Go.Proofs.Ytbialeffdpmcjaa.ce Go.Proofs.Ytbialeffdpmcjaa.sx
set_option linter.unusedVariables false
theorem hash7_from (w0 w : World) (p : Nat) (a0 : Option Addr) (len cap : Nat) (hc : Cur w p a0 len cap) (hg : w0.grownBy w (some p)) :
    Calls Try.prog 72 #[.pointer (some ⟨p, 0, none⟩)] w fun e w' => ∃ x : Int, e = .returned (.int .i64 x) ∧ -1 ≤ x ∧ x ≤ 4611686018427387904 ∧ Cur w' p a0 len cap ∧ w0.grownBy w' (some p) := by
  go_enter Try.func72, Try.ntmps72
  go_wp2_with (first | (go_at_call 71; refine (once_from w0 _ p a0 len cap _ (by omega) hc hg).mono ?_; rintro e w4 ⟨y, rfl, hc4, hg4⟩) | (go_at_call 70; refine (below_from w0 _ p a0 len cap _ (by omega) (by assumption) (by assumption)).mono ?_; rintro e w3 ⟨x, rfl, hx0, hx1, hc3, hg3⟩))
  · go_wp2_with (go_at_call 70; refine (below_lit w0 _ p a0 len cap [-1, 32767, 32768, 4611686018427387904] _ 4 (-1) 4611686018427387904 rfl (by omega) (by decide) (by assumption) (by assumption)).mono ?_; rintro e w5 ⟨x5, v5, rfl, g50, g51, cell5, b5, b6, hc5, hg5⟩)
    go_ret
    exact ⟨_, rfl, b5, b6, hc5, hg5⟩
  · go_ret
    exact ⟨_, rfl, by omega, by omega, hc3, hg3⟩


theorem code7_below {w w1 : World} {a0 : Option Addr} {len : Nat} (h : CodeAt w a0 len) (hB : Below w.heap.size w w1) : CodeAt w1 a0 len := by
  refine ⟨h.1, ?_⟩
  rcases h.2 with h0 | ⟨b, off, e, hl, hc⟩
  · exact .inl h0
  · refine .inr ⟨b, off, e, Nat.lt_of_lt_of_le hl hB.size, fun k hk => ?_⟩
    obtain ⟨c, hcell, h1, h2⟩ := hc k hk
    exact ⟨c, by rw [hB.cell hl]; exact hcell, h1, h2⟩
/-- a cursor, a split's variable b, a result's variable b2 -/
structure Dm (w0 w : World) (p : Nat) (a0 : Option Addr) (len cap b2 b : Nat) (n : Int) (v : Value) : Prop where
  cur : Cur w p a0 len cap
  gb : w0.grownBy w (some p)
  pw : p < w0.heap.size
  var : VBlk w b 27 [.int .i64 n, v]
  res : VBlk w b2 27 [.int .i64 0, .slice none 0 0]
  lob : w0.heap.size ≤ b
  lo2 : w0.heap.size ≤ b2
  ne : b ≠ b2
theorem vblk_gb7 {w w' : World} {b p : Nat} {t : TypeId} {vs : List Value} (h : VBlk w b t vs) (g : w.grownBy w' (some p)) (hp : b ≠ p) : VBlk w' b t vs := h.of (g.block b h.lt (fun e => hp (by cases e; rfl)))
theorem Dm.drawn {w0 w w' : World} {p : Nat} {a0 : Option Addr} {len cap b2 b : Nat} {n : Int} {v : Value} (h : Dm w0 w p a0 len cap b2 b n v) (g : w.grownBy w' (some p)) (hc : Cur w' p a0 len cap) : Dm w0 w' p a0 len cap b2 b n v :=
  ⟨hc, gb_trans h.gb g, h.pw, vblk_gb7 h.var g (by have := h.pw; have := h.lob; omega), vblk_gb7 h.res g (by have := h.pw; have := h.lo2; omega), h.lob, h.lo2, h.ne⟩
theorem Dm.below {w0 w w' : World} {p : Nat} {a0 : Option Addr} {len cap b2 b : Nat} {n : Int} {v : Value} (h : Dm w0 w p a0 len cap b2 b n v) (hB : Below w.heap.size w w') : Dm w0 w' p a0 len cap b2 b n v :=
  ⟨cur_below h.cur hB h.cur.1, gb_below h.gb hB h.gb.size, h.pw, h.var.of (hB.block b h.var.lt), h.res.of (hB.block b2 h.res.lt), h.lob, h.lo2, h.ne⟩
theorem Dm.drew {w0 w : World} {p : Nat} {a0 : Option Addr} {len cap b2 b : Nat} {n : Int} {v : Value} (h : Dm w0 w p a0 len cap b2 b n v) : Dm w0 w.drew p a0 len cap b2 b n v := h.below ((Below.refl _ _).drew)
theorem Dm.alloc {w0 w : World} {p : Nat} {a0 : Option Addr} {len cap b2 b : Nat} {n : Int} {v : Value} (h : Dm w0 w p a0 len cap b2 b n v) (o : Obj) : Dm w0 (w.alloc o) p a0 len cap b2 b n v := h.below ((Below.refl _ _).alloc (Nat.le_refl _) _)
theorem Dm.tn {w0 w w' : World} {p : Nat} {a0 : Option Addr} {len cap b2 b : Nat} {n : Int} {v : Value} {n' : Int} {v' : Value} (h : Dm w0 w p a0 len cap b2 b n v) (hT : Tn b w w') (hv : VBlk w' b 27 [.int .i64 n', v']) : Dm w0 w' p a0 len cap b2 b n' v' := by
  have hB := hT.low w0.heap.size h.lob h.gb.size
  exact ⟨cur_below h.cur hB h.pw, gb_below h.gb hB (Nat.le_refl _), h.pw, hv, h.res.of (hT.keep b2 h.res.lt (fun e => h.ne e.symm)), h.lob, h.lo2, h.ne⟩
/-- an append to a row that the call owns -/
theorem Dm.grown {w0 w w' : World} {p : Nat} {a0 : Option Addr} {len cap b2 b : Nat} {n : Int} {v : Value} {lo hi : Nat} {u : Value} {xs : List Int} (h : Dm w0 w p a0 len cap b2 b n v) (o : OwnI w lo hi u xs) (hlo : w0.heap.size ≤ lo) (g : w.grownBy w' u.ownBlock) : Dm w0 w' p a0 len cap b2 b n v := by
  have hB : Below w0.heap.size w w' := below_grown g h.gb.size (fun k hk => by have := (o.row.lt k hk).1; omega)
  exact ⟨cur_below h.cur hB h.pw, gb_below h.gb hB (Nat.le_refl _), h.pw, h.var.of (g.block b h.var.lt (fun e => ownI_ne o h.var e.symm)), h.res.of (g.block b2 h.res.lt (fun e => ownI_ne o h.res e.symm)), h.lob, h.lo2, h.ne⟩
theorem own_gb7 {w w' : World} {p lo : Nat} {v : Value} {xs : List Int} (o : OwnI w lo w.heap.size v xs) (g : w.grownBy w' (some p)) (hp : p < lo) : OwnI w' lo w'.heap.size v xs :=
  (o.keep fun k k1 k2 => g.block k k2 (fun e => by cases e; omega)).wide (Nat.le_refl _) g.size
theorem own_below7 {w w' : World} {lo : Nat} {v : Value} {xs : List Int} (o : OwnI w lo w.heap.size v xs) (hB : Below w.heap.size w w') : OwnI w' lo w'.heap.size v xs := (o.below hB (Nat.le_refl _)).wide (Nat.le_refl _) hB.size
/-- numbers are appended to numbers that the call made, in a region that draws -/
theorem step_append_i {o : Oper} {a : Act} {w : World} {ops : Array Oper} {K : Act → World → Prop} {Q : Exit → Act → World → Prop} {E : Prop} (hgd : o.guard = none) (s x : Operand) (t : TypeId) (ho : o.op = .call { callee := .builtin .append, args := #[s, x], argTypes := #[t, t] }) (ht : Try.prog.underlying t = some (.slice 2))
    (lo hi : Nat) (v : Value) (xs : List Int) (hs : a.eval s = v) (hown : OwnI w lo hi v xs) (hlo : lo ≤ w.heap.size) (b off m c : Nat) (ys : List Int) (hx : a.eval x = .slice (some ⟨b, off, none⟩) m c) (hm : ys.length = m) (hr : w.rangeAt b off (ivs ys)) (hlen : xs.length + m ≤ 1048576)
    (h : ∀ v' w', OwnI w' lo w'.heap.size v' (xs ++ ys) → w.grownBy w' v.ownBlock → K (a.put o.dst v') w') :
    if Region.wanted o (yielded ops a.tmps) = true then Oper.wp Try.prog o a w K Q else E := by
  have hw : Region.wanted o (yielded ops a.tmps) = true := by simp [Region.wanted, hgd]
  rw [if_pos hw]
  obtain ⟨i0, hi0, hz0, hz1, hz2⟩ := infoI
  subst hm
  refine wp_append_own w s x t ho lo 2 i0 _ 1 8 ht hi0 hz0 hz1 hz2 rfl (by decide) v xs.length (ivs xs) hs hown.row ⟨b, off, none⟩ ys.length c (ivs ys) hx (by rw [ivs_len, Nat.mul_one]) (fun j u hj => by rw [Addr.add_mid]; exact hr j u hj) (ivs_one ys) (by unfold maxLen; omega) (by omega) hlo ?_
  intro v' w' h2 h3 h4
  rw [← ivs_append] at h2
  exact h v' w' ⟨by rw [List.length_append]; exact h2, fun g hg => (h2.lt g hg).2⟩ h3
/-- a slice that begins at block lo or above it, if anywhere -/
def Abv (lo : Nat) (v : Value) : Prop := ∀ g off s m c, v = .slice (some ⟨g, off, s⟩) m c → lo ≤ g
theorem own_abv {w : World} {lo hi : Nat} {v : Value} {xs : List Int} (o : OwnI w lo hi v xs) : Abv lo v := fun g off s m c e => by
  subst e
  rcases o.row.2 with ⟨e, -⟩ | ⟨g', cap', cur, e, hg, -⟩
  · cases e
  · cases e; exact hg
theorem rd_gb7 {w w' : World} {p lo : Nat} {v : Value} {xs : List Int} (r : RdI w w.heap.size v xs) (ha : Abv lo v) (hp : p < lo) (g : w.grownBy w' (some p)) : RdI w' w'.heap.size v xs := by
  obtain ⟨a, cap, e, h1, h2, h3⟩ := r.fits
  refine ⟨a, cap, e, h1, h2, fun hn => ?_⟩
  obtain ⟨b, off, e2, h4, h5⟩ := h3 hn
  have := ha b off none xs.length cap (by rw [e, e2])
  exact ⟨b, off, e2, Nat.lt_of_lt_of_le h4 g.size, range_of h5 (g.block b h4 (fun q => by cases q; omega))⟩
theorem rd_below7 {w w' : World} {v : Value} {xs : List Int} (r : RdI w w.heap.size v xs) (hB : Below w.heap.size w w') : RdI w' w'.heap.size v xs := (r.below hB (Nat.le_refl _)).wide hB.size
/-- the literals of l7Draw, in a row that lies new -/
def LitAt (w : World) (g m : Nat) : Prop := ∀ j : Nat, j < m → ∃ z : Int, w.cell? ⟨g, j, none⟩ = some (.int .i64 z) ∧ -1 ≤ z ∧ z ≤ 65536
theorem LitAt.keep {w w' : World} {g m : Nat} (h : LitAt w g m) (e : w'.heap[g]? = w.heap[g]?) : LitAt w' g m := fun j hj => by
  obtain ⟨z, h1, h2⟩ := h j hj
  exact ⟨z, by rw [World.cell?_of_block e]; exact h1, h2⟩
theorem lit4 (w : World) : LitAt (w.alloc (.cells #[.int .i64 (-1), .int .i64 65535, .int .i64 65536, .int .i64 2] 2)) w.heap.size 4 := fun j hj => by
  rcases j with _ | _ | _ | _ | j
  · exact ⟨-1, by simp, by omega, by omega⟩
  · exact ⟨65535, by simp, by omega, by omega⟩
  · exact ⟨65536, by simp, by omega, by omega⟩
  · exact ⟨2, by simp, by omega, by omega⟩
  · omega
end Go.Proofs.Ytbialeffdpmcjaa.draw
