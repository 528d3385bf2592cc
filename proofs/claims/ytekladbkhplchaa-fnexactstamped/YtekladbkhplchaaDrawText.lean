/- The model's draw of a text: whatever the bytes, it returns a text of fewer than the asked number of signs; nothing that was there is written but the cursor. -/
import Derived.Test.YtekladbkhplchaaDraw1
import Derived.Laws.IdiomStrings
namespace Go.Proofs.Ytekladbkhplchaa.draw
open Go.ChangeShapes Go.WideShapes Go.ChangeAt Go.RowKit
set_option linter.unusedVariables false

theorem infoByte : (Try.prog.info? 5).map (fun i => (i.zero, i.size, i.bytes)) = some (some (.int .u8 0), 1, 1) := by kernel_rfl

def byteRow (l : List UInt8) : List Value := l.map fun b => Value.int .u8 b.toNat

theorem cur_size {w : World} {p : Nat} {a0 : Option Addr} {len cap : Nat} (h : Cur w p a0 len cap) : p < w.heap.size := h.1

theorem gb_own {w0 W w3 : World} {r : Option Nat} {p : Nat} (h : w0.grownBy W (some p)) (g : W.grownBy w3 r) (hr : ∀ k, r = some k → w0.heap.size ≤ k) : w0.grownBy w3 (some p) :=
  ⟨g.os.trans h.os, g.tape.trans h.tape, g.output.trans h.output, Nat.le_trans h.size g.size, fun i hi hne => (g.block i (Nat.lt_of_lt_of_le hi h.size) (fun e => by have := hr i e.symm; omega)).trans (h.block i hi hne)⟩

theorem cur_own {W w3 : World} {r : Option Nat} {p : Nat} {a0 : Option Addr} {len cap : Nat} (h : Cur W p a0 len cap) (g : W.grownBy w3 r) (hr : ∀ k, r = some k → p < k) : Cur w3 p a0 len cap := by
  obtain ⟨hp, hcode, hb, i, h, hi, c0, c1, c2, f1, f2⟩ := h
  have hB : ∀ b, b ≤ p → b < W.heap.size → ∀ o, w3.cell? ⟨b, o, none⟩ = W.cell? ⟨b, o, none⟩ := fun b hbp hbs o => World.cell?_of_block (g.block b hbs (fun e => by have := hr b e.symm; omega))
  have hF : ∀ o, w3.frozen? ⟨p, o, none⟩ = W.frozen? ⟨p, o, none⟩ := fun o => World.frozen?_of_block (g.block p hp (fun e => by have := hr p e.symm; omega))
  refine ⟨Nat.lt_of_lt_of_le hp g.size, ⟨hcode.1, ?_⟩, hb, i, h, hi, ?_, ?_, ?_, ?_, ?_⟩
  · rcases hcode.2 with h0 | ⟨b, off, rfl, hbs, hcell⟩
    · exact .inl h0
    rcases hb b off rfl with h0 | hbp
    · exact .inl h0
    · refine .inr ⟨b, off, rfl, Nat.lt_of_lt_of_le hbs g.size, fun k hk => ?_⟩
      obtain ⟨c, hc, h1, h2⟩ := hcell k hk
      exact ⟨c, by rw [hB b (by omega) hbs]; exact hc, h1, h2⟩
  · rw [hB p (Nat.le_refl _) hp]; exact c0
  · rw [hB p (Nat.le_refl _) hp]; exact c1
  · rw [hB p (Nat.le_refl _) hp]; exact c2
  · rw [hF]; exact f1
  · rw [hF]; exact f2

set_option maxHeartbeats 1000000 in
theorem drawText_from (w0 w : World) (p : Nat) (a0 : Option Addr) (len cap : Nat) (s : ByteArray) (most : Int) (hs : 1 ≤ s.size) (hs2 : s.size ≤ 1000) (hm : 1 ≤ most) (hm2 : most ≤ 1000)
    (hc : Cur w p a0 len cap) (hg : w0.grownBy w (some p)) :
    Calls Try.prog 89 #[.pointer (some ⟨p, 0, none⟩), .string s, .int .i64 most] w fun e w' => ∃ t : ByteArray, e = .returned (.string t) ∧ t.size ≤ 1000 ∧ Cur w' p a0 len cap ∧ w0.grownBy w' (some p) := by
  obtain ⟨i0, hi, hz0, hz1, hz2⟩ := info_parts infoByte
  have hp := cur_size hc
  go_enter Try.func89, Try.ntmps89
  go_wp2_with (go_at_call 49; refine (below_from (w.alloc (.cells #[] 5)) _ p a0 len cap _ hm (cur_alloc hc _) (World.grownBy.refl _ _)).mono ?_; rintro e w1 ⟨n, rfl, hn0, hn1, hc1, hg1⟩)
  have ho1 : w1.ownsRow w.heap.size 5 1 (.slice (some ⟨w.heap.size, 0, none⟩) 0 0) 0 [] :=
    (World.ownsRow_made (base := w.heap.size) (size := 1) (e := 5) w #[] 0 (Nat.le_refl _) (by unfold maxLen; omega) rfl).kept hg1 (.inr (by simp [Value.ownBlock]; omega))
  have hgg := gb_trans (gb_alloc hg (.cells #[] 5)) hg1
  have hsz : w.heap.size ≤ w1.heap.size := by have := hg1.size; simp at this; omega
  have hsz0 : w0.heap.size ≤ w.heap.size := hg.size
  clear hg1 hg hc
  go_loopw [7, 8] (fun v i wr => ∃ (k : Nat) (l : List UInt8), i = .int .i64 k ∧ k + l.length ≤ 1000 ∧ wr.ownsRow w.heap.size 5 1 v l.length (byteRow l) ∧ v ≠ .slice none 0 0 ∧ Cur wr p a0 len cap ∧ w0.grownBy wr (some p) ∧ w.heap.size ≤ wr.heap.size) (fun _ i _ => (intOf i).toNat)
  case atStart =>
    refine ⟨n.toNat, [], ?_, ?_, ho1, by simp, hc1, hgg, hsz⟩
    · rw [Int.toNat_of_nonneg hn0]
    · simp; omega
  case round =>
    obtain ⟨k, l, rfl, hk, hown, hnn, hcr, hgr, hbr⟩ := hrel
    clear ho1 hc1 hgg hsz
    by_cases hlt : 0 < k
    · go_wp2_with (first | (go_at_call 49; refine (below_from wr _ p a0 len cap _ (by omega) hcr (World.grownBy.refl _ _)).mono ?_; rintro e w2 ⟨x, rfl, hx0, hx1, hc2, hg2⟩; have hxl : x.toNat < s.size := (by omega); obtain ⟨c, hcx⟩ : ∃ c, s[x.toNat]'hxl = c := ⟨_, rfl⟩; have hown2 := hown.kept hg2 (.inr (fun e => (by have := (hown.lt p e).1; omega)))) | (at_builtin; refine wpList_append_own _ rfl _ _ 40 rfl w.heap.size 5 i0 (.int .u8 0) 1 1 Try.underlying40 hi hz0 hz1 hz2 rfl (by decide) _ _ _ rfl (hown2.alloc _) ⟨w2.heap.size, 0, none⟩ 1 1 [Value.int .u8 c.toNat] rfl rfl ?c1 ?c2 ?c3 ?c4 ?c5 ?_))
      case c1 =>
        intro j u hj
        match j, hj with
        | 0, hj => simp at hj; subst hj; simp [Addr.add]
      case c2 => intro u hu; simp at hu; subst hu; rfl
      case c3 => unfold maxLen; omega
      case c4 => omega
      case c5 => have := hg2.size; simp; omega
      · intro v' w3 hown3 hg3 hnil3
        have hlo : ∀ k, u7.ownBlock = some k → w.heap.size ≤ k := fun k e => (hown.lt k e).1
        have hgA : w0.grownBy w3 (some p) := gb_own (gb_trans hgr (gb_alloc hg2 (.cells #[Value.int .u8 c.toNat] 5))) hg3 (fun k e => by have := hlo k e; omega)
        have hcA : Cur w3 p a0 len cap := cur_own (cur_alloc hc2 (.cells #[Value.int .u8 c.toNat] 5)) hg3 (fun k e => by have := hlo k e; omega)
        have hsA : w.heap.size ≤ w3.heap.size := by have h1 := hg2.size; have h2 := hg3.size; simp at h2; omega
        clear hlo hg3 hg2 hown2 hcx
        go_wp2
        go_roundw
        case rel => exact ⟨k - 1, l ++ [c], by rw [Int.natCast_sub (by omega)]; rfl, by simp; omega, by rw [List.length_append, byteRow, List.map_append]; exact hown3, hnil3, hcA, hgA, hsA⟩
        case measure => simp [intOf]; omega
    · rcases hown.2 with ⟨e, -⟩ | ⟨g, cap', cur, rfl, -, -, -, -, -, -⟩
      · exact absurd e hnn
      · have hcv := run_convert_bytes_back (P := Try.prog) wr 40 9 5 ⟨g, 0, none⟩ cap' l Try.underlying40 Try.underlying5 Try.underlying9 (fun j hj => hown.cells (g := g) rfl j _ (by simp [byteRow, hj]))
        go_wp2
        go_ret
        exact ⟨_, rfl, by show l.toArray.size ≤ 1000; simp; omega, hcr, hgr⟩
end Go.Proofs.Ytekladbkhplchaa.draw
