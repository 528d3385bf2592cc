/- Texts laid together: RcCm Re1 DrawText Cy0 Cy1 Cu1 RcRp. -/
import Derived.Test.YtldflfmglpojlaaDoorMg02
import Derived.Test.YtldflfmglpojlaaDoorMg03
import Derived.Test.YtldflfmglpojlaaDoorMg00
import Derived.BigQuiet
import Derived.Deep.RegionHeld3
import Derived.Deep.DeepCutAuto
import Derived.Deep.Slices
import Derived.Lib.SmallJoins
import Derived.ShutString
import Derived.ChangeOld
import Derived.Deep.LoopGhost
import Derived.Laws.IdiomStrings
/- The record Cmd in memory: its cells, rows of it, the laws' helpers on it, among the arguments. -/
namespace Go.Proofs.YtldflfmglpojlaaDoor.rg
open Go.ChangeShapes Go.WideShapes Go.ChangeAt Go.RowKit
open Go.Deep Go.Joins
open Go.Proofs.YtldflfmglpojlaaDoor.ce Go.Proofs.YtldflfmglpojlaaDoor.ro
set_option linter.unusedVariables false

/-- the cells of a Cmd -/
def csCm (x : cm.Cm) : List Value := [.int .i64 x.V, .string x.N, .int .i64 x.F, .int .i64 x.U, .string x.B, .int .i64 x.C, .int .i64 x.D, .bool x.Q]
theorem oneCm (x : cm.Cm) : ∀ v ∈ csCm x, v.oneCell' = true := by
  intro v hv
  simp only [csCm, List.mem_cons, List.not_mem_nil, or_false] at hv
  rcases hv with rfl | rfl | rfl | rfl | rfl | rfl | rfl | rfl <;> rfl
def encCm : Enc cm.Cm := ⟨csCm, 8, 27, fun _ => rfl, oneCm, by decide⟩
theorem infoCm : Info encCm := by
  have h : (Tryd.prog.info? 27).map (fun i => (i.zero, i.size, i.bytes)) = some (some (.agg #[Value.int .i64 0, Value.string ⟨#[]⟩, Value.int .i64 0, Value.int .i64 0, Value.string ⟨#[]⟩, Value.int .i64 0, Value.int .i64 0, Value.bool false]), 8, 80) := by kernel_rfl
  obtain ⟨i, hi, hz⟩ := Option.map_eq_some_iff.1 h
  simp only [Prod.mk.injEq] at hz
  exact ⟨i, _, hi, hz.1, hz.2.1, by omega, rfl⟩
theorem sizeCm : (Tryd.prog.info? 27).map (·.size) = some 8 := by kernel_rfl
theorem zeroCm (w : World) : (zeroValue 27).run Tryd.prog w = .ok (.agg [Value.int .i64 0, Value.string ⟨#[]⟩, Value.int .i64 0, Value.int .i64 0, Value.string ⟨#[]⟩, Value.int .i64 0, Value.int .i64 0, Value.bool false].toArray) w := Tryd.zeroValue27 w
theorem cellsCm {w : World} {b : Nat} {t : TypeId} {v0 v1 v2 v3 v4 v5 v6 v7 : Value} (h : VBlk w b t [v0, v1, v2, v3, v4, v5, v6, v7]) : w.cell? ⟨b, 0, none⟩ = some v0 ∧ w.cell? ⟨b, 1, none⟩ = some v1 ∧ w.cell? ⟨b, 2, none⟩ = some v2 ∧ w.cell? ⟨b, 3, none⟩ = some v3 ∧ w.cell? ⟨b, 4, none⟩ = some v4 ∧ w.cell? ⟨b, 5, none⟩ = some v5 ∧ w.cell? ⟨b, 6, none⟩ = some v6 ∧ w.cell? ⟨b, 7, none⟩ = some v7 :=
  ⟨h.cell 0 (by simp), h.cell 1 (by simp), h.cell 2 (by simp), h.cell 3 (by simp), h.cell 4 (by simp), h.cell 5 (by simp), h.cell 6 (by simp), h.cell 7 (by simp)⟩
theorem frozCm {w : World} {b : Nat} {t : TypeId} {vs : List Value} (h : VBlk w b t vs) : w.frozen? ⟨b, 0, none⟩ = false ∧ w.frozen? ⟨b, 1, none⟩ = false ∧ w.frozen? ⟨b, 2, none⟩ = false ∧ w.frozen? ⟨b, 3, none⟩ = false ∧ w.frozen? ⟨b, 4, none⟩ = false ∧ w.frozen? ⟨b, 5, none⟩ = false ∧ w.frozen? ⟨b, 6, none⟩ = false ∧ w.frozen? ⟨b, 7, none⟩ = false :=
  ⟨h.frozen _, h.frozen _, h.frozen _, h.frozen _, h.frozen _, h.frozen _, h.frozen _, h.frozen _⟩
/-- the one at the place i of a row -/
theorem rdCm_at {E : Enc cm.Cm} (hp : E.put = csCm) (hk : E.k = 8) {w : World} {n cap : Nat} {a : Option Addr} {xs : List cm.Cm} (r : Rd E w (.slice a n cap) xs) (i : Nat) (hi : i < xs.length) :
    ∃ b off, a = some ⟨b, off, none⟩ ∧ b < w.heap.size ∧ w.rangeAt b (off + i * 8) (csCm xs[i]) := by
  obtain ⟨b, off, e, h1, h2⟩ := r.start (by omega)
  refine ⟨b, off, e, h1, fun j v hv => ?_⟩
  have hj : j < 8 := (List.getElem?_eq_some_iff.1 hv).1
  have := E.row_get xs i j hi (by rw [hk]; exact hj)
  rw [hk, hp, hv] at this
  have := h2 _ _ this
  rw [Nat.add_assoc]
  exact this
theorem rngCm {w : World} {b k : Nat} {v0 v1 v2 v3 v4 v5 v6 v7 : Value} (h : w.rangeAt b k [v0, v1, v2, v3, v4, v5, v6, v7]) : w.cell? ⟨b, k, none⟩ = some v0 ∧ w.cell? ⟨b, k + 1, none⟩ = some v1 ∧ w.cell? ⟨b, k + 2, none⟩ = some v2 ∧ w.cell? ⟨b, k + 3, none⟩ = some v3 ∧ w.cell? ⟨b, k + 4, none⟩ = some v4 ∧ w.cell? ⟨b, k + 5, none⟩ = some v5 ∧ w.cell? ⟨b, k + 6, none⟩ = some v6 ∧ w.cell? ⟨b, k + 7, none⟩ = some v7 :=
  ⟨h 0 _ rfl, h 1 _ rfl, h 2 _ rfl, h 3 _ rfl, h 4 _ rfl, h 5 _ rfl, h 6 _ rfl, h 7 _ rfl⟩
/-- no text in it is longer than what a machine holds; none is long -/
def LoCm (l : List cm.Cm) : Prop := ∀ x ∈ l, x.N.size ≤ 9223372036854775807 ∧ x.B.size ≤ 9223372036854775807
def SmCm (l : List cm.Cm) : Prop := ∀ x ∈ l, x.N.size ≤ 1048576 ∧ x.B.size ≤ 1048576

end Go.Proofs.YtldflfmglpojlaaDoor.rg
/- What the laws of chapter 8 draw, first part: a number as a text; a name, or what is none. -/
namespace Go.Proofs.YtldflfmglpojlaaDoor.rg
open Go.ChangeShapes Go.WideShapes Go.ChangeAt Go.RowKit
open Go.Proofs.YtldflfmglpojlaaDoor.ce Go.Proofs.YtldflfmglpojlaaDoor.ro
set_option linter.unusedVariables false

theorem l1Int_any (n : Nat) (hn : n ≤ 100) (w : World) :
    Calls Tryd.prog 42 #[.int .i64 n] w fun e w' => ∃ s : ByteArray, e = .returned (.string s) ∧ s.size ≤ 1000 ∧ Below w.heap.size w w' := by
  have hn0 : ¬ (n : Int) < 0 := by omega
  go_enter Tryd.func42, Tryd.ntmps42
  go_wp2
  go_loopg [0, 3, 5] (2 * n + 1) (fun k v s d wr => ∃ (q : Nat) (out : ByteArray), v = .int .i64 q ∧ s = .string out ∧ q ≤ 100 ∧ out.size + 2 * q ≤ 300 ∧ (out.toList = [] → 2 * q + 1 ≤ k) ∧ (out.toList ≠ [] → 2 * q ≤ k ∧ out.size ≤ 300) ∧ Below w.heap.size w wr)
  case atStart => exact ⟨n, ⟨#[]⟩, rfl, rfl, hn, by show 0 + 2 * n ≤ 300; omega, fun _ => Nat.le_refl _, fun h => ⟨by omega, by show 0 ≤ 300; omega⟩, Below.refl _ _⟩
  case round =>
    obtain ⟨q, out, rfl, rfl, hq, hsz, hk1, hk2, hB⟩ := hrel
    have HK1 : Hid (out.toList = [] → 2 * q + 1 ≤ gk) := hk1
    have HK2 : Hid (out.toList ≠ [] → 2 * q ≤ gk ∧ out.size ≤ 300) := hk2
    clear hk1 hk2
    obtain ⟨d, hd⟩ := hid_ex (q % 10)
    have hd9 : d ≤ 9 := by have := hd.out; omega
    have hcv := dig_conv d hd9 wr
    have hds : (dig d).size = 1 := rfl
    have hmod : (q : Int) % 10 = (d : Int) := by have := hd.out; omega
    obtain ⟨q2, hq2⟩ := hid_ex (q / 10)
    have hdiv : (q : Int) / 10 = (q2 : Int) := by have := hq2.out; omega
    have hd0 : ¬ (d : Int) < 0 := by omega
    have hout : (dig d ++ out).size = 1 + out.size := by rw [ByteArray.size_append]; rfl
    have hne : Hid ((dig d ++ out).toList ≠ []) := by
      unfold Hid
      intro e
      have h1 : (dig d ++ out).data.toList = [] := by rw [← ByteArray.toList_eq]; exact e
      have h2 : (dig d ++ out).size = 0 := by show (dig d ++ out).data.size = 0; rw [← Array.length_toList, h1]; rfl
      omega
    by_cases he : out.toList = []
    · have hb : (out.toList == []) = true := by rw [he]; rfl
      have hs0 : out.size ≤ 0 := by
        have h1 : out.data.toList = [] := by rw [← ByteArray.toList_eq]; exact he
        show out.data.size ≤ 0
        rw [← Array.length_toList, h1]
        exact Nat.le_refl _
      go_wp2
      go_roundg (2 * q2)
      case measure => have := HK1.out he; have := hq2.out; omega
      case rel => exact ⟨q2, dig d ++ out, rfl, rfl, by have := hq2.out; omega, by have := hq2.out; omega, fun h => absurd h hne.out, fun _ => ⟨Nat.le_refl _, by omega⟩, hB.alloc hB.size _⟩
    · have hb : (out.toList == []) = false := by
        cases hx : out.toList with
        | nil => exact absurd hx he
        | cons x r => rfl
      by_cases hq0 : q = 0
      · have hqb : ((q : Int) != 0) = false := by rw [hq0]; rfl
        have hs3 : out.size ≤ 300 := by omega
        clear hq0 he
        go_wp2
        go_ret
        exact ⟨out, rfl, by omega, hB⟩
      · have hqb : ((q : Int) != 0) = true := by simp; omega
        have hlt : q2 < q := by have := hq2.out; omega
        have HE : Hid (out.toList ≠ []) := he
        clear he hq0
        go_wp2
        go_roundg (2 * q2)
        case measure => have := (HK2.out HE.out).1; omega
        case rel => exact ⟨q2, dig d ++ out, rfl, rfl, by have := hq2.out; omega, by have := hq2.out; omega, fun h => absurd h hne.out, fun _ => ⟨Nat.le_refl _, by omega⟩, hB.alloc hB.size _⟩

/-- what l8DrawName may tell besides names -/
def odd4 : List ByteArray := [⟨#[]⟩, ⟨#[65]⟩, ⟨#[48, 49, 50, 51, 52, 53, 54, 55, 56, 57, 97, 98, 99]⟩, ⟨#[122, 122]⟩]
theorem odd4_small : ∀ s ∈ odd4, s.size ≤ 13 := by
  intro s hs
  simp only [odd4, List.mem_cons, List.not_mem_nil, or_false] at hs
  rcases hs with rfl | rfl | rfl | rfl <;> decide
open Go.Proofs.YtldflfmglpojlaaDoor.draw in
theorem l8DrawName_any (w0 w : World) (p : Nat) (a0 : Option Addr) (len cap : Nat) (hc : Cur w p a0 len cap) (hg : w0.grownBy w (some p)) :
    Calls Tryd.prog 29 #[.pointer (some ⟨p, 0, none⟩)] w fun e w' => ∃ s : ByteArray, e = .returned (.string s) ∧ s.size ≤ 13 ∧ Cur w' p a0 len cap ∧ w0.grownBy w' (some p) := by
  go_enter Tryd.func29, Tryd.ntmps29
  go_wp2_with (first | (go_at_call 27; refine (once_from w0 w p a0 len cap 12 (by omega) hc hg).mono ?_; rintro e w1 ⟨x, rfl, hc1, hg1⟩; cases x) | (go_at_call 30; refine (name_from w0 w1 p a0 len cap hc1 hg1).mono ?_; rintro e w2 ⟨s, rfl, hs, hc2, hg2⟩) | (go_at_call 26; refine (below_names w0 w1 p a0 len cap odd4 _ 4 13 rfl (by omega) odd4_small hc1 hg1).mono ?_; rintro e w2 ⟨x, s, rfl, hx0, hx1, hcell, hs, hc2, hg2⟩; obtain ⟨k, hk⟩ : ∃ k : Nat, x = k := ⟨x.toNat, by omega⟩; subst hk; rw [Int.toNat_natCast] at hcell) | (fail))
  all_goals
    go_ret
    exact ⟨s, rfl, by omega, hc2, hg2⟩
end Go.Proofs.YtldflfmglpojlaaDoor.rg
/- The model's draw of a text: whatever the bytes, it returns a text of fewer than the asked number of signs; nothing that was there is written but the cursor. -/
namespace Go.Proofs.YtldflfmglpojlaaDoor.draw
open Go.ChangeShapes Go.WideShapes Go.ChangeAt Go.RowKit
set_option linter.unusedVariables false

theorem infoByte : (Tryd.prog.info? 5).map (fun i => (i.zero, i.size, i.bytes)) = some (some (.int .u8 0), 1, 1) := by kernel_rfl

def byteRow (l : List UInt8) : List Value := l.map fun b => Value.int .u8 b.toNat

theorem cur_size {w : World} {p : Nat} {a0 : Option Addr} {len cap : Nat} (h : Cur w p a0 len cap) : p < w.heap.size := h.1

theorem gb_own {w0 W w3 : World} {r : Option Nat} {p : Nat} (h : w0.grownBy W (some p)) (g : W.grownBy w3 r) (hr : ∀ k, r = some k → w0.heap.size ≤ k) : w0.grownBy w3 (some p) :=
  ⟨g.os.trans h.os, g.tape.trans h.tape, g.output.trans h.output, Nat.le_trans h.size g.size, fun i hi hne => (g.block i (Nat.lt_of_lt_of_le hi h.size) (fun e => by have := hr i e.symm; omega)).trans (h.block i hi hne)⟩

theorem cur_own {W w3 : World} {r : Option Nat} {p : Nat} {a0 : Option Addr} {len cap : Nat} (h : Cur W p a0 len cap) (g : W.grownBy w3 r) (hr : ∀ k, r = some k → p < k) : Cur w3 p a0 len cap := by
  obtain ⟨hp, hcode, hb, i, h, hi, c0, c1, c2, f1, f2⟩ := h
  have hB : ∀ b, b ≤ p → b < W.heap.size → ∀ o, w3.cell? ⟨b, o, none⟩ = W.cell? ⟨b, o, none⟩ := fun b hbp hbs o => World.cell?_of_block (g.block b hbs (fun e => by have := hr b e.symm; omega))
  have hF : ∀ o, w3.frozen? ⟨p, o, none⟩ = W.frozen? ⟨p, o, none⟩ := fun o => World.frozen?_of_block (g.block p hp (fun e => by have := hr p e.symm; omega))
  refine ⟨Nat.lt_of_lt_of_le hp g.size, ⟨hcode.1, ?_⟩, hb, i, h, hi, ?_, ?_, ?_, ?_, ?_⟩
  · rcases hcode.2 with h0 | ⟨b, off, rfl, hbs, hcell⟩
    · exact .inl h0
    rcases hb b off rfl with h0 | hbp
    · exact .inl h0
    · refine .inr ⟨b, off, rfl, Nat.lt_of_lt_of_le hbs g.size, fun k hk => ?_⟩
      obtain ⟨c, hc, h1, h2⟩ := hcell k hk
      exact ⟨c, by rw [hB b (by omega) hbs]; exact hc, h1, h2⟩
  · rw [hB p (Nat.le_refl _) hp]; exact c0
  · rw [hB p (Nat.le_refl _) hp]; exact c1
  · rw [hB p (Nat.le_refl _) hp]; exact c2
  · rw [hF]; exact f1
  · rw [hF]; exact f2

set_option maxHeartbeats 1000000 in
theorem drawText_from (w0 w : World) (p : Nat) (a0 : Option Addr) (len cap : Nat) (s : ByteArray) (most : Int) (hs : 1 ≤ s.size) (hs2 : s.size ≤ 1000) (hm : 1 ≤ most) (hm2 : most ≤ 1000)
    (hc : Cur w p a0 len cap) (hg : w0.grownBy w (some p)) :
    Calls Tryd.prog 31 #[.pointer (some ⟨p, 0, none⟩), .string s, .int .i64 most] w fun e w' => ∃ t : ByteArray, e = .returned (.string t) ∧ t.size ≤ 1000 ∧ Cur w' p a0 len cap ∧ w0.grownBy w' (some p) := by
  obtain ⟨i0, hi, hz0, hz1, hz2⟩ := info_parts infoByte
  have hp := cur_size hc
  go_enter Tryd.func31, Tryd.ntmps31
  go_wp2_with (go_at_call 26; refine (below_from (w.alloc (.cells #[] 5)) _ p a0 len cap _ hm (cur_alloc hc _) (World.grownBy.refl _ _)).mono ?_; rintro e w1 ⟨n, rfl, hn0, hn1, hc1, hg1⟩)
  have ho1 : w1.ownsRow w.heap.size 5 1 (.slice (some ⟨w.heap.size, 0, none⟩) 0 0) 0 [] :=
    (World.ownsRow_made (base := w.heap.size) (size := 1) (e := 5) w #[] 0 (Nat.le_refl _) (by unfold maxLen; omega) rfl).kept hg1 (.inr (by simp [Value.ownBlock]; omega))
  have hgg := gb_trans (gb_alloc hg (.cells #[] 5)) hg1
  have hsz : w.heap.size ≤ w1.heap.size := by have := hg1.size; simp at this; omega
  have hsz0 : w0.heap.size ≤ w.heap.size := hg.size
  clear hg1 hg hc
  go_loopw [7, 8] (fun v i wr => ∃ (k : Nat) (l : List UInt8), i = .int .i64 k ∧ k + l.length ≤ 1000 ∧ wr.ownsRow w.heap.size 5 1 v l.length (byteRow l) ∧ v ≠ .slice none 0 0 ∧ Cur wr p a0 len cap ∧ w0.grownBy wr (some p) ∧ w.heap.size ≤ wr.heap.size) (fun _ i _ => (intOf i).toNat)
  case atStart =>
    refine ⟨n.toNat, [], ?_, ?_, ho1, by simp, hc1, hgg, hsz⟩
    · rw [Int.toNat_of_nonneg hn0]
    · simp; omega
  case round =>
    obtain ⟨k, l, rfl, hk, hown, hnn, hcr, hgr, hbr⟩ := hrel
    clear ho1 hc1 hgg hsz
    by_cases hlt : 0 < k
    · go_wp2_with (first | (go_at_call 26; refine (below_from wr _ p a0 len cap _ (by omega) hcr (World.grownBy.refl _ _)).mono ?_; rintro e w2 ⟨x, rfl, hx0, hx1, hc2, hg2⟩; have hxl : x.toNat < s.size := (by omega); obtain ⟨c, hcx⟩ : ∃ c, s[x.toNat]'hxl = c := ⟨_, rfl⟩; have hown2 := hown.kept hg2 (.inr (fun e => (by have := (hown.lt p e).1; omega)))) | (at_builtin; refine wpList_append_own _ rfl _ _ 22 rfl w.heap.size 5 i0 (.int .u8 0) 1 1 Tryd.underlying22 hi hz0 hz1 hz2 rfl (by decide) _ _ _ rfl (hown2.alloc _) ⟨w2.heap.size, 0, none⟩ 1 1 [Value.int .u8 c.toNat] rfl rfl ?c1 ?c2 ?c3 ?c4 ?c5 ?_))
      case c1 =>
        intro j u hj
        match j, hj with
        | 0, hj => simp at hj; subst hj; simp [Addr.add]
      case c2 => intro u hu; simp at hu; subst hu; rfl
      case c3 => unfold maxLen; omega
      case c4 => omega
      case c5 => have := hg2.size; simp; omega
      · intro v' w3 hown3 hg3 hnil3
        have hlo : ∀ k, u7.ownBlock = some k → w.heap.size ≤ k := fun k e => (hown.lt k e).1
        have hgA : w0.grownBy w3 (some p) := gb_own (gb_trans hgr (gb_alloc hg2 (.cells #[Value.int .u8 c.toNat] 5))) hg3 (fun k e => by have := hlo k e; omega)
        have hcA : Cur w3 p a0 len cap := cur_own (cur_alloc hc2 (.cells #[Value.int .u8 c.toNat] 5)) hg3 (fun k e => by have := hlo k e; omega)
        have hsA : w.heap.size ≤ w3.heap.size := by have h1 := hg2.size; have h2 := hg3.size; simp at h2; omega
        clear hlo hg3 hg2 hown2 hcx
        go_wp2
        go_roundw
        case rel => exact ⟨k - 1, l ++ [c], by rw [Int.natCast_sub (by omega)]; rfl, by simp; omega, by rw [List.length_append, byteRow, List.map_append]; exact hown3, hnil3, hcA, hgA, hsA⟩
        case measure => simp [intOf]; omega
    · rcases hown.2 with ⟨e, -⟩ | ⟨g, cap', cur, rfl, -, -, -, -, -, -⟩
      · exact absurd e hnn
      · have hcv := run_convert_bytes_back (P := Tryd.prog) wr 22 9 5 ⟨g, 0, none⟩ cap' l Tryd.underlying22 Tryd.underlying5 Tryd.underlying9 (fun j hj => hown.cells (g := g) rfl j _ (by simp [byteRow, hj]))
        go_wp2
        go_ret
        exact ⟨_, rfl, by show l.toArray.size ≤ 1000; simp; omega, hcr, hgr⟩
end Go.Proofs.YtldflfmglpojlaaDoor.draw
/- Texts and their bytes: what stands between the walk's texts (s ++ t, s.extract a b, s[i]) and lists of bytes; what the loops over texts keep. No Go in sight. -/
namespace Go.Proofs.YtldflfmglpojlaaDoor.cm
open Go.RowKit
set_option linter.unusedVariables false

theorem bs_app (a b : ByteArray) : bs (a ++ b) = bs a ++ bs b := by unfold bs; rw [ByteArray.data_append, Array.toList_append]
theorem bs_extract (s : ByteArray) (a b : Nat) : bs (s.extract a b) = ((bs s).drop a).take (b - a) := by
  unfold bs
  rw [ByteArray.data_extract, Array.toList_extract, List.extract]
theorem bs_get (s : ByteArray) (i : Nat) (h : i < s.size) : (bs s)[i]'(by rw [bs_len]; exact h) = s[i] := by
  unfold bs
  rw [Array.getElem_toList]
  rfl
theorem bs_inj0 {a b : ByteArray} (h : bs a = bs b) : a = b := by rw [← tx_bs a, ← tx_bs b, h]
theorem tx_app (l m : List UInt8) : tx (l ++ m) = tx l ++ tx m := bs_inj0 (by rw [bs_app, bs_tx, bs_tx, bs_tx])
theorem bs_toList (s : ByteArray) : s.toList = bs s := ByteArray.toList_eq ..
theorem bs_take_succ {s : ByteArray} {i : Nat} (h : i < s.size) : (bs s).take (i + 1) = (bs s).take i ++ [s[i]] := by
  rw [List.take_succ_eq_append_getElem (by rw [bs_len]; exact h), bs_get s i h]
theorem bs_drop_cons {s : ByteArray} {i : Nat} (h : i < s.size) : (bs s).drop i = s[i] :: (bs s).drop (i + 1) := by
  rw [List.drop_eq_getElem_cons (by rw [bs_len]; exact h), bs_get s i h]

/-! ### a number is shown, the last digit first -/
/-- while a number is shown: what is left of it and what is shown -/
structure Dig (n q : Nat) (out : List UInt8) : Prop where
  at0 : out = [] → q = n
  on : out ≠ [] → digs n = (if q = 0 then [] else digs q) ++ out
theorem dig_start (n : Nat) : Dig n n [] := ⟨fun _ => rfl, fun h => absurd rfl h⟩
theorem dig_step {n q : Nat} {out : List UInt8} (h : Dig n q out) (hg : out = [] ∨ q ≠ 0) : Dig n (q / 10) (dg (q % 10) :: out) := by
  refine ⟨fun e => by simp at e, fun _ => ?_⟩
  have hq : (if q / 10 = 0 then [] else digs (q / 10)) ++ dg (q % 10) :: out = digs q ++ out := by
    by_cases h10 : q < 10
    · rw [if_pos (by omega), digs_small h10, Nat.mod_eq_of_lt h10]; rfl
    · rw [if_neg (by omega), digs_big h10]; simp
  rw [hq]
  rcases hg with e | e
  · subst e
    rw [h.at0 rfl, List.append_nil]
  · by_cases ho : out = []
    · subst ho
      rw [h.at0 rfl, List.append_nil]
    · rw [h.on ho, if_neg e]
theorem dig_end {n : Nat} {out : List UInt8} (h : Dig n 0 out) (ho : out ≠ []) : out = digs n := by
  have := h.on ho
  rw [if_pos rfl, List.nil_append] at this
  exact this.symm

/-! ### words, one behind the other -/
/-- the words of the first i, joined -/
theorem words_zero : wordsL [] = [] := rfl
theorem words_snoc : ∀ (ws : List (List UInt8)) (w : List UInt8), wordsL (ws ++ [w]) = if ws = [] then w else wordsL ws ++ 32 :: w
  | [], w => by simp [wordsL]
  | [a], w => by
    rw [if_neg (by simp)]
    show wordsL (a :: [w]) = _
    rw [wordsL_cons (by simp)]
    simp [wordsL]
  | a :: b :: r, w => by
    rw [if_neg (by simp), List.cons_append, wordsL_cons (by simp), wordsL_cons (w := a) (ws := b :: r) (by simp), words_snoc (b :: r) w, if_neg (by simp)]
    simp

/-! ### a text is split -/
/-- the first i bytes have been looked at: what is done, and where the open word begins -/
structure Spl (x : UInt8) (l : List UInt8) (i f : Nat) (out : List (List UInt8)) : Prop where
  fi : f ≤ i
  il : i ≤ l.length
  no : x ∉ (l.take i).drop f
  is : splitL x l = out ++ splitL x (l.drop f)
theorem spl_start (x : UInt8) (l : List UInt8) : Spl x l 0 0 [] := ⟨Nat.le_refl _, Nat.zero_le _, by simp, by simp⟩
theorem split_nox {x : UInt8} : ∀ (w : List UInt8), x ∉ w → splitL x w = [w]
  | [], _ => by simp [splitL]
  | c :: r, h => by
    have hc : c ≠ x := fun e => h (by rw [e]; simp)
    rw [splitL_no hc (split_nox r fun q => h (List.mem_cons_of_mem _ q))]
theorem split_appx {x : UInt8} : ∀ (w s : List UInt8), x ∉ w → splitL x (w ++ x :: s) = w :: splitL x s
  | [], s, _ => by rw [List.nil_append, splitL_yes rfl]
  | c :: r, s, h => by
    have hc : c ≠ x := fun e => h (by rw [e]; simp)
    rw [List.cons_append, splitL_no hc (split_appx r s fun q => h (List.mem_cons_of_mem _ q))]
theorem spl_pass {x : UInt8} {l : List UInt8} {i f : Nat} {out : List (List UInt8)} (h : Spl x l i f out) (hi : i < l.length) (hn : l[i] ≠ x) : Spl x l (i + 1) f out := by
  have h1 := h.fi
  refine ⟨by omega, by omega, fun q => ?_, h.is⟩
  rw [List.take_succ_eq_append_getElem hi, List.drop_append_of_le_length (by rw [List.length_take]; omega)] at q
  rcases List.mem_append.1 q with q | q
  · exact h.no q
  · exact hn (List.mem_singleton.1 q).symm
theorem spl_word {l : List UInt8} {i f : Nat} (h1 : f ≤ i) : (l.drop f).take (i - f) = (l.take i).drop f := by
  rw [List.drop_take]
theorem spl_cut {x : UInt8} {l : List UInt8} {i f : Nat} {out : List (List UInt8)} (h : Spl x l i f out) (hi : i < l.length) (hy : l[i] = x) : Spl x l (i + 1) (i + 1) (out ++ [(l.take i).drop f]) := by
  have h1 := h.fi
  have e : l.drop f = (l.take i).drop f ++ x :: l.drop (i + 1) := by
    have e1 : l = l.take i ++ x :: l.drop (i + 1) := by
      rw [← hy, ← List.drop_eq_getElem_cons hi, List.take_append_drop]
    conv => lhs; rw [e1]
    rw [List.drop_append_of_le_length (by rw [List.length_take]; omega)]
  refine ⟨Nat.le_refl _, by omega, by simp, ?_⟩
  rw [h.is, e, split_appx _ _ h.no]
  simp
theorem spl_end {x : UInt8} {l : List UInt8} {i f : Nat} {out : List (List UInt8)} (h : Spl x l i f out) (hi : i = l.length) : splitL x l = out ++ [(l.take i).drop f] := by
  subst hi
  have := h.no
  rw [List.take_length] at this ⊢
  rw [h.is, split_nox _ this]

/-! ### a number is read -/
/-- the first k bytes are digits, and they are so much -/
structure Rdn (l : List UInt8) (k n : Nat) : Prop where
  all : ∀ c ∈ l.take k, isD c = true
  is : n = val 0 (l.take k)
theorem rdn_start (l : List UInt8) : Rdn l 0 0 := ⟨by simp, by rw [List.take_zero, val_nil]⟩
theorem rdn_step {l : List UInt8} {k n : Nat} (h : Rdn l k n) (hk : k < l.length) (hd : isD l[k] = true) : Rdn l (k + 1) (n * 10 + (l[k].toNat - 48)) := by
  refine ⟨fun c hc => ?_, ?_⟩
  · rw [List.take_succ_eq_append_getElem hk] at hc
    rcases List.mem_append.1 hc with q | q
    · exact h.all c q
    · rw [List.mem_singleton.1 q]; exact hd
  · rw [List.take_succ_eq_append_getElem hk, val_snoc, h.is]
theorem rdn_lt {l : List UInt8} {k n : Nat} (h : Rdn l k n) (hk : k ≤ l.length) : n < 10 ^ k := by
  have := val_lt (l.take k) 0 0 h.all (by decide)
  rw [List.length_take, Nat.min_eq_left hk, Nat.zero_add] at this
  rw [h.is]; exact this
theorem rdn_not {l : List UInt8} {k : Nat} (hk : k < l.length) (hd : isD l[k] = false) : canon l = false := by
  cases hc : canon l with
  | false => rfl
  | true =>
    have := (canon_iff.1 hc).1 l[k] (List.getElem_mem hk)
    rw [hd] at this
    cases this
theorem rdn_end {l : List UInt8} {n : Nat} (h : Rdn l l.length n) (h1 : 1 ≤ l.length) (h9 : l.length ≤ 9) : n = val 0 l ∧ canon l = !(l.head? == some 48 && decide (1 < l.length)) := by
  have ha := h.all
  have hi := h.is
  rw [List.take_length] at ha hi
  refine ⟨hi, ?_⟩
  have h3 : l.all isD = true := List.all_eq_true.2 ha
  unfold canon
  rw [h3, decide_eq_true h1, decide_eq_true h9]
  rfl
theorem canon_len {l : List UInt8} (h : ¬ (1 ≤ l.length ∧ l.length ≤ 9)) : canon l = false := by
  cases hc : canon l with
  | false => rfl
  | true => exact absurd ⟨(canon_iff.1 hc).2.1, (canon_iff.1 hc).2.2.1⟩ h
/-- what begins with a minus is no number as one is shown -/
theorem canon_minus {l : List UInt8} (h : l.head? = some 45) : canon l = false := by
  cases l with
  | nil => simp at h
  | cons c r =>
    simp at h
    subst h
    exact rdn_not (k := 0) (by simp) (show isD 45 = false by decide)
end Go.Proofs.YtldflfmglpojlaaDoor.cm
/- Contracts of the model's helpers on texts: a number is shown. -/
namespace Go.Proofs.YtldflfmglpojlaaDoor.cm
open Go.ChangeShapes Go.WideShapes Go.ChangeAt Go.RowKit
open Go.Proofs.YtldflfmglpojlaaDoor.ce Go.Proofs.YtldflfmglpojlaaDoor.ro Go.Proofs.YtldflfmglpojlaaDoor.rg
set_option linter.unusedVariables false

theorem dig_tx (d : Nat) : dig d = tx [dg d] := rfl
theorem tx_nonempty {l : List UInt8} (h : l ≠ []) : (tx l).toList ≠ [] := by rw [bs_toList, bs_tx]; exact h
theorem dig_len {n q : Nat} {l : List UInt8} (h : Dig n q l) : l.length ≤ (digs n).length := by
  by_cases e : l = []
  · rw [e]; exact Nat.zero_le _
  · rw [h.on e, List.length_append]; omega
/-- what l1Int tells of a number that is not below 0 -/
theorem l1Int_is (n : Nat) (hn : n ≤ 1000000000000) (w : World) :
    Calls Tryd.prog 42 #[.int .i64 n] w fun e w' => e = .returned (.string (tx (digs n))) ∧ Below w.heap.size w w' := by
  have hn0 : ¬ (n : Int) < 0 := by omega
  go_enter Tryd.func42, Tryd.ntmps42
  go_wp2
  go_loopg [0, 3, 5] (2 * n + 1) (fun k v s d wr => ∃ (q : Nat) (l : List UInt8) (out : ByteArray), v = .int .i64 q ∧ s = .string out ∧ q ≤ 1000000000000 ∧ Hid (out = tx l) ∧ Hid (Dig n q l) ∧ Hid (l = [] → 2 * q + 1 ≤ k) ∧ Hid (l ≠ [] → 2 * q ≤ k) ∧ Below w.heap.size w wr)
  case atStart => exact ⟨n, [], ⟨#[]⟩, rfl, rfl, hn, rfl, dig_start n, fun _ => Nat.le_refl _, fun h => absurd rfl h, Below.refl _ _⟩
  case round =>
    obtain ⟨q, l, out, rfl, rfl, hq, ho, hD, hk1, hk2, hB⟩ := hrel
    obtain ⟨d, hd⟩ := hid_ex (q % 10)
    have hd9 : d ≤ 9 := by have := hd.out; omega
    have hcv := dig_conv d hd9 wr
    have hmod : (q : Int) % 10 = (d : Int) := by have := hd.out; omega
    obtain ⟨q2, hq2⟩ := hid_ex (q / 10)
    have hdiv : (q : Int) / 10 = (q2 : Int) := by have := hq2.out; omega
    have hd0 : ¬ (d : Int) < 0 := by omega
    have hds : (dig d).size = 1 := rfl
    have hosz : out.size ≤ 13 := by
      rw [ho.out, tx_size]
      exact Nat.le_trans (dig_len hD.out) (digs_len 12 n (by omega))
    have hout : Hid (dig d ++ out = tx (dg d :: l)) := by
      unfold Hid
      rw [ho.out, dig_tx, ← tx_app]
      rfl
    have hle : q2 ≤ 1000000000000 := by have := hq2.out; omega
    by_cases he : l = []
    · have hb : (out.toList == []) = true := by rw [ho.out, he, bs_toList, bs_tx]; rfl
      have hD2 : Hid (Dig n q2 (dg d :: l)) := by
        have := dig_step hD.out (Or.inl he)
        rw [hd.out, hq2.out] at this
        exact this
      have hgk := hk1.out he
      have hg2 : 2 * q2 < gk := by have := hq2.out; omega
      clear he hgk
      go_wp2
      go_roundg (2 * q2)
      case measure => exact hg2
      case rel => exact ⟨q2, dg d :: l, dig d ++ out, rfl, rfl, hle, hout, hD2, fun h => by simp at h, fun _ => Nat.le_refl _, hB.alloc hB.size _⟩
    · have hb : (out.toList == []) = false := by
        rw [ho.out]
        have := tx_nonempty he
        cases hx : (tx l).toList with
        | nil => exact absurd hx this
        | cons x r => rfl
      by_cases hq0 : q = 0
      · have hqb : ((q : Int) != 0) = false := by rw [hq0]; rfl
        have hend : Hid (out = tx (digs n)) := by
          unfold Hid
          have h := hD.out
          rw [hq0] at h
          rw [ho.out, ← dig_end h he]
        clear hq0 he
        go_wp2
        go_ret
        exact ⟨by rw [hend.out]; rfl, hB⟩
      · have hqb : ((q : Int) != 0) = true := by simp; omega
        have hD2 : Hid (Dig n q2 (dg d :: l)) := by
          have := dig_step hD.out (Or.inr hq0)
          rw [hd.out, hq2.out] at this
          exact this
        have hgk := hk2.out he
        have hg2 : 2 * q2 < gk := by have := hq2.out; omega
        clear he hq0 hgk
        go_wp2
        go_roundg (2 * q2)
        case measure => exact hg2
        case rel => exact ⟨q2, dg d :: l, dig d ++ out, rfl, rfl, hle, hout, hD2, fun h => by simp at h, fun _ => Nat.le_refl _, hB.alloc hB.size _⟩
end Go.Proofs.YtldflfmglpojlaaDoor.cm
/- Contracts of the model's small questions on verbs. -/
namespace Go.Proofs.YtldflfmglpojlaaDoor.cm
open Go.ChangeShapes Go.WideShapes Go.ChangeAt Go.RowKit
open Go.Proofs.YtldflfmglpojlaaDoor.ce Go.Proofs.YtldflfmglpojlaaDoor.ro Go.Proofs.YtldflfmglpojlaaDoor.rg
set_option linter.unusedVariables false

theorem l11Sized_is (v : Int) (y : Bool) (h : sized v = y) (w : World) : Calls Tryd.prog 41 #[.int .i64 v] w fun e w' => e = .returned (.bool y) ∧ w' = w := by
  have h2 : Hid ((decide (3 ≤ v) && decide (v ≤ 8)) = y) := h
  clear h
  go_enter Tryd.func41, Tryd.ntmps41
  go_wp2_with (first | (go_at_call 35; refine (in_is v 3 8 y h2.out _).mono ?_; rintro e wq ⟨rfl, hq⟩; subst wq) | (fail))
  go_ret
  exact ⟨rfl, rfl⟩
theorem l11Full_is (v : Int) (y : Bool) (h : full v = y) (w : World) : Calls Tryd.prog 40 #[.int .i64 v] w fun e w' => e = .returned (.bool y) ∧ w' = w := by
  unfold full at h
  obtain ⟨x, hx⟩ := hid_ex (decide (3 ≤ v) && decide (v ≤ 5))
  rw [hx.out] at h
  by_cases h8 : v = 8
  · have e8 : (v == 8) = true := by simpa using h8
    rw [decide_eq_true h8] at h
    cases x
    all_goals
      clear h8
      subst h
      go_enter Tryd.func40, Tryd.ntmps40
      go_wp2_with (first | (go_at_call 35; refine (in_is v 3 5 _ hx.out _).mono ?_; rintro e wq ⟨rfl, hq⟩; subst wq) | (fail))
      go_ret
      exact ⟨rfl, rfl⟩
  · have e8 : (v == 8) = false := by simpa using h8
    rw [decide_eq_false h8] at h
    cases x
    all_goals
      clear h8
      subst h
      go_enter Tryd.func40, Tryd.ntmps40
      go_wp2_with (first | (go_at_call 35; refine (in_is v 3 5 _ hx.out _).mono ?_; rintro e wq ⟨rfl, hq⟩; subst wq) | (fail))
      go_ret
      exact ⟨rfl, rfl⟩
/-- new things lie in a block of their own -/
theorem rd_lit {α : Type} {E : Enc α} (w : World) (xs : List α) (n : Nat) (cs : Array Value) (hn : n = xs.length) (hm : n ≤ 1048576) (h : E.row xs = cs.toList) : Rd E (w.alloc (.cells cs E.t)) (.slice (some ⟨w.heap.size, 0, none⟩) n n) xs := by
  subst hn
  refine ⟨_, xs.length, rfl, Nat.le_refl _, by unfold maxLen; omega, fun _ => ⟨w.heap.size, 0, rfl, by simp, fun j u hj => ?_⟩⟩
  rw [h] at hj
  rw [cell_of_row _ _ _ _ _ _ (heap_alloc_new w (.cells cs E.t))]
  simpa using hj
/-- the words of the verbs -/
def vtx : List ByteArray := verbs.map tx
end Go.Proofs.YtldflfmglpojlaaDoor.cm
/- The record Reply in memory: its cells, rows of it, the laws' helpers on it, among the arguments. -/
namespace Go.Proofs.YtldflfmglpojlaaDoor.rg
open Go.ChangeShapes Go.WideShapes Go.ChangeAt Go.RowKit
open Go.Deep Go.Joins
open Go.Proofs.YtldflfmglpojlaaDoor.ce Go.Proofs.YtldflfmglpojlaaDoor.ro
set_option linter.unusedVariables false

/-- the cells of a Reply -/
def csRp (x : cm.Rp) : List Value := [.int .i64 x.K, .string x.N, .int .i64 x.F, .string x.B, .int .i64 x.C, .int .i64 x.M]
theorem oneRp (x : cm.Rp) : ∀ v ∈ csRp x, v.oneCell' = true := by
  intro v hv
  simp only [csRp, List.mem_cons, List.not_mem_nil, or_false] at hv
  rcases hv with rfl | rfl | rfl | rfl | rfl | rfl <;> rfl
def encRp : Enc cm.Rp := ⟨csRp, 6, 29, fun _ => rfl, oneRp, by decide⟩
theorem infoRp : Info encRp := by
  have h : (Tryd.prog.info? 29).map (fun i => (i.zero, i.size, i.bytes)) = some (some (.agg #[Value.int .i64 0, Value.string ⟨#[]⟩, Value.int .i64 0, Value.string ⟨#[]⟩, Value.int .i64 0, Value.int .i64 0]), 6, 64) := by kernel_rfl
  obtain ⟨i, hi, hz⟩ := Option.map_eq_some_iff.1 h
  simp only [Prod.mk.injEq] at hz
  exact ⟨i, _, hi, hz.1, hz.2.1, by omega, rfl⟩
theorem sizeRp : (Tryd.prog.info? 29).map (·.size) = some 6 := by kernel_rfl
theorem zeroRp (w : World) : (zeroValue 29).run Tryd.prog w = .ok (.agg [Value.int .i64 0, Value.string ⟨#[]⟩, Value.int .i64 0, Value.string ⟨#[]⟩, Value.int .i64 0, Value.int .i64 0].toArray) w := Tryd.zeroValue29 w
theorem cellsRp {w : World} {b : Nat} {t : TypeId} {v0 v1 v2 v3 v4 v5 : Value} (h : VBlk w b t [v0, v1, v2, v3, v4, v5]) : w.cell? ⟨b, 0, none⟩ = some v0 ∧ w.cell? ⟨b, 1, none⟩ = some v1 ∧ w.cell? ⟨b, 2, none⟩ = some v2 ∧ w.cell? ⟨b, 3, none⟩ = some v3 ∧ w.cell? ⟨b, 4, none⟩ = some v4 ∧ w.cell? ⟨b, 5, none⟩ = some v5 :=
  ⟨h.cell 0 (by simp), h.cell 1 (by simp), h.cell 2 (by simp), h.cell 3 (by simp), h.cell 4 (by simp), h.cell 5 (by simp)⟩
theorem frozRp {w : World} {b : Nat} {t : TypeId} {vs : List Value} (h : VBlk w b t vs) : w.frozen? ⟨b, 0, none⟩ = false ∧ w.frozen? ⟨b, 1, none⟩ = false ∧ w.frozen? ⟨b, 2, none⟩ = false ∧ w.frozen? ⟨b, 3, none⟩ = false ∧ w.frozen? ⟨b, 4, none⟩ = false ∧ w.frozen? ⟨b, 5, none⟩ = false :=
  ⟨h.frozen _, h.frozen _, h.frozen _, h.frozen _, h.frozen _, h.frozen _⟩
/-- the one at the place i of a row -/
theorem rdRp_at {E : Enc cm.Rp} (hp : E.put = csRp) (hk : E.k = 6) {w : World} {n cap : Nat} {a : Option Addr} {xs : List cm.Rp} (r : Rd E w (.slice a n cap) xs) (i : Nat) (hi : i < xs.length) :
    ∃ b off, a = some ⟨b, off, none⟩ ∧ b < w.heap.size ∧ w.rangeAt b (off + i * 6) (csRp xs[i]) := by
  obtain ⟨b, off, e, h1, h2⟩ := r.start (by omega)
  refine ⟨b, off, e, h1, fun j v hv => ?_⟩
  have hj : j < 6 := (List.getElem?_eq_some_iff.1 hv).1
  have := E.row_get xs i j hi (by rw [hk]; exact hj)
  rw [hk, hp, hv] at this
  have := h2 _ _ this
  rw [Nat.add_assoc]
  exact this
theorem rngRp {w : World} {b k : Nat} {v0 v1 v2 v3 v4 v5 : Value} (h : w.rangeAt b k [v0, v1, v2, v3, v4, v5]) : w.cell? ⟨b, k, none⟩ = some v0 ∧ w.cell? ⟨b, k + 1, none⟩ = some v1 ∧ w.cell? ⟨b, k + 2, none⟩ = some v2 ∧ w.cell? ⟨b, k + 3, none⟩ = some v3 ∧ w.cell? ⟨b, k + 4, none⟩ = some v4 ∧ w.cell? ⟨b, k + 5, none⟩ = some v5 :=
  ⟨h 0 _ rfl, h 1 _ rfl, h 2 _ rfl, h 3 _ rfl, h 4 _ rfl, h 5 _ rfl⟩
/-- no text in it is longer than what a machine holds; none is long -/
def LoRp (l : List cm.Rp) : Prop := ∀ x ∈ l, x.N.size ≤ 9223372036854775807 ∧ x.B.size ≤ 9223372036854775807
def SmRp (l : List cm.Rp) : Prop := ∀ x ∈ l, x.N.size ≤ 1048576 ∧ x.B.size ≤ 1048576

end Go.Proofs.YtldflfmglpojlaaDoor.rg
