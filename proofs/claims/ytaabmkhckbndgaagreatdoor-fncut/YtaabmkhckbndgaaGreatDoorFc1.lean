/- Contracts: what stands at the beginning, and at a place, the program's. -/
import Derived.Test.YtaabmkhckbndgaaGreatDoorHo1
import Derived.Test.YtaabmkhckbndgaaGreatDoorMg23
import Derived.Deep.DeepCutAuto
import Derived.Lib.MinMax
namespace Go.Proofs.YtaabmkhckbndgaaGreatDoor.cm
open Go.ChangeShapes Go.WideShapes Go.ChangeAt Go.RowKit
open Go.Deep Go.Joins
open Go.Proofs.YtaabmkhckbndgaaGreatDoor.ce Go.Proofs.YtaabmkhckbndgaaGreatDoor.ro Go.Proofs.YtaabmkhckbndgaaGreatDoor.rg
set_option linter.unusedVariables false

theorem cut_no {l : List UInt8} (h : 10 ∉ l) : Lib.cut l [10] = (l, [], false) := by
  rcases cut_line l with ⟨-, e⟩ | ⟨a, b, e, -, -⟩
  · exact e
  · rw [e] at h; simp at h
theorem cut_yes {l a b : List UInt8} (e : l = a ++ 10 :: b) (h : 10 ∉ a) : Lib.cut l [10] = (a, b, true) := by
  rcases cut_line l with ⟨n, -⟩ | ⟨a', b', e', h', c⟩
  · rw [e] at n; simp at n
  · have : a' = a := by
      have h1 := lineOf_app h' b'
      have h2 := lineOf_app h b
      rw [← e'] at h1
      rw [← e] at h2
      exact h1.symm.trans h2
    subst this
    have : b' = b := by
      rw [e] at e'
      simpa using e'.symm
    subst this
    exact c
theorem rowS (L : List ByteArray) : encS.row L = L.map Value.string := by
  induction L with
  | nil => rfl
  | cons a r ih => rw [Enc.row_cons, ih]; rfl
theorem splitB_words (s : ByteArray) : (Lib.splitB ⟨#[32]⟩ 0 (Lib.countB s ⟨#[32]⟩) s).map bs = splitL 32 (bs s) :=
  (Lib.splitB_data ⟨#[32]⟩ 0 (Lib.countB s ⟨#[32]⟩) s).trans (split_words' 32 (bs s))
/-- what firstCmd tells -/
noncomputable def fcF (l : List UInt8) : Cm × Int × Int := ((cmdOf l).1, ((cmdOf l).2.1 : Int), (cmdOf l).2.2)
theorem verbOf_is (s : ByteArray) (v : Int) (hv : Hid (verbOf (bs s) = v)) (w : World) (en : EnvW w) : Calls Tryz.prog 116 #[.string s] w fun e w' => e = .returned (.int .i64 v) ∧ w' = w := by
  have := verbOf_any s w en
  rw [hv.out] at this
  exact this
theorem headOf_is (v : Int) (v0 : 1 ≤ v) (v1 : v ≤ 13) (L : List ByteArray) (ws : List (List UInt8)) (hL : Hid (L.map bs = ws)) (N : ByteArray) (F U C D : Int) (Q : Bool) (k : Int) (y : Bool) (hc : Hid (headC v ws = ⟨v, N, F, U, emp, C, D, Q⟩)) (hk : Hid ((hS v ws).1 = k)) (hy : Hid (headOk v ws = y)) (vs : Value) (w : World) (en : EnvR w) (r : Rd encS w vs L) (hs : ∀ x ∈ L, x.size ≤ 1048576) :
    Calls Tryz.prog 117 #[.int .i64 v, vs] w fun e w' => e = .returned (.tuple #[.agg #[.int .i64 v, .string N, .int .i64 F, .int .i64 U, .string emp, .int .i64 C, .int .i64 D, .bool Q], .int .i64 k, .bool y]) ∧ Below w.heap.size w w' := by
  have := headOf_any v v0 v1 L vs w en r hs
  rw [hL.out, hc.out, hk.out, hy.out] at this
  exact this
theorem parts_is (v : Int) (h0 : 1 ≤ v) (h1 : v ≤ 13) (z : Bool) (hz : Hid (sized v = z)) (w : World) : Calls Tryz.prog 55 #[.int .i64 v] w fun e w' => e = .returned (.agg #[.bool (pN v), .bool (full v), .bool (pU v), .bool z, .bool (pC v), .bool (stepV v), .bool (pQ v)]) ∧ Below w.heap.size w w' := by
  have := partsOf_any v h0 h1 w
  unfold ptv at this
  rw [hz.out] at this
  exact this
theorem field_parts (a b c d e f g : Bool) : ∀ w : World, (Instr.field 81 (.agg #[.bool a, .bool b, .bool c, .bool d, .bool e, .bool f, .bool g]) 3).run Tryz.prog w = .ok (.bool d) w := fun _ => by kernel_rfl
/-- a line's words, as the library splits it -/
theorem split_is (s : ByteArray) (h : List UInt8) (ws : List (List UInt8)) (hsp : Hid (splitL 32 (bs s) = h :: ws)) (m : Int) (w : World) (hs : s.size ≤ 1000) (hm : w.cell? ⟨2, 0, none⟩ = some (.int .i64 m)) :
    Calls Tryz.prog 115 #[.string s, .string ⟨#[32]⟩] w fun e w' => ∃ g, e = .returned (.slice (some ⟨g, 0, none⟩) (ws.length + 1) (ws.length + 1)) ∧ w'.cell? ⟨g, 0, none⟩ = some (.string (tx h)) ∧ Hid (Rd encS w' (.slice (some ⟨g, 0, none⟩) (ws.length + 1) (ws.length + 1)) (tx h :: ws.map tx)) ∧ Below w.heap.size w w' := by
  refine (Tryz.strings_Split s ⟨#[32]⟩ m w (by omega) hm (by decide)).mono ?_
  rintro e w' ⟨rfl, rfl⟩
  have e1 := splitB_words s
  rw [hsp.out] at e1
  have e2 : Lib.splitB ⟨#[32]⟩ 0 (Lib.countB s ⟨#[32]⟩) s = tx h :: ws.map tx := by
    have := congrArg (List.map tx) e1
    rw [List.map_map, show tx ∘ bs = id from funext tx_bs, List.map_id] at this
    simpa using this
  have hl : Lib.countB s ⟨#[32]⟩ + 1 = ws.length + 1 := by
    have := Lib.splitB_all ⟨#[32]⟩ (by decide) 0 _ s rfl
    rw [e2] at this
    simp at this
    omega
  have hsl : ws.length + 1 ≤ 1001 := by
    have := split_len 32 (bs s)
    rw [hsp.out, bs_len] at this
    simp at this
    omega
  rw [hl, e2]
  have R : Rd encS (w.alloc (.cells ((tx h :: ws.map tx).map Value.string).toArray 9)) (.slice (some ⟨w.heap.size, 0, none⟩) (ws.length + 1) (ws.length + 1)) (tx h :: ws.map tx) := rd_lit (E := encS) w _ _ _ (by simp) (by omega) (by rw [rowS])
  refine ⟨_, rfl, ?_, R, (Below.refl _ w).alloc (Nat.le_refl _) _⟩
  obtain ⟨b, off, e3, -, h4⟩ := rdS_cell R 0 (by simp)
  simp only [Option.some.injEq, Addr.mk.injEq] at e3
  obtain ⟨rfl, rfl, -⟩ := e3
  exact h4
theorem with_cmd {a u : List UInt8} {s : ByteArray} {bh k : Nat} {c : Cm} (hb : a.length + 1 = bh) (hu : bs s = a ++ 10 :: u) :
    withF c s bh k = (fun r : Cm × Nat × Int => (r.1, (r.2.1 : Int), r.2.2)) (if u.length ≤ k then (Cm.zero, 0, 1) else if u[k]? ≠ some 10 then (Cm.zero, a.length + 1, 3) else (⟨c.V, c.N, c.F, c.U, tx (u.take k), c.C, c.D, c.Q⟩, a.length + 1 + k + 1, 0)) := by
  have hsl : s.size = a.length + 1 + u.length := by have := congrArg List.length hu; rw [bs_len] at this; simp at this; omega
  have hg : (bs s)[bh + k]? = u[k]? := by
    rw [hu, ← hb, List.getElem?_append_right (by omega), show a.length + 1 + k - a.length = k + 1 by omega, List.getElem?_cons_succ]
  have hd : (bs s).drop bh = u := by
    rw [hu, ← hb, List.drop_append, List.drop_eq_nil_of_le (by omega), show a.length + 1 - a.length = 1 by omega]
    rfl
  have hx : s.extract bh (bh + k) = tx (u.take k) := by
    rw [← tx_bs (s.extract bh (bh + k)), bs_extract, hd, show bh + k - bh = k by omega]
  unfold withF
  rw [hg, hx]
  by_cases h1 : u.length ≤ k
  · rw [if_pos (by omega), if_pos h1]
    rfl
  · rw [if_neg (by omega), if_neg h1]
    by_cases h2 : u[k]? ≠ some 10
    · rw [if_pos h2, if_pos h2, ← hb]
    · rw [if_neg h2, if_neg h2, ← hb]
      simp
theorem map_tx (ws : List (List UInt8)) : Hid ((ws.map tx).map bs = ws) := by
  unfold Hid
  rw [List.map_map, show bs ∘ tx = id from funext bs_tx, List.map_id]
theorem sizes {s : ByteArray} {h : List UInt8} {ws : List (List UInt8)} (hsp : Hid (splitL 32 (bs s) = h :: ws)) (hs : s.size ≤ 1000) : ∀ x ∈ ws.map tx, x.size ≤ 1048576 := fun x hx => by
  obtain ⟨y, hy, rfl⟩ := List.mem_map.1 hx
  have := split_mem 32 (bs s) y (by rw [hsp.out]; exact List.mem_cons_of_mem _ hy)
  rw [bs_len] at this
  rw [tx_size]
  omega
set_option maxRecDepth 100000 in
set_option maxHeartbeats 2000000 in
theorem firstCmd_any (s : ByteArray) (hs : s.size ≤ 1048576) (w : World) (en : EnvR w) (X : Cm × Int × Int) (hX : Hid (fcF (bs s) = X)) :
    Calls Tryz.prog 64 #[.string s] w fun e w' => PostA X w e w' := by
  have EN : Hid (EnvR w) := en
  clear en
  obtain ⟨mm, hmm0⟩ := EN.out.ml
  have hmm : Hid (w.cell? ⟨2, 0, none⟩ = some (.int .i64 mm)) := hmm0
  clear hmm0
  have m1 : Hid True := trivial
  obtain ⟨q, hq⟩ := hid_ex (s.extract 0 (min (s.size : Int) 101).toNat)
  have hqe : s.extract 0 (min (s.size : Int) 101).toNat = q := hq.out
  have hqb : Hid (bs q = (bs s).take 101) := by
    unfold Hid
    rw [← hq.out, bs_extract, List.drop_zero, Nat.sub_zero]
    by_cases h : s.size ≤ 101
    · rw [List.take_of_length_le (by rw [bs_len]; omega), List.take_of_length_le (by rw [bs_len]; omega)]
    · rw [show (min (s.size : Int) 101).toNat = 101 by omega]
  have hqs : q.size ≤ 101 ∧ q.size ≤ s.size ∧ (q.size ≤ 100 → q.size = s.size) := by
    have := congrArg List.length hqb.out
    rw [bs_len, List.length_take, bs_len] at this
    omega
  clear hq
  by_cases h10 : 10 ∈ bs q
  · obtain ⟨a, b, hab, hna, hcy⟩ : ∃ a b, bs q = a ++ 10 :: b ∧ 10 ∉ a ∧ Lib.cut (bs q) [10] = (a, b, true) := by
      rcases cut_line (bs q) with ⟨n, -⟩ | x
      · exact absurd h10 n
      · exact x
    have hcut : Hid (Lib.cut (bs q) [10] = (a, b, true)) := hcy
    obtain ⟨ln, hln⟩ := hid_ex (tx a)
    have ela : (⟨a.toArray⟩ : ByteArray) = ln := hln.out
    have hbl : Hid (bs ln = a) := by unfold Hid; rw [← hln.out, bs_tx]
    have hal : a.length ≤ 100 := by have := congrArg List.length hab; rw [bs_len] at this; simp at this; omega
    have hlsz : Hid (ln.size = a.length) := by unfold Hid; rw [← hln.out, tx_size]
    have hlns : ln.size ≤ 1000 := by have := hlsz.out; omega
    obtain ⟨u, hu⟩ : ∃ u, bs s = a ++ 10 :: u := ⟨b ++ (bs s).drop 101, by have := List.take_append_drop 101 (bs s); rw [← hqb.out, hab] at this; have e := this.symm; rw [List.append_assoc, List.cons_append] at e; exact e⟩
    have HU : Hid (bs s = a ++ 10 :: u) := hu
    have hsl : s.size = a.length + 1 + u.length := by have := congrArg List.length hu; rw [bs_len] at this; simp at this; omega
    have hXl : Hid (X = ((cmdLine a u).1, ((cmdLine a u).2.1 : Int), (cmdLine a u).2.2)) := by unfold Hid; rw [← hX.out, fcF, hu, cmd_line hna hal]
    obtain ⟨h, ws, hsp⟩ : ∃ h ws, splitL 32 (bs ln) = h :: ws := by
      cases e : splitL 32 (bs ln) with
      | nil => exact absurd e (splitL_ne _ _)
      | cons h ws => exact ⟨h, ws, rfl⟩
    have m2 : Hid True := trivial
    have HSP : Hid (splitL 32 (bs ln) = h :: ws) := hsp
    have hhd : (splitL 32 a).headD [] = h := by rw [← hbl.out, hsp]; rfl
    have hsa : splitL 32 a = h :: ws := by rw [← hbl.out, hsp]
    obtain ⟨bh, hbh⟩ := hid_ex (a.length + 1)
    have ebh : IntKind.i64.wrap ((ln.size : Int) + 1) = (bh : Int) := by rw [IntKind.wrap_i64]; have := hlsz.out; have := hbh.out; omega
    have ebh2 : Hid (((a.length + 1 : Nat) : Int) = (bh : Int)) := by have := hbh.out; unfold Hid; omega
    have hbs : bh ≤ s.size := by have := hbh.out; omega
    obtain ⟨v, hv0⟩ := hid_ex (verbOf h)
    have hv : Hid (verbOf (bs (tx h)) = v) := by unfold Hid; rw [bs_tx]; exact hv0.out
    have HSL : Hid (s.size = a.length + 1 + u.length) := hsl
    have HAL : Hid (a.length ≤ 100) := hal
    clear h10 hX hab hcy hu hsp hsl hal hna
    by_cases hz : v = 0
    · subst hz
      have hout : Hid (X = (Cm.zero, (bh : Int), 2)) := by unfold Hid; rw [hXl.out, cl_err hhd hv0.out, ← ebh2.out]
      clear hhd hsa
      go_enter Tryz.func64, Tryz.ntmps64
      go_wp2_with (first | (clear m1; refine wpList_alloc_v rfl 25 rfl _ zeroCm ?_; intro b2 w1 hb2 hw2 hB1 V2; have hz1 := hB1.size) | (go_at_call 114; refine (Tryz.strings_Cut q ⟨#[10]⟩ mm _ (by omega) (cell_grow hB1 (World.block_lt_of_cell? w _ hmm.out) hmm.out)).mono ?_; rintro er w3 ⟨rfl, nd, rfl⟩; rw [show Lib.cut q.data.toList (⟨#[10]⟩ : ByteArray).data.toList = _ from hcut.out]; dsimp only; have V2d : VBlk (w1.drewN nd) b2 25 [.int .i64 0, .string ⟨#[]⟩, .int .i64 0, .int .i64 0, .string ⟨#[]⟩, .int .i64 0, .int .i64 0, .bool false] := V2; have hBd : Below w.heap.size w (w1.drewN nd) := bdN hB1 nd; rw [ela]) | (go_at_call 115; refine (split_is ln h _ HSP mm _ hlns (cell_grow hBd (World.block_lt_of_cell? w _ hmm.out) hmm.out)).mono ?_; rintro er w4 ⟨g, rfl, c0, RR, hB4⟩; have V2s := vblk_grow V2d hB4; have hB4' : Below w.heap.size w w4 := hBd.trans (hB4.mono hBd.size)) | (go_at_call 116; refine (verbOf_is (tx h) _ hv _ (EN.out.ew.grow hB4')).mono ?_; rintro er wq ⟨rfl, hq⟩; subst wq) | (refine wpList_store_v rfl 25 _ _ rfl b2 [.int .i64 0, .string ⟨#[]⟩, .int .i64 0, .int .i64 0, .string ⟨#[]⟩, .int .i64 0, .int .i64 0, .bool false] rfl rfl sizeCm V2s rfl (oneCs 0 ⟨#[]⟩ 0 0 ⟨#[]⟩ 0 0 false) ?_; intro w9 hO9 V9) | (fail))
      exact row_ctt rfl rfl rfl rfl V9 Tryz.underlying25 sizeCm rfl ⟨by rw [hout.out]; rfl, hB4'.trans (hO9.2.2 _ hb2)⟩
    · have hvz : (v == 0) = false := by simpa using hz
      obtain ⟨v0, v1, hvw⟩ := verbOf_pos (w := h) (by rw [hv0.out]; exact hz)
      rw [hv0.out] at v0 v1 hvw
      have hll : Hid (lineL (verbOf h) (splitL 32 a) = if headOk v ws = true then some (headC v ws, (hS v ws).1.toNat) else none) := by
        unfold Hid
        rw [hsa, hv0.out]
        have := head_line v0 v1 ws
        rw [hvw] at this
        exact this
      have hvn : verbOf h ≠ 0 := by rw [hv0.out]; exact hz
      obtain ⟨N, F, U, C, D, Q, hhc⟩ : ∃ N F U C D Q, Hid (headC v ws = ⟨v, N, F, U, emp, C, D, Q⟩) := ⟨_, _, _, _, _, _, (rfl : headC v ws = _)⟩
      clear hvw
      cases hoe : headOk v ws with
      | false =>
        have hho : Hid (headOk v ws = false) := hoe
        obtain ⟨k, hhk⟩ := hid_ex (hS v ws).1
        have hout : Hid (X = (Cm.zero, (bh : Int), 3)) := by unfold Hid; rw [hXl.out, cl_bad hhd hvn (by rw [hll.out, hoe]; rfl), ← ebh2.out]
        clear hoe hhd hsa hvn hz
        rcases ws with _ | ⟨y2, ws2⟩
        · have R1 : ∀ (w' : World) (g : Nat), Rd encS w' (.slice (some ⟨g, 0, none⟩) 1 1) (tx h :: [].map tx) → Hid (Rd encS w' (.slice (some ⟨g, 0, none⟩) 0 0) ([].map tx)) := fun w' g r => by
            rcases r.rest 1 (by simp) with ⟨hlt, -⟩ | ⟨-, -, -, R2⟩
            · exact absurd hlt (by decide)
            · exact R2
          go_enter Tryz.func64, Tryz.ntmps64
          go_wp2_with (first | (clear m1; refine wpList_alloc_v rfl 25 rfl _ zeroCm ?_; intro b2 w1 hb2 hw2 hB1 V2; have hz1 := hB1.size) | (go_at_call 114; refine (Tryz.strings_Cut q ⟨#[10]⟩ mm _ (by omega) (cell_grow hB1 (World.block_lt_of_cell? w _ hmm.out) hmm.out)).mono ?_; rintro er w3 ⟨rfl, nd, rfl⟩; rw [show Lib.cut q.data.toList (⟨#[10]⟩ : ByteArray).data.toList = _ from hcut.out]; dsimp only; have V2d : VBlk (w1.drewN nd) b2 25 [.int .i64 0, .string ⟨#[]⟩, .int .i64 0, .int .i64 0, .string ⟨#[]⟩, .int .i64 0, .int .i64 0, .bool false] := V2; have hBd : Below w.heap.size w (w1.drewN nd) := bdN hB1 nd; rw [ela]) | (go_at_call 115; refine (split_is ln h _ HSP mm _ hlns (cell_grow hBd (World.block_lt_of_cell? w _ hmm.out) hmm.out)).mono ?_; rintro er w4 ⟨g, rfl, c0, RR, hB4⟩; have V2s := vblk_grow V2d hB4; have hB4' : Below w.heap.size w w4 := hBd.trans (hB4.mono hBd.size)) | (go_at_call 116; refine (verbOf_is (tx h) _ hv _ (EN.out.ew.grow hB4')).mono ?_; rintro er wq ⟨rfl, hq⟩; subst wq; have R2 := R1 _ _ RR.out) | (go_at_call 117; refine (headOf_is v v0 v1 ([].map tx) [] (map_tx _) N F U C D Q _ _ hhc hhk hho _ _ (EN.out.grow hB4') R2.out (sizes HSP hlns)).mono ?_; rintro er w5 ⟨rfl, hB5⟩; have V2h := vblk_grow V2s hB5; have hB5' : Below w.heap.size w w5 := hB4'.trans (hB5.mono hB4'.size)) | (clear m2; refine wpList_alloc_v rfl 25 rfl _ zeroCm ?_; intro bc w55 hbc hwc hB55 Vc; have V2i := vblk_grow V2h hB55; have hz55 := hB55.size; have hB55' : Below w.heap.size w w55 := hB5'.trans (hB55.mono hB5'.size); have hlc : b2 ≠ bc := by have := V2h.lt; omega) | (refine wpList_store_v rfl 25 _ _ rfl bc [.int .i64 v, .string N, .int .i64 F, .int .i64 U, .string emp, .int .i64 C, .int .i64 D, .bool Q] rfl rfl sizeCm Vc rfl (oneCs v N F U emp C D Q) ?_; intro w56 hO56 Vd; have V2j := vblk_only V2i hO56 hlc; have hB56' : Below w.heap.size w w56 := hB55'.trans (hO56.2.2 _ (by have := hB5'.size; omega))) | (refine wpList_store_v rfl 25 _ _ rfl b2 [.int .i64 0, .string ⟨#[]⟩, .int .i64 0, .int .i64 0, .string ⟨#[]⟩, .int .i64 0, .int .i64 0, .bool false] rfl rfl sizeCm V2j rfl (oneCs 0 ⟨#[]⟩ 0 0 ⟨#[]⟩ 0 0 false) ?_; intro w9 hO9 V9) | (fail))
          exact row_ctt rfl rfl rfl rfl V9 Tryz.underlying25 sizeCm rfl ⟨by rw [hout.out]; rfl, hB56'.trans (hO9.2.2 _ hb2)⟩
        · have hkk : ¬ ws2.length + 1 + 1 = 1 := by omega
          have R1 : ∀ (w' : World) (g : Nat), Rd encS w' (.slice (some ⟨g, 0, none⟩) (ws2.length + 1 + 1) (ws2.length + 1 + 1)) (tx h :: (y2 :: ws2).map tx) → Hid (Rd encS w' (.slice (some ⟨g, 1, none⟩) (ws2.length + 1) (ws2.length + 1)) ((y2 :: ws2).map tx)) := fun w' g r => by
            rcases r.rest 1 (by simp) with ⟨-, R2⟩ | ⟨hk, -⟩
            · have := R2.out
              rw [show 0 + 1 * encS.k = 1 from rfl] at this
              simpa [Hid] using this
            · exact absurd hk (by omega)
          have hi0 : (0 : Int) < ((ws2.length + 1 + 1 : Nat) : Int) := by omega
          have hi1 : (1 : Int) ≤ ((ws2.length + 1 + 1 : Nat) : Int) := by omega
          go_enter Tryz.func64, Tryz.ntmps64
          go_wp2_with (first | (clear m1; refine wpList_alloc_v rfl 25 rfl _ zeroCm ?_; intro b2 w1 hb2 hw2 hB1 V2; have hz1 := hB1.size) | (go_at_call 114; refine (Tryz.strings_Cut q ⟨#[10]⟩ mm _ (by omega) (cell_grow hB1 (World.block_lt_of_cell? w _ hmm.out) hmm.out)).mono ?_; rintro er w3 ⟨rfl, nd, rfl⟩; rw [show Lib.cut q.data.toList (⟨#[10]⟩ : ByteArray).data.toList = _ from hcut.out]; dsimp only; have V2d : VBlk (w1.drewN nd) b2 25 [.int .i64 0, .string ⟨#[]⟩, .int .i64 0, .int .i64 0, .string ⟨#[]⟩, .int .i64 0, .int .i64 0, .bool false] := V2; have hBd : Below w.heap.size w (w1.drewN nd) := bdN hB1 nd; rw [ela]) | (go_at_call 115; refine (split_is ln h _ HSP mm _ hlns (cell_grow hBd (World.block_lt_of_cell? w _ hmm.out) hmm.out)).mono ?_; rintro er w4 ⟨g, rfl, c0, RR, hB4⟩; have V2s := vblk_grow V2d hB4; have hB4' : Below w.heap.size w w4 := hBd.trans (hB4.mono hBd.size)) | (go_at_call 116; refine (verbOf_is (tx h) _ hv _ (EN.out.ew.grow hB4')).mono ?_; rintro er wq ⟨rfl, hq⟩; subst wq; have R2 := R1 _ _ RR.out) | (go_at_call 117; refine (headOf_is v v0 v1 ((y2 :: ws2).map tx) (y2 :: ws2) (map_tx _) N F U C D Q _ _ hhc hhk hho _ _ (EN.out.grow hB4') R2.out (sizes HSP hlns)).mono ?_; rintro er w5 ⟨rfl, hB5⟩; have V2h := vblk_grow V2s hB5; have hB5' : Below w.heap.size w w5 := hB4'.trans (hB5.mono hB4'.size)) | (clear m2; refine wpList_alloc_v rfl 25 rfl _ zeroCm ?_; intro bc w55 hbc hwc hB55 Vc; have V2i := vblk_grow V2h hB55; have hz55 := hB55.size; have hB55' : Below w.heap.size w w55 := hB5'.trans (hB55.mono hB5'.size); have hlc : b2 ≠ bc := by have := V2h.lt; omega) | (refine wpList_store_v rfl 25 _ _ rfl bc [.int .i64 v, .string N, .int .i64 F, .int .i64 U, .string emp, .int .i64 C, .int .i64 D, .bool Q] rfl rfl sizeCm Vc rfl (oneCs v N F U emp C D Q) ?_; intro w56 hO56 Vd; have V2j := vblk_only V2i hO56 hlc; have hB56' : Below w.heap.size w w56 := hB55'.trans (hO56.2.2 _ (by have := hB5'.size; omega))) | (refine wpList_store_v rfl 25 _ _ rfl b2 [.int .i64 0, .string ⟨#[]⟩, .int .i64 0, .int .i64 0, .string ⟨#[]⟩, .int .i64 0, .int .i64 0, .bool false] rfl rfl sizeCm V2j rfl (oneCs 0 ⟨#[]⟩ 0 0 ⟨#[]⟩ 0 0 false) ?_; intro w9 hO9 V9) | (fail))
          exact row_ctt rfl rfl rfl rfl V9 Tryz.underlying25 sizeCm rfl ⟨by rw [hout.out]; rfl, hB56'.trans (hO9.2.2 _ hb2)⟩
      | true =>
        have hho : Hid (headOk v ws = true) := hoe
        obtain ⟨q1, q2, ok, s0, s1⟩ := headOk_iff.1 hoe
        obtain ⟨k, hk0⟩ : ∃ k : Nat, (hS v ws).1 = k := ⟨(hS v ws).1.toNat, by omega⟩
        have hhk : Hid ((hS v ws).1 = (k : Int)) := hk0
        have hk64 : k ≤ 64 := by omega
        have hNs : N.size ≤ 1048576 := by
          by_cases e13 : v = 13
          · have := ok.n0
            rw [hhc.out] at this
            have := this e13
            rw [show N = emp from this]
            decide
          · have := ok.nm
            rw [hhc.out] at this
            have := nameB_size (this e13)
            dsimp only at this
            omega
        have hcs := cl_some (u := u) hhd hvn (c := ⟨v, N, F, U, emp, C, D, Q⟩) (k := k) (by rw [hll.out, hoe, hhc.out, hk0]; rfl)
        have HCS : Hid (_ = _) := hcs
        clear hcs hoe hhd hsa hvn hz q1 q2 ok s0 s1 hk0
        cases hse : sized v with
        | false =>
          have hsz : Hid (sized v = false) := hse
          have hout : Hid (X = (⟨v, N, F, U, emp, C, D, Q⟩, (bh : Int), 0)) := by unfold Hid; rw [hXl.out, HCS.out, if_pos hse, ← ebh2.out]
          clear hse
          rcases ws with _ | ⟨y2, ws2⟩
          · have R1 : ∀ (w' : World) (g : Nat), Rd encS w' (.slice (some ⟨g, 0, none⟩) 1 1) (tx h :: [].map tx) → Hid (Rd encS w' (.slice (some ⟨g, 0, none⟩) 0 0) ([].map tx)) := fun w' g r => by
              rcases r.rest 1 (by simp) with ⟨hlt, -⟩ | ⟨-, -, -, R2⟩
              · exact absurd hlt (by decide)
              · exact R2
            go_enter Tryz.func64, Tryz.ntmps64
            go_wp2_with (first | (clear m1; refine wpList_alloc_v rfl 25 rfl _ zeroCm ?_; intro b2 w1 hb2 hw2 hB1 V2; have hz1 := hB1.size) | (go_at_call 114; refine (Tryz.strings_Cut q ⟨#[10]⟩ mm _ (by omega) (cell_grow hB1 (World.block_lt_of_cell? w _ hmm.out) hmm.out)).mono ?_; rintro er w3 ⟨rfl, nd, rfl⟩; rw [show Lib.cut q.data.toList (⟨#[10]⟩ : ByteArray).data.toList = _ from hcut.out]; dsimp only; have V2d : VBlk (w1.drewN nd) b2 25 [.int .i64 0, .string ⟨#[]⟩, .int .i64 0, .int .i64 0, .string ⟨#[]⟩, .int .i64 0, .int .i64 0, .bool false] := V2; have hBd : Below w.heap.size w (w1.drewN nd) := bdN hB1 nd; rw [ela]) | (go_at_call 115; refine (split_is ln h _ HSP mm _ hlns (cell_grow hBd (World.block_lt_of_cell? w _ hmm.out) hmm.out)).mono ?_; rintro er w4 ⟨g, rfl, c0, RR, hB4⟩; have V2s := vblk_grow V2d hB4; have hB4' : Below w.heap.size w w4 := hBd.trans (hB4.mono hBd.size)) | (go_at_call 116; refine (verbOf_is (tx h) _ hv _ (EN.out.ew.grow hB4')).mono ?_; rintro er wq ⟨rfl, hq⟩; subst wq; have R2 := R1 _ _ RR.out) | (go_at_call 117; refine (headOf_is v v0 v1 ([].map tx) [] (map_tx _) N F U C D Q _ _ hhc hhk hho _ _ (EN.out.grow hB4') R2.out (sizes HSP hlns)).mono ?_; rintro er w5 ⟨rfl, hB5⟩; have V2h := vblk_grow V2s hB5; have hB5' : Below w.heap.size w w5 := hB4'.trans (hB5.mono hB4'.size)) | (clear m2; refine wpList_alloc_v rfl 25 rfl _ zeroCm ?_; intro bc w55 hbc hwc hB55 Vc; have V2i := vblk_grow V2h hB55; have hz55 := hB55.size; have hB55' : Below w.heap.size w w55 := hB5'.trans (hB55.mono hB5'.size); have hlc : b2 ≠ bc := by have := V2h.lt; omega) | (refine wpList_store_v rfl 25 _ _ rfl bc [.int .i64 v, .string N, .int .i64 F, .int .i64 U, .string emp, .int .i64 C, .int .i64 D, .bool Q] rfl rfl sizeCm Vc rfl (oneCs v N F U emp C D Q) ?_; intro w56 hO56 Vd; have V2j := vblk_only V2i hO56 hlc; have hB56' : Below w.heap.size w w56 := hB55'.trans (hO56.2.2 _ (by have := hB5'.size; omega))) | (go_at_call 55; refine (parts_is v v0 v1 _ hsz _).mono ?_; rintro er w6 ⟨rfl, hB6⟩; have V2p := vblk_grow V2j hB6; have hB6' : Below w.heap.size w w6 := hB56'.trans (hB6.mono hB56'.size); have hfp := field_parts (pN v) (full v) (pU v) false (pC v) (stepV v) (pQ v)) | (refine wpList_load_r rfl 25 _ rfl bc 0 [.int .i64 v, .string N, .int .i64 F, .int .i64 U, .string emp, .int .i64 C, .int .i64 D, .bool Q] rfl _ Tryz.underlying25 rfl sizeCm (vblk_grow Vd hB6).range ?_) | (go_at_call 118; refine (cutLoose_any v N F U emp C D Q hNs (by decide) _).mono ?_; rintro er w7 ⟨rfl, hB7⟩; have V2q := vblk_grow V2p hB7; have hB7' : Below w.heap.size w w7 := hB6'.trans (hB7.mono hB6'.size)) | (refine wpList_store_v rfl 25 _ _ rfl b2 [.int .i64 v, .string N, .int .i64 F, .int .i64 U, .string emp, .int .i64 C, .int .i64 D, .bool Q] rfl rfl sizeCm V2q rfl (oneCs v N F U emp C D Q) ?_; intro w9 hO9 V9) | (fail))
            exact row_ctt rfl rfl rfl rfl V9 Tryz.underlying25 sizeCm rfl ⟨by rw [hout.out]; rfl, hB7'.trans (hO9.2.2 _ hb2)⟩
          · have hkk : ¬ ws2.length + 1 + 1 = 1 := by omega
            have R1 : ∀ (w' : World) (g : Nat), Rd encS w' (.slice (some ⟨g, 0, none⟩) (ws2.length + 1 + 1) (ws2.length + 1 + 1)) (tx h :: (y2 :: ws2).map tx) → Hid (Rd encS w' (.slice (some ⟨g, 1, none⟩) (ws2.length + 1) (ws2.length + 1)) ((y2 :: ws2).map tx)) := fun w' g r => by
              rcases r.rest 1 (by simp) with ⟨-, R2⟩ | ⟨hk, -⟩
              · have := R2.out
                rw [show 0 + 1 * encS.k = 1 from rfl] at this
                simpa [Hid] using this
              · exact absurd hk (by omega)
            have hi0 : (0 : Int) < ((ws2.length + 1 + 1 : Nat) : Int) := by omega
            have hi1 : (1 : Int) ≤ ((ws2.length + 1 + 1 : Nat) : Int) := by omega
            go_enter Tryz.func64, Tryz.ntmps64
            go_wp2_with (first | (clear m1; refine wpList_alloc_v rfl 25 rfl _ zeroCm ?_; intro b2 w1 hb2 hw2 hB1 V2; have hz1 := hB1.size) | (go_at_call 114; refine (Tryz.strings_Cut q ⟨#[10]⟩ mm _ (by omega) (cell_grow hB1 (World.block_lt_of_cell? w _ hmm.out) hmm.out)).mono ?_; rintro er w3 ⟨rfl, nd, rfl⟩; rw [show Lib.cut q.data.toList (⟨#[10]⟩ : ByteArray).data.toList = _ from hcut.out]; dsimp only; have V2d : VBlk (w1.drewN nd) b2 25 [.int .i64 0, .string ⟨#[]⟩, .int .i64 0, .int .i64 0, .string ⟨#[]⟩, .int .i64 0, .int .i64 0, .bool false] := V2; have hBd : Below w.heap.size w (w1.drewN nd) := bdN hB1 nd; rw [ela]) | (go_at_call 115; refine (split_is ln h _ HSP mm _ hlns (cell_grow hBd (World.block_lt_of_cell? w _ hmm.out) hmm.out)).mono ?_; rintro er w4 ⟨g, rfl, c0, RR, hB4⟩; have V2s := vblk_grow V2d hB4; have hB4' : Below w.heap.size w w4 := hBd.trans (hB4.mono hBd.size)) | (go_at_call 116; refine (verbOf_is (tx h) _ hv _ (EN.out.ew.grow hB4')).mono ?_; rintro er wq ⟨rfl, hq⟩; subst wq; have R2 := R1 _ _ RR.out) | (go_at_call 117; refine (headOf_is v v0 v1 ((y2 :: ws2).map tx) (y2 :: ws2) (map_tx _) N F U C D Q _ _ hhc hhk hho _ _ (EN.out.grow hB4') R2.out (sizes HSP hlns)).mono ?_; rintro er w5 ⟨rfl, hB5⟩; have V2h := vblk_grow V2s hB5; have hB5' : Below w.heap.size w w5 := hB4'.trans (hB5.mono hB4'.size)) | (clear m2; refine wpList_alloc_v rfl 25 rfl _ zeroCm ?_; intro bc w55 hbc hwc hB55 Vc; have V2i := vblk_grow V2h hB55; have hz55 := hB55.size; have hB55' : Below w.heap.size w w55 := hB5'.trans (hB55.mono hB5'.size); have hlc : b2 ≠ bc := by have := V2h.lt; omega) | (refine wpList_store_v rfl 25 _ _ rfl bc [.int .i64 v, .string N, .int .i64 F, .int .i64 U, .string emp, .int .i64 C, .int .i64 D, .bool Q] rfl rfl sizeCm Vc rfl (oneCs v N F U emp C D Q) ?_; intro w56 hO56 Vd; have V2j := vblk_only V2i hO56 hlc; have hB56' : Below w.heap.size w w56 := hB55'.trans (hO56.2.2 _ (by have := hB5'.size; omega))) | (go_at_call 55; refine (parts_is v v0 v1 _ hsz _).mono ?_; rintro er w6 ⟨rfl, hB6⟩; have V2p := vblk_grow V2j hB6; have hB6' : Below w.heap.size w w6 := hB56'.trans (hB6.mono hB56'.size); have hfp := field_parts (pN v) (full v) (pU v) false (pC v) (stepV v) (pQ v)) | (refine wpList_load_r rfl 25 _ rfl bc 0 [.int .i64 v, .string N, .int .i64 F, .int .i64 U, .string emp, .int .i64 C, .int .i64 D, .bool Q] rfl _ Tryz.underlying25 rfl sizeCm (vblk_grow Vd hB6).range ?_) | (go_at_call 118; refine (cutLoose_any v N F U emp C D Q hNs (by decide) _).mono ?_; rintro er w7 ⟨rfl, hB7⟩; have V2q := vblk_grow V2p hB7; have hB7' : Below w.heap.size w w7 := hB6'.trans (hB7.mono hB6'.size)) | (refine wpList_store_v rfl 25 _ _ rfl b2 [.int .i64 v, .string N, .int .i64 F, .int .i64 U, .string emp, .int .i64 C, .int .i64 D, .bool Q] rfl rfl sizeCm V2q rfl (oneCs v N F U emp C D Q) ?_; intro w9 hO9 V9) | (fail))
            exact row_ctt rfl rfl rfl rfl V9 Tryz.underlying25 sizeCm rfl ⟨by rw [hout.out]; rfl, hB7'.trans (hO9.2.2 _ hb2)⟩
        | true =>
          have hsz : Hid (sized v = true) := hse
          have hXw : Hid (withF ⟨v, N, F, U, emp, C, D, Q⟩ s bh k = X) := by
            unfold Hid
            rw [hXl.out, HCS.out, if_neg (by show ¬ sized v = false; rw [hse]; decide)]
            exact with_cmd hbh.out HU.out
          clear hse
          obtain ⟨⟨V', N', F', U', B', C', D', Q'⟩, T', K'⟩ := X
          rcases ws with _ | ⟨y2, ws2⟩
          · have R1 : ∀ (w' : World) (g : Nat), Rd encS w' (.slice (some ⟨g, 0, none⟩) 1 1) (tx h :: [].map tx) → Hid (Rd encS w' (.slice (some ⟨g, 0, none⟩) 0 0) ([].map tx)) := fun w' g r => by
              rcases r.rest 1 (by simp) with ⟨hlt, -⟩ | ⟨-, -, -, R2⟩
              · exact absurd hlt (by decide)
              · exact R2
            go_enter Tryz.func64, Tryz.ntmps64
            go_wp2_with (first | (clear m1; refine wpList_alloc_v rfl 25 rfl _ zeroCm ?_; intro b2 w1 hb2 hw2 hB1 V2; have hz1 := hB1.size) | (go_at_call 114; refine (Tryz.strings_Cut q ⟨#[10]⟩ mm _ (by omega) (cell_grow hB1 (World.block_lt_of_cell? w _ hmm.out) hmm.out)).mono ?_; rintro er w3 ⟨rfl, nd, rfl⟩; rw [show Lib.cut q.data.toList (⟨#[10]⟩ : ByteArray).data.toList = _ from hcut.out]; dsimp only; have V2d : VBlk (w1.drewN nd) b2 25 [.int .i64 0, .string ⟨#[]⟩, .int .i64 0, .int .i64 0, .string ⟨#[]⟩, .int .i64 0, .int .i64 0, .bool false] := V2; have hBd : Below w.heap.size w (w1.drewN nd) := bdN hB1 nd; rw [ela]) | (go_at_call 115; refine (split_is ln h _ HSP mm _ hlns (cell_grow hBd (World.block_lt_of_cell? w _ hmm.out) hmm.out)).mono ?_; rintro er w4 ⟨g, rfl, c0, RR, hB4⟩; have V2s := vblk_grow V2d hB4; have hB4' : Below w.heap.size w w4 := hBd.trans (hB4.mono hBd.size)) | (go_at_call 116; refine (verbOf_is (tx h) _ hv _ (EN.out.ew.grow hB4')).mono ?_; rintro er wq ⟨rfl, hq⟩; subst wq; have R2 := R1 _ _ RR.out) | (go_at_call 117; refine (headOf_is v v0 v1 ([].map tx) [] (map_tx _) N F U C D Q _ _ hhc hhk hho _ _ (EN.out.grow hB4') R2.out (sizes HSP hlns)).mono ?_; rintro er w5 ⟨rfl, hB5⟩; have V2h := vblk_grow V2s hB5; have hB5' : Below w.heap.size w w5 := hB4'.trans (hB5.mono hB4'.size)) | (clear m2; refine wpList_alloc_v rfl 25 rfl _ zeroCm ?_; intro bc w55 hbc hwc hB55 Vc; have V2i := vblk_grow V2h hB55; have hz55 := hB55.size; have hB55' : Below w.heap.size w w55 := hB5'.trans (hB55.mono hB5'.size); have hlc : b2 ≠ bc := by have := V2h.lt; omega) | (refine wpList_store_v rfl 25 _ _ rfl bc [.int .i64 v, .string N, .int .i64 F, .int .i64 U, .string emp, .int .i64 C, .int .i64 D, .bool Q] rfl rfl sizeCm Vc rfl (oneCs v N F U emp C D Q) ?_; intro w56 hO56 Vd; have V2j := vblk_only V2i hO56 hlc; have hB56' : Below w.heap.size w w56 := hB55'.trans (hO56.2.2 _ (by have := hB5'.size; omega))) | (go_at_call 55; refine (parts_is v v0 v1 _ hsz _).mono ?_; rintro er w6 ⟨rfl, hB6⟩; have V2p := vblk_grow V2j hB6; have hB6' : Below w.heap.size w w6 := hB56'.trans (hB6.mono hB56'.size); have hfp := field_parts (pN v) (full v) (pU v) true (pC v) (stepV v) (pQ v)) | (refine wpList_load_r rfl 25 _ rfl bc 0 [.int .i64 v, .string N, .int .i64 F, .int .i64 U, .string emp, .int .i64 C, .int .i64 D, .bool Q] rfl _ Tryz.underlying25 rfl sizeCm (vblk_grow Vd hB6).range ?_) | (go_at_call 119; refine (withBytes_any v N F U C D Q s bh k hNs hs hbs hk64 _ _ hXw).mono ?_; rintro er w7 ⟨rfl, hB7⟩; have V2q := vblk_grow V2p hB7; have hB7' : Below w.heap.size w w7 := hB6'.trans (hB7.mono hB6'.size); dsimp only [csCm]) | (refine wpList_store_v rfl 25 _ _ rfl b2 [.int .i64 V', .string N', .int .i64 F', .int .i64 U', .string B', .int .i64 C', .int .i64 D', .bool Q'] rfl rfl sizeCm V2q rfl (oneCs V' N' F' U' B' C' D' Q') ?_; intro w9 hO9 V9) | (fail))
            exact row_ctt rfl rfl rfl rfl V9 Tryz.underlying25 sizeCm rfl ⟨rfl, hB7'.trans (hO9.2.2 _ hb2)⟩
          · have hkk : ¬ ws2.length + 1 + 1 = 1 := by omega
            have R1 : ∀ (w' : World) (g : Nat), Rd encS w' (.slice (some ⟨g, 0, none⟩) (ws2.length + 1 + 1) (ws2.length + 1 + 1)) (tx h :: (y2 :: ws2).map tx) → Hid (Rd encS w' (.slice (some ⟨g, 1, none⟩) (ws2.length + 1) (ws2.length + 1)) ((y2 :: ws2).map tx)) := fun w' g r => by
              rcases r.rest 1 (by simp) with ⟨-, R2⟩ | ⟨hk, -⟩
              · have := R2.out
                rw [show 0 + 1 * encS.k = 1 from rfl] at this
                simpa [Hid] using this
              · exact absurd hk (by omega)
            have hi0 : (0 : Int) < ((ws2.length + 1 + 1 : Nat) : Int) := by omega
            have hi1 : (1 : Int) ≤ ((ws2.length + 1 + 1 : Nat) : Int) := by omega
            go_enter Tryz.func64, Tryz.ntmps64
            go_wp2_with (first | (clear m1; refine wpList_alloc_v rfl 25 rfl _ zeroCm ?_; intro b2 w1 hb2 hw2 hB1 V2; have hz1 := hB1.size) | (go_at_call 114; refine (Tryz.strings_Cut q ⟨#[10]⟩ mm _ (by omega) (cell_grow hB1 (World.block_lt_of_cell? w _ hmm.out) hmm.out)).mono ?_; rintro er w3 ⟨rfl, nd, rfl⟩; rw [show Lib.cut q.data.toList (⟨#[10]⟩ : ByteArray).data.toList = _ from hcut.out]; dsimp only; have V2d : VBlk (w1.drewN nd) b2 25 [.int .i64 0, .string ⟨#[]⟩, .int .i64 0, .int .i64 0, .string ⟨#[]⟩, .int .i64 0, .int .i64 0, .bool false] := V2; have hBd : Below w.heap.size w (w1.drewN nd) := bdN hB1 nd; rw [ela]) | (go_at_call 115; refine (split_is ln h _ HSP mm _ hlns (cell_grow hBd (World.block_lt_of_cell? w _ hmm.out) hmm.out)).mono ?_; rintro er w4 ⟨g, rfl, c0, RR, hB4⟩; have V2s := vblk_grow V2d hB4; have hB4' : Below w.heap.size w w4 := hBd.trans (hB4.mono hBd.size)) | (go_at_call 116; refine (verbOf_is (tx h) _ hv _ (EN.out.ew.grow hB4')).mono ?_; rintro er wq ⟨rfl, hq⟩; subst wq; have R2 := R1 _ _ RR.out) | (go_at_call 117; refine (headOf_is v v0 v1 ((y2 :: ws2).map tx) (y2 :: ws2) (map_tx _) N F U C D Q _ _ hhc hhk hho _ _ (EN.out.grow hB4') R2.out (sizes HSP hlns)).mono ?_; rintro er w5 ⟨rfl, hB5⟩; have V2h := vblk_grow V2s hB5; have hB5' : Below w.heap.size w w5 := hB4'.trans (hB5.mono hB4'.size)) | (clear m2; refine wpList_alloc_v rfl 25 rfl _ zeroCm ?_; intro bc w55 hbc hwc hB55 Vc; have V2i := vblk_grow V2h hB55; have hz55 := hB55.size; have hB55' : Below w.heap.size w w55 := hB5'.trans (hB55.mono hB5'.size); have hlc : b2 ≠ bc := by have := V2h.lt; omega) | (refine wpList_store_v rfl 25 _ _ rfl bc [.int .i64 v, .string N, .int .i64 F, .int .i64 U, .string emp, .int .i64 C, .int .i64 D, .bool Q] rfl rfl sizeCm Vc rfl (oneCs v N F U emp C D Q) ?_; intro w56 hO56 Vd; have V2j := vblk_only V2i hO56 hlc; have hB56' : Below w.heap.size w w56 := hB55'.trans (hO56.2.2 _ (by have := hB5'.size; omega))) | (go_at_call 55; refine (parts_is v v0 v1 _ hsz _).mono ?_; rintro er w6 ⟨rfl, hB6⟩; have V2p := vblk_grow V2j hB6; have hB6' : Below w.heap.size w w6 := hB56'.trans (hB6.mono hB56'.size); have hfp := field_parts (pN v) (full v) (pU v) true (pC v) (stepV v) (pQ v)) | (refine wpList_load_r rfl 25 _ rfl bc 0 [.int .i64 v, .string N, .int .i64 F, .int .i64 U, .string emp, .int .i64 C, .int .i64 D, .bool Q] rfl _ Tryz.underlying25 rfl sizeCm (vblk_grow Vd hB6).range ?_) | (go_at_call 119; refine (withBytes_any v N F U C D Q s bh k hNs hs hbs hk64 _ _ hXw).mono ?_; rintro er w7 ⟨rfl, hB7⟩; have V2q := vblk_grow V2p hB7; have hB7' : Below w.heap.size w w7 := hB6'.trans (hB7.mono hB6'.size); dsimp only [csCm]) | (refine wpList_store_v rfl 25 _ _ rfl b2 [.int .i64 V', .string N', .int .i64 F', .int .i64 U', .string B', .int .i64 C', .int .i64 D', .bool Q'] rfl rfl sizeCm V2q rfl (oneCs V' N' F' U' B' C' D' Q') ?_; intro w9 hO9 V9) | (fail))
            exact row_ctt rfl rfl rfl rfl V9 Tryz.underlying25 sizeCm rfl ⟨rfl, hB7'.trans (hO9.2.2 _ hb2)⟩
  · have hcut : Hid (Lib.cut (bs q) [10] = (bs q, [], false)) := cut_no h10
    have eqq : (⟨(bs q).toArray⟩ : ByteArray) = q := tx_bs q
    by_cases hle : (q.size : Int) ≤ 100
    · have hout : Hid (X = (Cm.zero, 0, 1)) := by
        unfold Hid
        have hall : bs q = bs s := by rw [hqb.out, List.take_of_length_le (by rw [bs_len]; have := hqs.2.2 (by omega); omega)]
        rw [← hX.out, fcF, line_more (by rw [← hall]; exact h10) (by rw [← hall, bs_len]; omega)]
        rfl
      clear h10 hX
      go_enter Tryz.func64, Tryz.ntmps64
      go_wp2_with (first | (clear m1; refine wpList_alloc_v rfl 25 rfl _ zeroCm ?_; intro b2 w1 hb2 hw2 hB1 V2; have hz1 := hB1.size) | (go_at_call 114; refine (Tryz.strings_Cut q ⟨#[10]⟩ mm _ (by omega) (cell_grow hB1 (World.block_lt_of_cell? w _ hmm.out) hmm.out)).mono ?_; rintro er w3 ⟨rfl, nd, rfl⟩; rw [show Lib.cut q.data.toList (⟨#[10]⟩ : ByteArray).data.toList = _ from hcut.out]; dsimp only; have V2d : VBlk (w1.drewN nd) b2 25 [.int .i64 0, .string ⟨#[]⟩, .int .i64 0, .int .i64 0, .string ⟨#[]⟩, .int .i64 0, .int .i64 0, .bool false] := V2; have hBd : Below w.heap.size w (w1.drewN nd) := bdN hB1 nd; rw [eqq]) | (refine wpList_store_v rfl 25 _ _ rfl b2 [.int .i64 0, .string ⟨#[]⟩, .int .i64 0, .int .i64 0, .string ⟨#[]⟩, .int .i64 0, .int .i64 0, .bool false] rfl rfl sizeCm V2d rfl (oneCs 0 ⟨#[]⟩ 0 0 ⟨#[]⟩ 0 0 false) ?_; intro w9 hO9 V9) | (fail))
      exact row_ctt rfl rfl rfl rfl V9 Tryz.underlying25 sizeCm rfl ⟨by rw [hout.out]; rfl, hBd.trans (hO9.2.2 _ hb2)⟩
    · have hout : Hid (X = (Cm.zero, 101, 3)) := by
        unfold Hid
        rw [← hX.out, fcF, line_long (by rw [← hqb.out]; exact h10) (by rw [bs_len]; omega)]
        rfl
      clear h10 hX
      go_enter Tryz.func64, Tryz.ntmps64
      go_wp2_with (first | (clear m1; refine wpList_alloc_v rfl 25 rfl _ zeroCm ?_; intro b2 w1 hb2 hw2 hB1 V2; have hz1 := hB1.size) | (go_at_call 114; refine (Tryz.strings_Cut q ⟨#[10]⟩ mm _ (by omega) (cell_grow hB1 (World.block_lt_of_cell? w _ hmm.out) hmm.out)).mono ?_; rintro er w3 ⟨rfl, nd, rfl⟩; rw [show Lib.cut q.data.toList (⟨#[10]⟩ : ByteArray).data.toList = _ from hcut.out]; dsimp only; have V2d : VBlk (w1.drewN nd) b2 25 [.int .i64 0, .string ⟨#[]⟩, .int .i64 0, .int .i64 0, .string ⟨#[]⟩, .int .i64 0, .int .i64 0, .bool false] := V2; have hBd : Below w.heap.size w (w1.drewN nd) := bdN hB1 nd; rw [eqq]) | (refine wpList_store_v rfl 25 _ _ rfl b2 [.int .i64 0, .string ⟨#[]⟩, .int .i64 0, .int .i64 0, .string ⟨#[]⟩, .int .i64 0, .int .i64 0, .bool false] rfl rfl sizeCm V2d rfl (oneCs 0 ⟨#[]⟩ 0 0 ⟨#[]⟩ 0 0 false) ?_; intro w9 hO9 V9) | (fail))
      exact row_ctt rfl rfl rfl rfl V9 Tryz.underlying25 sizeCm rfl ⟨by rw [hout.out]; rfl, hBd.trans (hO9.2.2 _ hb2)⟩
end Go.Proofs.YtaabmkhckbndgaaGreatDoor.cm
