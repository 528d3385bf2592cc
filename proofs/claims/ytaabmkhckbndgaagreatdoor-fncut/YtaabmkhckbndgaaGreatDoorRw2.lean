/- How a value is shown, the program's; ShowReply of the program. -/
import Derived.Test.YtaabmkhckbndgaaGreatDoorMg16
import Derived.Test.YtaabmkhckbndgaaGreatDoorMg17
import Derived.Deep.RegionHeld3
import Derived.BigQuiet
import Derived.Deep.DeepCutAuto
namespace Go.Proofs.YtaabmkhckbndgaaGreatDoor.cm
open Go.ChangeShapes Go.WideShapes Go.ChangeAt Go.RowKit
open Go.Deep Go.Joins
open Go.Proofs.YtaabmkhckbndgaaGreatDoor.ce Go.Proofs.YtaabmkhckbndgaaGreatDoor.ro Go.Proofs.YtaabmkhckbndgaaGreatDoor.rg
set_option linter.unusedVariables false

theorem sizeVa : (Tryz.prog.info? 160).map (·.size) = some 4 := by kernel_rfl
theorem zeroVa (w : World) : (zeroValue 160).run Tryz.prog w = .ok (.agg [Value.string ⟨#[]⟩, .int .i64 0, .string ⟨#[]⟩, .int .i64 0].toArray) w := Tryz.zeroValue160 w
theorem oneVa (N : ByteArray) (f : Int) (B : ByteArray) (c : Int) : ∀ v ∈ [Value.string N, .int .i64 f, .string B, .int .i64 c], v.oneCell' = true := by
  intro v hv
  simp only [List.mem_cons, List.not_mem_nil, or_false] at hv
  rcases hv with rfl | rfl | rfl | rfl <;> rfl
theorem cells4v {w : World} {b : Nat} {t : TypeId} {v0 v1 v2 v3 : Value} (h : VBlk w b t [v0, v1, v2, v3]) : w.cell? ⟨b, 0, none⟩ = some v0 ∧ w.cell? ⟨b, 1, none⟩ = some v1 ∧ w.cell? ⟨b, 2, none⟩ = some v2 ∧ w.cell? ⟨b, 3, none⟩ = some v3 := ⟨h.cell 0 (by simp), h.cell 1 (by simp), h.cell 2 (by simp), h.cell 3 (by simp)⟩
theorem own_lit {α : Type} {E : Enc α} (w : World) (lo : Nat) (xs : List α) (n : Nat) (cs : Array Value) (hn : n = xs.length) (hm : n ≤ 1048576) (h : E.row xs = cs.toList) (hlo : lo ≤ w.heap.size) : Own E (w.alloc (.cells cs E.t)) lo (w.alloc (.cells cs E.t)).heap.size (.slice (some ⟨w.heap.size, 0, none⟩) n n) xs := by
  subst hn
  have hl := E.row_len xs
  rw [h] at hl
  refine ⟨.inr ⟨w.heap.size, xs.length, cs, rfl, ⟨hlo, by simp⟩, by simpa using heap_alloc_new w (.cells cs E.t), Nat.le_refl _, by unfold maxLen; omega, by simpa using hl, ?_⟩⟩
  rw [h, List.take_of_length_le (by omega)]
/-- the variables and the value in its variable -/
structure Hv (w w' : World) (b1 : Nat) (vs : List Value) : Prop where
  e : EnvP w'
  v : VBlk w' b1 160 vs
  b : Below w.heap.size w w'
theorem Hv.grow {w w1 w' : World} {b1 : Nat} {vs : List Value} (h : Hv w w1 b1 vs) (hb : Below w1.heap.size w1 w') : Hv w w' b1 vs := ⟨h.e.grow hb, vblk_grow h.v hb, h.b.trans (hb.mono h.b.size)⟩
theorem Hv.cells {w w' : World} {b1 : Nat} {v0 v1 v2 v3 : Value} (h : Hv w w' b1 [v0, v1, v2, v3]) (kv : ByteArray) (hk : tx (kw ((5 : Nat) : Int)) = kv) : w'.cell? ⟨1, 5, none⟩ = some (.string kv) ∧ w'.cell? ⟨b1, 0, none⟩ = some v0 ∧ w'.cell? ⟨b1, 1, none⟩ = some v1 ∧ w'.cell? ⟨b1, 2, none⟩ = some v2 ∧ w'.cell? ⟨b1, 3, none⟩ = some v3 := by
  subst hk
  exact ⟨h.e.at (i := 5) (by omega) (by omega), cells4v h.v⟩
theorem words_val (N : ByteArray) (f : Nat) (B : ByteArray) (c : Nat) : wordsR ⟨5, N, f, B, c, 0⟩ = [kw 5, bs N, digs f, digs B.size] ++ (if c = 0 then [] else [digs c]) := by
  unfold wordsR
  rw [if_neg (by show ¬ (5 : Int) = 6; decide), if_pos rfl]
  by_cases h : c = 0
  · subst h; simp
  · simp [h]
theorem kws5 {x : ByteArray} (h : tx (kw ((5 : Nat) : Int)) = x) : bs x = kw 5 := by rw [← h, bs_tx]; rfl
theorem dgx {n : Nat} {x : ByteArray} (h : tx (digs n) = x) : bs x = digs n := by rw [← h, bs_tx]
theorem sml4 {kv N xf xb : ByteArray} (h0 : kv.size ≤ 12) (hN : N.size ≤ 12) (h1 : xf.size ≤ 100) (h2 : xb.size ≤ 100) : ∀ x ∈ [kv, N, xf, xb], x.size ≤ 10000 := by
  intro x hx
  simp only [List.mem_cons, List.not_mem_nil, or_false] at hx
  rcases hx with rfl | rfl | rfl | rfl <;> omega
theorem sml5 {kv N xf xb xc : ByteArray} (h0 : kv.size ≤ 12) (hN : N.size ≤ 12) (h1 : xf.size ≤ 100) (h2 : xb.size ≤ 100) (h3 : xc.size ≤ 100) : ∀ x ∈ [kv, N, xf, xb, xc], x.size ≤ 10000 := by
  intro x hx
  simp only [List.mem_cons, List.not_mem_nil, or_false] at hx
  rcases hx with rfl | rfl | rfl | rfl | rfl <;> omega
set_option maxRecDepth 10000 in
set_option maxHeartbeats 2000000 in
theorem head_any (N : ByteArray) (f : Nat) (B : ByteArray) (c : Nat) (hN : N.size ≤ 12) (hf : f ≤ 1000000) (hB : B.size ≤ 64) (hc : c ≤ 1000000) (w : World) (en : EnvP w) :
    Calls Tryz.prog 124 #[.agg #[.string N, .int .i64 (f : Int), .string B, .int .i64 (c : Int)]] w fun e w' => e = .returned (.string (tx (wordsL (wordsR ⟨5, N, f, B, c, 0⟩)))) ∧ Below w.heap.size w w' := by
  have EN : Hid (EnvP w) := en
  clear en
  have hs5 := kw_size (i := 5) (by omega) (by omega)
  obtain ⟨kv, hkv⟩ := hid_ex (tx (kw ((5 : Nat) : Int)))
  rw [hkv.out] at hs5
  obtain ⟨xf, hxf⟩ := hid_ex (tx (digs f))
  obtain ⟨xb, hxb⟩ := hid_ex (tx (digs B.size))
  obtain ⟨xc, hxc⟩ := hid_ex (tx (digs c))
  have sf : xf.size ≤ 100 := by rw [← hxf.out]; exact dig_sz (by omega)
  have sb : xb.size ≤ 100 := by rw [← hxb.out]; exact dig_sz (by omega)
  have sc : xc.size ≤ 100 := by rw [← hxc.out]; exact dig_sz (by omega)
  have h55 : (5 : Int) < 13 := by omega
  have W4 : Hid ([kv, N, xf, xb].map bs = [kw 5, bs N, digs f, digs B.size]) := by unfold Hid; simp [kws5 hkv.out, dgx hxf.out, dgx hxb.out]
  have W5 : Hid ([kv, N, xf, xb, xc].map bs = [kw 5, bs N, digs f, digs B.size, digs c]) := by unfold Hid; simp [kws5 hkv.out, dgx hxf.out, dgx hxb.out, dgx hxc.out]
  have k1 : Hid True := trivial
  have k2 : Hid True := trivial
  go_enter Tryz.func124, Tryz.ntmps124
  go_upto_region 1 with (first | (refine wpList_box_v rfl 160 _ rfl [.string N, .int .i64 (f : Int), .string B, .int .i64 (c : Int)] rfl ?_; intro b1 w1 hb1 hw1 hB1 V1; have H1 : Hid (Hv w w1 b1 [.string N, .int .i64 (f : Int), .string B, .int .i64 (c : Int)]) := ⟨EN.out.grow hB1, V1, hB1⟩) | (fail))
  go_cut [3] from 4 to 15 (fun v3 wc => ∃ A n k, v3 = .slice A n k ∧ Hid (Hv w wc b1 [.string N, .int .i64 (f : Int), .string B, .int .i64 (c : Int)]) ∧ Hid (Own encS wc w.heap.size wc.heap.size (.slice A n k) [kv, N, xf, xb]))
  case first =>
    have S1 : w1.drew.cell? ⟨1, 5, none⟩ = some (.string kv) ∧ w1.drew.cell? ⟨b1, 0, none⟩ = some (.string N) ∧ w1.drew.cell? ⟨b1, 1, none⟩ = some (.int .i64 (f : Int)) ∧ w1.drew.cell? ⟨b1, 2, none⟩ = some (.string B) ∧ w1.drew.cell? ⟨b1, 3, none⟩ = some (.int .i64 (c : Int)) := H1.out.cells kv hkv.out
    have T1 : Hid (Hv w w1.drew b1 [.string N, .int .i64 (f : Int), .string B, .int .i64 (c : Int)]) := H1.out.grow (Below.refl _ _).drew
    go_region_held3 (fun w' => w'.cell? ⟨1, 5, none⟩ = some (.string kv) ∧ w'.cell? ⟨b1, 0, none⟩ = some (.string N) ∧ w'.cell? ⟨b1, 1, none⟩ = some (.int .i64 (f : Int)) ∧ w'.cell? ⟨b1, 2, none⟩ = some (.string B) ∧ w'.cell? ⟨b1, 3, none⟩ = some (.int .i64 (c : Int))) (first | with_reducible assumption | with_reducible exact S1 | (fail)) (first | (clear k1; go_at_call 57; refine (dec_tab f xf hxf.out (by omega) w1.drew T1.out.e.tab).mono ?_; rintro e w4 ⟨rfl, hB4⟩; have T4 := T1.out.grow hB4; have S4 : w4.cell? ⟨1, 5, none⟩ = some (.string kv) ∧ w4.cell? ⟨b1, 0, none⟩ = some (.string N) ∧ w4.cell? ⟨b1, 1, none⟩ = some (.int .i64 (f : Int)) ∧ w4.cell? ⟨b1, 2, none⟩ = some (.string B) ∧ w4.cell? ⟨b1, 3, none⟩ = some (.int .i64 (c : Int)) := T4.cells kv hkv.out) | (go_at_call 57; refine (dec_tab B.size xb hxb.out (by omega) w4 T4.e.tab).mono ?_; rintro e w5 ⟨rfl, hB5⟩; have T5 := T4.grow hB5; have S5 : w5.cell? ⟨1, 5, none⟩ = some (.string kv) ∧ w5.cell? ⟨b1, 0, none⟩ = some (.string N) ∧ w5.cell? ⟨b1, 1, none⟩ = some (.int .i64 (f : Int)) ∧ w5.cell? ⟨b1, 2, none⟩ = some (.string B) ∧ w5.cell? ⟨b1, 3, none⟩ = some (.int .i64 (c : Int)) := T5.cells kv hkv.out; have T6 := T5.grow (bAl w5 (.cells #[.string kv, .string N, .string xf, .string xb] 9)); have S6 : (w5.alloc (.cells #[.string kv, .string N, .string xf, .string xb] 9)).cell? ⟨1, 5, none⟩ = some (.string kv) ∧ (w5.alloc (.cells #[.string kv, .string N, .string xf, .string xb] 9)).cell? ⟨b1, 0, none⟩ = some (.string N) ∧ (w5.alloc (.cells #[.string kv, .string N, .string xf, .string xb] 9)).cell? ⟨b1, 1, none⟩ = some (.int .i64 (f : Int)) ∧ (w5.alloc (.cells #[.string kv, .string N, .string xf, .string xb] 9)).cell? ⟨b1, 2, none⟩ = some (.string B) ∧ (w5.alloc (.cells #[.string kv, .string N, .string xf, .string xb] 9)).cell? ⟨b1, 3, none⟩ = some (.int .i64 (c : Int)) := T6.cells kv hkv.out) | (fail))
    go_wp2
    (try simp only [Act.put])
    go_meet
    case rel => exact ⟨_, _, _, rfl, T6, own_lit (E := encS) w5 w.heap.size [kv, N, xf, xb] 4 _ rfl (by omega) rfl T5.b.size⟩
  case rest =>
  obtain ⟨A, n, k, rfl, T7, O7⟩ := hcut
  obtain ⟨-, c0, c1, c2, c3⟩ := T7.out.cells kv hkv.out
  by_cases hz : c = 0
  · subst hz
    go_wp2_with (first | (go_at_call 58; refine (join_any _ _ _ O7.out.rd (by simp) (by simp) (sml4 hs5 hN sf sb)).mono ?_; rintro e w8 ⟨rfl, hB8⟩; rw [W4.out]) | (fail))
    go_ret
    refine ⟨?_, T7.out.b.trans (hB8.mono T7.out.b.size)⟩
    rw [words_val]
    rfl
  · have hz1 : ((c : Int) != 0) = true := by simp; omega
    have HZ : Hid (¬ c = 0) := hz
    clear hz
    go_wp2_with (first | (go_at_call 57; refine (dec_tab c xc hxc.out (by omega) _ T7.out.e.tab).mono ?_; rintro e w8 ⟨rfl, hB8⟩; have T8 := T7.out.grow hB8; have O8 := (O7.out.grow hB8).top) | (at_builtin; refine wpList_append_g infoS rfl _ _ 69 rfl Tryz.underlying69 w.heap.size _ _ [kv, N, xf, xb] rfl (O8.grow (bAl _ _)) (by have := T8.b.size; simp; omega) _ [xc] rfl (rd_lit (E := encS) w8 [xc] 1 _ rfl (by omega) rfl) (by simp) ?_; intro v9 w9 o9 hT9; obtain ⟨a9, n9, c9, rfl⟩ := o9.slice) | (go_at_call 58; refine (join_any [kv, N, xf, xb, xc] _ _ o9.rd (by simp) (by simp) (sml5 hs5 hN sf sb sc)).mono ?_; rintro e w10 ⟨rfl, hB10⟩; rw [W5.out]) | (fail))
    go_ret
    refine ⟨?_, ((T8.b.trans ((bAl w8 _).mono T8.b.size)).trans hT9.low).trans (hB10.mono (by have := T8.b.size; have := hT9.low.size; simp at this; omega))⟩
    rw [words_val, if_neg HZ.out]
    rfl
set_option maxRecDepth 10000 in
set_option maxHeartbeats 2000000 in
theorem shown_val (N : ByteArray) (f : Nat) (B : ByteArray) (c : Nat) (hN : N.size ≤ 12) (hf : f ≤ 1000000) (hB : B.size ≤ 64) (hc : c ≤ 1000000) (w : World) (en : EnvP w) :
    Calls Tryz.prog 76 #[.iface 160 (.agg #[.string N, .int .i64 (f : Int), .string B, .int .i64 (c : Int)])] w fun e w' => e = .returned (.string (tx (showR ⟨5, N, f, B, c, 0⟩))) ∧ Below w.heap.size w w' := by
  have EN : Hid (EnvP w) := en
  clear en
  have aB : ∀ w : World, (Instr.typeAssert (.iface 160 (.agg #[.string N, .int .i64 (f : Int), .string B, .int .i64 (c : Int)])) 103 156 true).run Tryz.prog w = .ok (.tuple #[.int .i64 0, .bool false]) w := fun _ => by kernel_rfl
  have aN : ∀ w : World, (Instr.typeAssert (.iface 160 (.agg #[.string N, .int .i64 (f : Int), .string B, .int .i64 (c : Int)])) 103 158 true).run Tryz.prog w = .ok (.tuple #[.int .i64 0, .bool false]) w := fun _ => by kernel_rfl
  have aV : ∀ w : World, (Instr.typeAssert (.iface 160 (.agg #[.string N, .int .i64 (f : Int), .string B, .int .i64 (c : Int)])) 103 160 true).run Tryz.prog w = .ok (.tuple #[.agg #[.string N, .int .i64 (f : Int), .string B, .int .i64 (c : Int)], .bool true]) w := fun _ => by kernel_rfl
  obtain ⟨x, hx⟩ := hid_ex (tx (wordsL (wordsR ⟨5, N, f, B, c, 0⟩)))
  have hxs : x.size ≤ 10000 := by
    rw [← hx.out, tx_size]
    have h1 : ∀ y ∈ wordsR ⟨5, N, f, B, c, 0⟩, y.length ≤ 12 := by
      rw [words_val]
      have hd : ∀ n, n ≤ 1000000 → (digs n).length ≤ 12 := fun n hn => Nat.le_trans (digs_len 9 n (by omega)) (by omega)
      intro y hy
      rcases List.mem_append.1 hy with hy | hy
      · simp only [List.mem_cons, List.not_mem_nil, or_false] at hy
        rcases hy with rfl | rfl | rfl | rfl
        · decide
        · rw [bs_len]; exact hN
        · exact hd _ hf
        · exact hd _ (by omega)
      · split at hy
        · simp at hy
        · rw [List.mem_singleton.1 hy]; exact hd _ hc
    have h2 : (wordsR ⟨5, N, f, B, c, 0⟩).length ≤ 5 := by rw [words_val]; split <;> simp
    have h3 := wordsL_len _ 12 h1
    have : (wordsR ⟨5, N, f, B, c, 0⟩).length * (12 + 1) ≤ 5 * 13 := Nat.mul_le_mul_right _ h2
    omega
  have e1 : (x ++ (⟨#[10]⟩ : ByteArray)).size = x.size + 1 := by rw [ByteArray.size_append]; rfl
  have e2 : (x ++ (⟨#[10]⟩ : ByteArray) ++ B).size = x.size + 1 + B.size := by rw [ByteArray.size_append, e1]
  have e3 : (x ++ (⟨#[10]⟩ : ByteArray) ++ B ++ (⟨#[10]⟩ : ByteArray)).size = x.size + 1 + B.size + 1 := by rw [ByteArray.size_append, e2]; rfl
  go_enter Tryz.func76, Tryz.ntmps76
  go_upto_region 10 with (first | (refine wpList_alloc_v rfl 160 rfl _ zeroVa ?_; intro b5 w1 hb5 hw5 hB1 V1; have hz1 := hB1.size) | (refine wpList_store_v rfl 160 _ _ rfl b5 [.string N, .int .i64 (f : Int), .string B, .int .i64 (c : Int)] rfl rfl sizeVa V1 rfl (oneVa _ _ _ _) ?_; intro w2 hO2 V2; have hB2 : Below w.heap.size w w2 := hB1.trans (hO2.2.2 _ hb5); obtain ⟨c0, c1, c2, c3⟩ := cells4v V2) | (fail))
  have EN2 : Hid (EnvP w2.drew) := EN.out.grow hB2.drew
  go_region_with (first | (go_at_call 124; refine (head_any N f B c hN hf hB hc _ EN2.out).mono ?_; rintro e w4 ⟨rfl, hB4⟩; rw [hx.out]; obtain ⟨q0, q1, q2, q3⟩ := cells4v (vblk_grow V2.drew hB4)) | (fail))
  all_goals
    go_wp2
    go_ret
    refine ⟨?_, hB2.drew.trans (hB4.mono hB2.drew.size)⟩
    unfold showR
    exact congrArg (fun q => Ending.returned (.string q)) (by rw [← hx.out]; exact bs_inj0 (by rw [bs_app, bs_app, bs_app, bs_tx, bs_tx]; unfold tailR; simp [bs]))
end Go.Proofs.YtaabmkhckbndgaaGreatDoor.cm
