/- How a reply is shown, of whatever kind, the model's and the program's. -/
import Derived.Test.YtaabmkhckbndgaaGreatDoorRw2
import Derived.Test.YtaabmkhckbndgaaGreatDoorMg15
import Derived.Test.YtaabmkhckbndgaaGreatDoorMg08
import Derived.Deep.RegionHeld3
import Derived.BigQuiet
import Derived.Deep.DeepCutAuto
import Derived.Deep.CutBlock
namespace Go.Proofs.YtaabmkhckbndgaaGreatDoor.cm
open Go.ChangeShapes Go.WideShapes Go.ChangeAt Go.RowKit
open Go.Deep Go.Joins
open Go.Proofs.YtaabmkhckbndgaaGreatDoor.ce Go.Proofs.YtaabmkhckbndgaaGreatDoor.ro Go.Proofs.YtaabmkhckbndgaaGreatDoor.rg
set_option linter.unusedVariables false

/-- the kinds' words, as the model has them -/
def ktx : List ByteArray := kinds.map tx
theorem l12Words_any (w : World) : Calls Tryz.prog 84 #[] w fun e w' => ∃ v, e = .returned v ∧ Rd encS w' v ktx ∧ Below w.heap.size w w' := by
  go_enter Tryz.func84, Tryz.ntmps84
  go_wp2
  go_ret
  exact ⟨_, rfl, rd_lit (E := encS) w ktx 12 _ rfl (by omega) rfl, (Below.refl _ _).alloc (Nat.le_refl _) _⟩
/-- while words are gathered: the reply in its variable, the words so far -/
structure Sr (w wr : World) (b1 : Nat) (cs : List Value) (v : Value) (ws : List ByteArray) : Prop where
  V1 : VBlk wr b1 42 cs
  o : Own encS wr w.heap.size wr.heap.size v ws
  b : Below w.heap.size w wr
theorem Sr.size {w wr : World} {b1 : Nat} {cs : List Value} {v : Value} {ws : List ByteArray} (h : Sr w wr b1 cs v ws) : w.heap.size ≤ wr.heap.size := h.b.size
theorem Sr.grow {w wr w' : World} {b1 : Nat} {cs : List Value} {v : Value} {ws : List ByteArray} (h : Sr w wr b1 cs v ws) (hb : Below wr.heap.size wr w') : Sr w w' b1 cs v ws :=
  ⟨vblk_grow h.V1 hb, (h.o.grow hb).top, h.b.trans (hb.mono h.b.size)⟩
theorem Sr.app {w wr w' : World} {b1 : Nat} {cs : List Value} {v v' : Value} {ws ws' : List ByteArray} (h : Sr w wr b1 cs v ws) (hT : Ty w.heap.size 9 wr w') (o' : Own encS w' w.heap.size w'.heap.size v' ws') : Sr w w' b1 cs v' ws' :=
  ⟨hT.vblk h.V1 (by decide), o', h.b.trans hT.low⟩
theorem sm_words {l : List ByteArray} (h : ∀ x ∈ l, x.size ≤ 100) : ∀ x ∈ l, x.size ≤ 10000 := fun x hx => Nat.le_trans (h x hx) (by omega)
theorem wl_size {l : List ByteArray} (h : ∀ x ∈ l, x.size ≤ 100) (hl : l.length ≤ 5) : (tx (wordsL (l.map bs))).size ≤ 1000 := by
  rw [tx_size]
  have h1 := wordsL_len (l.map bs) 100 (fun y hy => by
    obtain ⟨z, hz, rfl⟩ := List.mem_map.1 hy
    rw [bs_len]
    exact h z hz)
  rw [List.length_map] at h1
  have : l.length * (100 + 1) ≤ 5 * 101 := Nat.mul_le_mul_right _ hl
  omega
set_option maxRecDepth 100000 in
set_option maxHeartbeats 2000000 in
theorem l12Show_bare (K : Int) (N : ByteArray) (f : Nat) (B : ByteArray) (c m : Nat) (k0 : 1 ≤ K) (k1 : K ≤ 12) (k5 : K ≠ 5) (k6 : K ≠ 6) (w : World) :
    Calls Tryz.prog 86 #[.agg #[.int .i64 K, .string N, .int .i64 (f : Int), .string B, .int .i64 (c : Int), .int .i64 (m : Int)]] w fun e w' => e = .returned (.string (tx (kw K ++ [10]))) ∧ Below w.heap.size w w' := by
  have b5 : (K == 5) = false := by simpa using k5
  have b6 : (K == 6) = false := by simpa using k6
  obtain ⟨i, hi⟩ : ∃ i : Nat, K = ((i + 1 : Nat) : Int) := ⟨(K - 1).toNat, by omega⟩
  have hi13 : i < ktx.length := by show i < 12; omega
  have ei : IntKind.i64.wrap (K - 1) = (i : Int) := by rw [IntKind.wrap_i64]; omega
  obtain ⟨kv, hkv⟩ := hid_ex (tx (kw K))
  have HV : Hid (ktx[i] = kv) := by
    unfold Hid
    rw [← hkv.out]
    unfold kw
    have : (K - 1).toNat = i := by omega
    rw [this, List.getElem?_eq_getElem (show i < kinds.length from hi13)]
    simp [ktx]
  have hkb : Hid (bs kv = kw K) := by unfold Hid; rw [← hkv.out, bs_tx]
  have hks : kv.size ≤ 100 := by rw [← hkv.out, tx_size]; have := (kw_ok (v := K) (by omega) (by omega)).2; omega
  have hi13' : (i : Int) < 12 := by omega
  clear hi hkv
  go_enter Tryz.func86, Tryz.ntmps86
  go_upto_region 1 with (first | (refine wpList_box_v rfl 42 _ rfl [.int .i64 K, .string N, .int .i64 (f : Int), .string B, .int .i64 (c : Int), .int .i64 (m : Int)] rfl ?_; intro b1 w1 hb1 hw1 hB1 V1; obtain ⟨c0, c1, c2, c3, c4, c5⟩ := cellsRp V1) | (fail))
  go_cut [3] from 4 to 10 (fun v3 wc => ∃ A n k, v3 = .slice A n k ∧ Hid (Sr w wc b1 [.int .i64 K, .string N, .int .i64 (f : Int), .string B, .int .i64 (c : Int), .int .i64 (m : Int)] (.slice A n k) [kv]))
  case first =>
    have hz1 := hB1.size
    go_region_with (first | (go_at_call 84; refine (l12Words_any _).mono ?_; rintro e w2 ⟨x2, rfl, R2, hB2⟩; have V2 := vblk_grow V1.drew hB2; obtain ⟨q0, q1, q2, q3, q4, q5⟩ := cellsRp V2; have hz2 : w1.heap.size ≤ w2.heap.size := hB2.size; obtain ⟨a2, k2, rfl⟩ := R2.form; obtain ⟨g2, o2, rfl, hg2, dd⟩ := rdS_cell R2 i hi13; rw [HV.out] at dd; have hvl : ktx.length = 12 := rfl) | (fail))
    all_goals
      go_wp2
      (try simp only [Act.put])
      go_meet
      case rel => exact ⟨_, _, _, rfl, ⟨vblk_grow V2 (bAl _ _), own_new (E := encS) w2 w.heap.size kv #[.string kv] rfl (by omega), (hB1.drew.trans (hB2.mono hz1)).trans ((bAl w2 _).mono (by omega))⟩⟩
  case rest =>
  obtain ⟨A, n, k, rfl, SH⟩ := hcut
  clear c0 c1 c2 c3 c4 c5 V1
  obtain ⟨c0, c1, c2, c3, c4, c5⟩ := cellsRp SH.out.V1
  have hall : ∀ y ∈ [kv], y.size ≤ 100 := fun y hy => by rw [List.mem_singleton.1 hy]; exact hks
  obtain ⟨x, hx⟩ := hid_ex (tx (wordsL ([kv].map bs)))
  have hxs : x.size ≤ 1000 := by rw [← hx.out]; exact wl_size hall (by simp)
  have e1 : (x ++ (⟨#[10]⟩ : ByteArray)).size = x.size + 1 := by rw [ByteArray.size_append]; rfl
  go_wp2_with (first | (go_at_call 121; refine (l1Words_any [kv] _ _ SH.out.o.rd (by simp) (sm_words hall)).mono ?_; rintro e wq ⟨rfl, hq⟩; subst wq; rw [hx.out]) | (fail))
  go_ret
  refine ⟨?_, SH.out.b⟩
  have W1 : [kv].map bs = [kw K] := by simp [hkb.out]
  exact congrArg (fun z => Ending.returned (.string z)) (by rw [← hx.out, W1]; exact bs_inj0 (by rw [bs_app, bs_tx, bs_tx]; simp [wordsL, bs]))
set_option maxRecDepth 100000 in
set_option maxHeartbeats 2000000 in
theorem l12Show_num (K : Int) (b6 : (K == 6) = true) (hK : Hid (K = 6)) (N : ByteArray) (f : Nat) (B : ByteArray) (c m : Nat) (hm : m ≤ 999999999) (w : World) :
    Calls Tryz.prog 86 #[.agg #[.int .i64 K, .string N, .int .i64 (f : Int), .string B, .int .i64 (c : Int), .int .i64 (m : Int)]] w fun e w' => e = .returned (.string (tx (kw K ++ 32 :: (digs m ++ [10])))) ∧ Below w.heap.size w w' := by
  have k0 : 1 ≤ K ∧ K ≤ 12 := by have := hK.out; omega
  obtain ⟨i, hi⟩ : ∃ i : Nat, K = ((i + 1 : Nat) : Int) := ⟨(K - 1).toNat, by omega⟩
  have hi13 : i < ktx.length := by show i < 12; omega
  have ei : IntKind.i64.wrap (K - 1) = (i : Int) := by rw [IntKind.wrap_i64]; omega
  obtain ⟨kv, hkv⟩ := hid_ex (tx (kw K))
  have HV : Hid (ktx[i] = kv) := by
    unfold Hid
    rw [← hkv.out]
    unfold kw
    have : (K - 1).toNat = i := by omega
    rw [this, List.getElem?_eq_getElem (show i < kinds.length from hi13)]
    simp [ktx]
  have hkb : Hid (bs kv = kw K) := by unfold Hid; rw [← hkv.out, bs_tx]
  have hks : kv.size ≤ 100 := by rw [← hkv.out, tx_size]; have := (kw_ok (v := K) (by omega) (by omega)).2; omega
  have hi13' : (i : Int) < 12 := by omega
  clear hi hkv
  go_enter Tryz.func86, Tryz.ntmps86
  go_upto_region 1 with (first | (refine wpList_box_v rfl 42 _ rfl [.int .i64 K, .string N, .int .i64 (f : Int), .string B, .int .i64 (c : Int), .int .i64 (m : Int)] rfl ?_; intro b1 w1 hb1 hw1 hB1 V1; obtain ⟨c0, c1, c2, c3, c4, c5⟩ := cellsRp V1) | (fail))
  go_cut [3] from 4 to 10 (fun v3 wc => ∃ A n k, v3 = .slice A n k ∧ Hid (Sr w wc b1 [.int .i64 K, .string N, .int .i64 (f : Int), .string B, .int .i64 (c : Int), .int .i64 (m : Int)] (.slice A n k) [kv]))
  case first =>
    have hz1 := hB1.size
    go_region_with (first | (go_at_call 84; refine (l12Words_any _).mono ?_; rintro e w2 ⟨x2, rfl, R2, hB2⟩; have V2 := vblk_grow V1.drew hB2; obtain ⟨q0, q1, q2, q3, q4, q5⟩ := cellsRp V2; have hz2 : w1.heap.size ≤ w2.heap.size := hB2.size; obtain ⟨a2, k2, rfl⟩ := R2.form; obtain ⟨g2, o2, rfl, hg2, dd⟩ := rdS_cell R2 i hi13; rw [HV.out] at dd; have hvl : ktx.length = 12 := rfl) | (fail))
    all_goals
      go_wp2
      (try simp only [Act.put])
      go_meet
      case rel => exact ⟨_, _, _, rfl, ⟨vblk_grow V2 (bAl _ _), own_new (E := encS) w2 w.heap.size kv #[.string kv] rfl (by omega), (hB1.drew.trans (hB2.mono hz1)).trans ((bAl w2 _).mono (by omega))⟩⟩
  case rest =>
  obtain ⟨A, n, k, rfl, SH⟩ := hcut
  clear c0 c1 c2 c3 c4 c5 V1
  obtain ⟨c0, c1, c2, c3, c4, c5⟩ := cellsRp SH.out.V1
  obtain ⟨xm, hxm⟩ := hid_ex (tx (digs m))
  have sm : xm.size ≤ 100 := by rw [← hxm.out]; exact dig_sz (by omega)
  have hall : ∀ y ∈ [kv, xm], y.size ≤ 100 := fun y hy => by
    simp only [List.mem_cons, List.not_mem_nil, or_false] at hy
    rcases hy with rfl | rfl <;> omega
  obtain ⟨x, hx⟩ := hid_ex (tx (wordsL ([kv, xm].map bs)))
  have hxs : x.size ≤ 1000 := by rw [← hx.out]; exact wl_size hall (by simp)
  have e1 : (x ++ (⟨#[10]⟩ : ByteArray)).size = x.size + 1 := by rw [ByteArray.size_append]; rfl
  go_wp2_with (first | (go_at_call 120; refine (l1Int_is m (by omega) _).mono ?_; rintro e w5 ⟨rfl, hB5⟩; rw [hxm.out]; have SH5 := SH.out.grow hB5) | (at_builtin; refine wpList_append_g infoS rfl _ _ 69 rfl Tryz.underlying69 w.heap.size _ _ [kv] rfl (SH5.grow (bAl _ _)).o (by have := (SH5).size; simp; omega) _ [xm] rfl (rd_lit (E := encS) _ [xm] 1 _ rfl (by omega) rfl) (by simp) ?_; intro v7 w7 o7 hT7; have SH7 := (SH5.grow (bAl _ _)).app hT7 o7; obtain ⟨A7, n7, c7', rfl⟩ := o7.slice) | (go_at_call 121; refine (l1Words_any [kv, xm] _ _ SH7.o.rd (by simp) (sm_words hall)).mono ?_; rintro e wq ⟨rfl, hq⟩; subst wq; rw [hx.out]) | (fail))
  go_ret
  refine ⟨?_, SH7.b⟩
  have W1 : [kv, xm].map bs = [kw K, digs m] := by simp [hkb.out, dgx hxm.out]
  exact congrArg (fun z => Ending.returned (.string z)) (by rw [← hx.out, W1]; exact bs_inj0 (by rw [bs_app, bs_tx, bs_tx]; simp [wordsL, bs]))
set_option maxRecDepth 100000 in
set_option maxHeartbeats 2000000 in
theorem l12Show_val (K : Int) (b6 : (K == 6) = false) (b5 : (K == 5) = true) (hK : Hid (K = 5)) (N : ByteArray) (f : Nat) (B : ByteArray) (c m : Nat) (hN : N.size ≤ 12) (hf : f ≤ 1000000) (hB : B.size ≤ 64) (hc : c ≤ 1000000) (w : World) :
    Calls Tryz.prog 86 #[.agg #[.int .i64 K, .string N, .int .i64 (f : Int), .string B, .int .i64 (c : Int), .int .i64 (m : Int)]] w fun e w' => e = .returned (.string (tx (showR ⟨5, N, f, B, c, 0⟩))) ∧ Below w.heap.size w w' := by
  have k0 : 1 ≤ K ∧ K ≤ 12 := by have := hK.out; omega
  obtain ⟨i, hi⟩ : ∃ i : Nat, K = ((i + 1 : Nat) : Int) := ⟨(K - 1).toNat, by omega⟩
  have hi13 : i < ktx.length := by show i < 12; omega
  have ei : IntKind.i64.wrap (K - 1) = (i : Int) := by rw [IntKind.wrap_i64]; omega
  obtain ⟨kv, hkv⟩ := hid_ex (tx (kw K))
  have HV : Hid (ktx[i] = kv) := by
    unfold Hid
    rw [← hkv.out]
    unfold kw
    have : (K - 1).toNat = i := by omega
    rw [this, List.getElem?_eq_getElem (show i < kinds.length from hi13)]
    simp [ktx]
  have hkb : Hid (bs kv = kw K) := by unfold Hid; rw [← hkv.out, bs_tx]
  have hks : kv.size ≤ 100 := by rw [← hkv.out, tx_size]; have := (kw_ok (v := K) (by omega) (by omega)).2; omega
  have hi13' : (i : Int) < 12 := by omega
  clear hi hkv
  go_enter Tryz.func86, Tryz.ntmps86
  go_upto_region 1 with (first | (refine wpList_box_v rfl 42 _ rfl [.int .i64 K, .string N, .int .i64 (f : Int), .string B, .int .i64 (c : Int), .int .i64 (m : Int)] rfl ?_; intro b1 w1 hb1 hw1 hB1 V1; obtain ⟨c0, c1, c2, c3, c4, c5⟩ := cellsRp V1) | (fail))
  go_cut [3] from 4 to 10 (fun v3 wc => ∃ A n k, v3 = .slice A n k ∧ Hid (Sr w wc b1 [.int .i64 K, .string N, .int .i64 (f : Int), .string B, .int .i64 (c : Int), .int .i64 (m : Int)] (.slice A n k) [kv]))
  case first =>
    have hz1 := hB1.size
    go_region_with (first | (go_at_call 84; refine (l12Words_any _).mono ?_; rintro e w2 ⟨x2, rfl, R2, hB2⟩; have V2 := vblk_grow V1.drew hB2; obtain ⟨q0, q1, q2, q3, q4, q5⟩ := cellsRp V2; have hz2 : w1.heap.size ≤ w2.heap.size := hB2.size; obtain ⟨a2, k2, rfl⟩ := R2.form; obtain ⟨g2, o2, rfl, hg2, dd⟩ := rdS_cell R2 i hi13; rw [HV.out] at dd; have hvl : ktx.length = 12 := rfl) | (fail))
    all_goals
      go_wp2
      (try simp only [Act.put])
      go_meet
      case rel => exact ⟨_, _, _, rfl, ⟨vblk_grow V2 (bAl _ _), own_new (E := encS) w2 w.heap.size kv #[.string kv] rfl (by omega), (hB1.drew.trans (hB2.mono hz1)).trans ((bAl w2 _).mono (by omega))⟩⟩
  case rest =>
  obtain ⟨A, n, k, rfl, SH⟩ := hcut
  clear c0 c1 c2 c3 c4 c5 V1
  obtain ⟨c0, c1, c2, c3, c4, c5⟩ := cellsRp SH.out.V1
  rw [hK.out] at hkb
  obtain ⟨xf, hxf⟩ := hid_ex (tx (digs f))
  obtain ⟨xb, hxb⟩ := hid_ex (tx (digs B.size))
  obtain ⟨xc, hxc⟩ := hid_ex (tx (digs c))
  have sf : xf.size ≤ 100 := by rw [← hxf.out]; exact dig_sz (by omega)
  have sb : xb.size ≤ 100 := by rw [← hxb.out]; exact dig_sz (by omega)
  have sc : xc.size ≤ 100 := by rw [← hxc.out]; exact dig_sz (by omega)
  have W4 : Hid ([kv, N, xf, xb].map bs = [kw 5, bs N, digs f, digs B.size]) := by unfold Hid; simp [hkb.out, dgx hxf.out, dgx hxb.out]
  have W5 : Hid ([kv, N, xf, xb, xc].map bs = [kw 5, bs N, digs f, digs B.size, digs c]) := by unfold Hid; simp [hkb.out, dgx hxf.out, dgx hxb.out, dgx hxc.out]
  go_upto_region 6 with (fail)
  go_cut [3] from 23 to 34 (fun v3 wc => ∃ A n k, v3 = .slice A n k ∧ Hid (Sr w wc b1 [.int .i64 K, .string N, .int .i64 (f : Int), .string B, .int .i64 (c : Int), .int .i64 (m : Int)] (.slice A n k) [kv, N, xf, xb]))
  case first =>
    have m5 : Hid True := trivial
    have S1 : wc.drew.cell? ⟨b1, 0, none⟩ = some (.int .i64 K) ∧ wc.drew.cell? ⟨b1, 1, none⟩ = some (.string N) ∧ wc.drew.cell? ⟨b1, 2, none⟩ = some (.int .i64 (f : Int)) ∧ wc.drew.cell? ⟨b1, 3, none⟩ = some (.string B) ∧ wc.drew.cell? ⟨b1, 4, none⟩ = some (.int .i64 (c : Int)) ∧ wc.drew.cell? ⟨b1, 5, none⟩ = some (.int .i64 (m : Int)) := ⟨c0, c1, c2, c3, c4, c5⟩
    have SHd : Hid (Sr w wc.drew b1 [.int .i64 K, .string N, .int .i64 (f : Int), .string B, .int .i64 (c : Int), .int .i64 (m : Int)] (.slice A n k) [kv]) := SH.out.grow (Below.refl _ _).drew
    go_region_held3 (fun w' => w'.cell? ⟨b1, 0, none⟩ = some (.int .i64 K) ∧ w'.cell? ⟨b1, 1, none⟩ = some (.string N) ∧ w'.cell? ⟨b1, 2, none⟩ = some (.int .i64 (f : Int)) ∧ w'.cell? ⟨b1, 3, none⟩ = some (.string B) ∧ w'.cell? ⟨b1, 4, none⟩ = some (.int .i64 (c : Int)) ∧ w'.cell? ⟨b1, 5, none⟩ = some (.int .i64 (m : Int))) (first | with_reducible assumption | with_reducible exact S1 | (fail)) (first | (clear m5; go_at_call 120; refine (l1Int_is f (by omega) _).mono ?_; rintro e w4 ⟨rfl, hB4⟩; have SH4 := SHd.out.grow hB4; have S4 : w4.cell? ⟨b1, 0, none⟩ = some (.int .i64 K) ∧ w4.cell? ⟨b1, 1, none⟩ = some (.string N) ∧ w4.cell? ⟨b1, 2, none⟩ = some (.int .i64 (f : Int)) ∧ w4.cell? ⟨b1, 3, none⟩ = some (.string B) ∧ w4.cell? ⟨b1, 4, none⟩ = some (.int .i64 (c : Int)) ∧ w4.cell? ⟨b1, 5, none⟩ = some (.int .i64 (m : Int)) := cellsRp SH4.V1; rw [hxf.out]) | (go_at_call 120; refine (l1Int_is B.size (by omega) _).mono ?_; rintro e w5 ⟨rfl, hB5⟩; have SH5 := SH4.grow hB5; have S5 : w5.cell? ⟨b1, 0, none⟩ = some (.int .i64 K) ∧ w5.cell? ⟨b1, 1, none⟩ = some (.string N) ∧ w5.cell? ⟨b1, 2, none⟩ = some (.int .i64 (f : Int)) ∧ w5.cell? ⟨b1, 3, none⟩ = some (.string B) ∧ w5.cell? ⟨b1, 4, none⟩ = some (.int .i64 (c : Int)) ∧ w5.cell? ⟨b1, 5, none⟩ = some (.int .i64 (m : Int)) := cellsRp SH5.V1; rw [hxb.out]; have SH6 := SH5.grow (bAl w5 (.cells #[.string N, .string xf, .string xb] 9)); have S6 : (w5.alloc (.cells #[.string N, .string xf, .string xb] 9)).cell? ⟨b1, 0, none⟩ = some (.int .i64 K) ∧ (w5.alloc (.cells #[.string N, .string xf, .string xb] 9)).cell? ⟨b1, 1, none⟩ = some (.string N) ∧ (w5.alloc (.cells #[.string N, .string xf, .string xb] 9)).cell? ⟨b1, 2, none⟩ = some (.int .i64 (f : Int)) ∧ (w5.alloc (.cells #[.string N, .string xf, .string xb] 9)).cell? ⟨b1, 3, none⟩ = some (.string B) ∧ (w5.alloc (.cells #[.string N, .string xf, .string xb] 9)).cell? ⟨b1, 4, none⟩ = some (.int .i64 (c : Int)) ∧ (w5.alloc (.cells #[.string N, .string xf, .string xb] 9)).cell? ⟨b1, 5, none⟩ = some (.int .i64 (m : Int)) := cellsRp SH6.V1) | (refine step_append_g infoS rfl _ _ 69 rfl Tryz.underlying69 w.heap.size _ _ [kv] rfl SH6.o (by have := SH6.size; omega) _ [N, xf, xb] rfl (rd_lit (E := encS) w5 [N, xf, xb] 3 _ rfl (by omega) rfl) (by simp) ?_; intro v7 w7 o7 hT7; have SH7 := SH6.app hT7 o7; have S7 : w7.cell? ⟨b1, 0, none⟩ = some (.int .i64 K) ∧ w7.cell? ⟨b1, 1, none⟩ = some (.string N) ∧ w7.cell? ⟨b1, 2, none⟩ = some (.int .i64 (f : Int)) ∧ w7.cell? ⟨b1, 3, none⟩ = some (.string B) ∧ w7.cell? ⟨b1, 4, none⟩ = some (.int .i64 (c : Int)) ∧ w7.cell? ⟨b1, 5, none⟩ = some (.int .i64 (m : Int)) := cellsRp SH7.V1; obtain ⟨A7, n7, c7, rfl⟩ := o7.slice) | (fail))
    go_wp2
    (try simp only [Act.put])
    go_meet
    case rel => exact ⟨_, _, _, rfl, SH7⟩
  case rest =>
  clear c0 c1 c2 c3 c4 c5
  obtain ⟨A2, n2, k2, rfl, SH2⟩ := hcut
  obtain ⟨c0, c1, c2, c3, c4, c5⟩ := cellsRp SH2.out.V1
  by_cases hz : c = 0
  · subst hz
    have hall : ∀ y ∈ [kv, N, xf, xb], y.size ≤ 100 := fun y hy => by
      simp only [List.mem_cons, List.not_mem_nil, or_false] at hy
      rcases hy with rfl | rfl | rfl | rfl <;> omega
    obtain ⟨x, hx⟩ := hid_ex (tx (wordsL ([kv, N, xf, xb].map bs)))
    have hxs : x.size ≤ 1000 := by rw [← hx.out]; exact wl_size hall (by simp)
    have e1 : (x ++ (⟨#[10]⟩ : ByteArray)).size = x.size + 1 := by rw [ByteArray.size_append]; rfl
    have e2 : (x ++ (⟨#[10]⟩ : ByteArray) ++ B).size = x.size + 1 + B.size := by rw [ByteArray.size_append, e1]
    have e3 : (x ++ (⟨#[10]⟩ : ByteArray) ++ B ++ (⟨#[10]⟩ : ByteArray)).size = x.size + 1 + B.size + 1 := by rw [ByteArray.size_append, e2]; rfl
    go_upto_region 9 with (fail)
    go_region_with (first | (go_at_call 121; refine (l1Words_any [kv, N, xf, xb] _ _ (SH2.out.grow (Below.refl _ _).drew).o.rd (by simp) (sm_words hall)).mono ?_; rintro e wq ⟨rfl, hq⟩; subst wq; rw [hx.out]; skip) | (fail))
    all_goals
      go_wp2
      go_ret
      refine ⟨?_, SH2.out.b.drew⟩
      unfold showR
      rw [words_val]
      exact congrArg (fun q => Ending.returned (.string q)) (by rw [← hx.out, W4.out]; exact bs_inj0 (by rw [bs_app, bs_app, bs_app, bs_tx, bs_tx]; unfold tailR; simp [bs]))
  · have hz1 : ((c : Int) != 0) = true := by simp; omega
    have HZ : Hid (¬ c = 0) := hz
    clear hz
    have hall : ∀ y ∈ [kv, N, xf, xb, xc], y.size ≤ 100 := fun y hy => by
      simp only [List.mem_cons, List.not_mem_nil, or_false] at hy
      rcases hy with rfl | rfl | rfl | rfl | rfl <;> omega
    obtain ⟨x, hx⟩ := hid_ex (tx (wordsL ([kv, N, xf, xb, xc].map bs)))
    have hxs : x.size ≤ 1000 := by rw [← hx.out]; exact wl_size hall (by simp)
    have e1 : (x ++ (⟨#[10]⟩ : ByteArray)).size = x.size + 1 := by rw [ByteArray.size_append]; rfl
    have e2 : (x ++ (⟨#[10]⟩ : ByteArray) ++ B).size = x.size + 1 + B.size := by rw [ByteArray.size_append, e1]
    have e3 : (x ++ (⟨#[10]⟩ : ByteArray) ++ B ++ (⟨#[10]⟩ : ByteArray)).size = x.size + 1 + B.size + 1 := by rw [ByteArray.size_append, e2]; rfl
    go_upto_region 9 with (first | (go_at_call 120; refine (l1Int_is c (by omega) _).mono ?_; rintro e w5 ⟨rfl, hB5⟩; rw [hxc.out]; have SH5 := SH2.out.grow hB5) | (at_builtin; refine wpList_append_g infoS rfl _ _ 69 rfl Tryz.underlying69 w.heap.size _ _ [kv, N, xf, xb] rfl (SH5.grow (bAl _ _)).o (by have := (SH5).size; simp; omega) _ [xc] rfl (rd_lit (E := encS) _ [xc] 1 _ rfl (by omega) rfl) (by simp) ?_; intro v7 w7 o7 hT7; have SH7 := (SH5.grow (bAl _ _)).app hT7 o7; obtain ⟨A7, n7, c7', rfl⟩ := o7.slice) | (fail))
    obtain ⟨d0, d1, d2, d3, d4, d5⟩ := cellsRp SH7.V1
    go_region_with (first | (go_at_call 121; refine (l1Words_any [kv, N, xf, xb, xc] _ _ (SH7.grow (Below.refl _ _).drew).o.rd (by simp) (sm_words hall)).mono ?_; rintro e wq ⟨rfl, hq⟩; subst wq; rw [hx.out]; skip) | (fail))
    all_goals
      go_wp2
      go_ret
      refine ⟨?_, SH7.b.drew⟩
      unfold showR
      rw [words_val, if_neg HZ.out]
      exact congrArg (fun q => Ending.returned (.string q)) (by rw [← hx.out, W5.out]; exact bs_inj0 (by rw [bs_app, bs_app, bs_app, bs_tx, bs_tx]; unfold tailR; simp [bs]))
end Go.Proofs.YtaabmkhckbndgaaGreatDoor.cm
