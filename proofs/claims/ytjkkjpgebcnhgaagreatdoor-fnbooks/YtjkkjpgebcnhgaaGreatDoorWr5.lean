/- Reading and showing numbers, where no longest text is asked for. -/
import Derived.Test.YtjkkjpgebcnhgaaGreatDoorMg15
import Derived.Test.YtjkkjpgebcnhgaaGreatDoorShelf
import Derived.Test.YtjkkjpgebcnhgaaGreatDoorMg00
import Derived.BigQuiet
import Derived.Deep.RegionHeld3
import Derived.Lib.AppendIntMem
namespace Go.Proofs.YtjkkjpgebcnhgaaGreatDoor.cm
open Go.ChangeShapes Go.WideShapes Go.ChangeAt Go.RowKit
open Go.Proofs.YtjkkjpgebcnhgaaGreatDoor.ce Go.Proofs.YtjkkjpgebcnhgaaGreatDoor.ro Go.Proofs.YtjkkjpgebcnhgaaGreatDoor.rg
set_option linter.unusedVariables false

theorem cell_grow {w w' : World} {B b i : Nat} {v : Value} (hb : Below B w w') (hB : b < B) (h : w.cell? ⟨b, i, none⟩ = some v) : w'.cell? ⟨b, i, none⟩ = some v := by
  rw [World.cell?_of_block (w := w) (w' := w') (a := ⟨b, i, none⟩) (hb.block b hB)]
  exact h
theorem tab_grow {w w' : World} (ht : Lib.TabIs Tryz.prog w "internal/strconv.uint64pow10" .u64 Lib.pow10Tab) (hb : Below w.heap.size w w') : Lib.TabIs Tryz.prog w' "internal/strconv.uint64pow10" .u64 Lib.pow10Tab := by
  unfold Lib.TabIs World.var? at ht ⊢
  cases hg : Tryz.prog.globalNamed "internal/strconv.uint64pow10" with
  | none => rw [hg] at ht; exact ht
  | some g =>
    rw [hg] at ht
    simp only [Option.bind_some] at ht ⊢
    have hlt : g < w.heap.size := by
      cases hh : w.heap[g]? with
      | none => rw [hh] at ht; cases ht
      | some o => exact (Array.getElem?_eq_some_iff.1 hh).1
    rw [hb.block g hlt]
    exact ht
theorem itoa_digs (n : Nat) : Lib.itoa (n : Int) = digs n := by
  unfold Lib.itoa
  rw [if_neg (by omega), dec_digs]
  simp
theorem decT_is (n : Int) (l : List UInt8) (hl : Lib.itoa n = l) (h0 : -9223372036854775808 ≤ n) (h1 : n ≤ 9223372036854775807) (w : World) (tab : Lib.TabIs Tryz.prog w "internal/strconv.uint64pow10" .u64 Lib.pow10Tab) : Calls Tryz.prog 125 #[.int .i64 n] w fun e w' => e = .returned (.string (tx l)) ∧ Below w.heap.size w w' := by
  subst hl
  go_enter Tryz.func125, Tryz.ntmps125
  go_wp2_with (first | (go_at_call 132; refine (Tryz.strconv_FormatInt_10 n h0 h1 _ tab).mono ?_; rintro e w2 ⟨rfl, k, os, rfl⟩) | (fail))
  go_ret
  exact ⟨rfl, Go.Lib.below_grow _ w (Nat.le_refl _) k os⟩
theorem atoi_bd {l : List UInt8} {n : Int} (h : Lib.atoi l = some n) (h9 : (Lib.trimPrefix l [45]).length ≤ 9) : -1000000000 < n ∧ n < 1000000000 := by
  have key : ∀ (r : List UInt8) (m : Nat), Lib.decNat r = some m → r.length ≤ 9 → m < 1000000000 := fun r m hm hl => by
    rw [decNat_val] at hm
    split at hm
    · rename_i e
      have := val_lt r 0 0 (List.all_eq_true.1 e.2) (by decide)
      have h10 : (10 : Nat) ^ (0 + r.length) ≤ 10 ^ 9 := Nat.pow_le_pow_right (by decide) (by omega)
      simp at hm
      omega
    · cases hm
  cases l with
  | nil => simp [Lib.atoi] at h
  | cons b r =>
    simp only [Lib.atoi] at h
    by_cases hb : b = 45
    · subst hb
      have ht : (Lib.trimPrefix (45 :: r) [45]) = r := by simp [Lib.trimPrefix, Lib.hasPrefix]
      rw [ht] at h9
      simp only [beq_self_eq_true, if_true, Option.map_eq_some_iff] at h
      obtain ⟨m, hm, rfl⟩ := h
      have := key r m hm h9
      omega
    · have ht : (Lib.trimPrefix (b :: r) [45]) = b :: r := by
        have : Lib.hasPrefix (b :: r) [45] = false := by simp [Lib.hasPrefix, List.isPrefixOf]; exact fun q => hb (Eq.symm q)
        unfold Lib.trimPrefix
        rw [this]
        rfl
      rw [ht] at h9
      have e1 : (b == 45) = false := by simpa using hb
      simp only [e1, Bool.false_eq_true, if_false] at h
      by_cases hp : b = 43
      · subst hp
        simp only [beq_self_eq_true, if_true, Option.map_eq_some_iff] at h
        obtain ⟨m, hm, rfl⟩ := h
        have := key r m hm (by simp at h9; omega)
        omega
      · have e2 : (b == 43) = false := by simpa using hp
        simp only [e2, Bool.false_eq_true, if_false, Option.map_eq_some_iff] at h
        obtain ⟨m, hm, rfl⟩ := h
        have := key (b :: r) m hm h9
        omega
theorem itoa_bd {n : Int} (h0 : -1000000000 < n) (h1 : n < 1000000000) : (tx (Lib.itoa n)).size ≤ 100 := by
  rw [tx_size]
  unfold Lib.itoa
  split
  · rw [dec_digs, List.length_cons]
    have := digs_len 8 n.natAbs (by omega)
    omega
  · rw [dec_digs]
    have := digs_len 8 n.toNat (by omega)
    omega
theorem tx_eq {l : List UInt8} {s : ByteArray} : ((tx l).toList == s.toList) = decide (l = bs s) := by
  rw [bs_toList, bs_toList, bs_tx]
  by_cases h : l = bs s
  · rw [decide_eq_true h, h]; simp
  · rw [decide_eq_false h]; simpa using h
theorem pw_below {w w' : World} (h : w' = w ∨ ∃ t, w' = Lib.bytesWorld w 5 t) : Below w.heap.size w w' := by
  rcases h with rfl | ⟨t, rfl⟩
  · exact Below.refl _ _
  · exact Lib.bytesWorld_below w _ t
/-- what those who read and show numbers read -/
structure EnvD (w : World) : Prop where
  tab : Lib.TabIs Tryz.prog w "internal/strconv.uint64pow10" .u64 Lib.pow10Tab
  er : ∃ te pe, w.cell? ⟨1, 0, none⟩ = some (.iface te pe)
theorem EnvD.grow {w w' : World} (h : EnvD w) (hb : Below w.heap.size w w') : EnvD w' := by
  obtain ⟨te, pe, h1⟩ := h.er
  exact ⟨tab_grow h.tab hb, ⟨te, pe, cell_grow hb (World.block_lt_of_cell? w _ h1) h1⟩⟩
set_option maxHeartbeats 1000000 in
theorem numberFrom_d (s : ByteArray) (hs : s.size ≤ 1048576) (w : World) (en : EnvD w) (a : Int) (b : Bool) (hr : Hid (rdF (bs s) = (a, b))) :
    Calls Tryz.prog 124 #[.string s] w fun e w' => e = .returned (.tuple #[.int .i64 a, .bool b]) ∧ Below w.heap.size w w' := by
  have EN : Hid (EnvD w) := en
  clear en
  obtain ⟨y, hy⟩ := hid_ex (tx (Lib.trimPrefix s.data.toList [45]))
  have hyl : Hid (y.size = (Lib.trimPrefix (bs s) [45]).length) := by unfold Hid; rw [← hy.out, tx_size]; rfl
  by_cases h9 : (9 : Int) < (y.size : Int)
  · have : (a, b) = ((0 : Int), false) := by rw [← hr.out]; exact num_long (by have := hyl.out; omega)
    obtain ⟨rfl, rfl⟩ := Prod.mk.inj this
    clear this hr
    go_enter Tryz.func124, Tryz.ntmps124
    go_wp2_with (first | (go_at_call 130; refine (Tryz.strings_TrimPrefix s _ _).mono ?_; rintro e wq ⟨rfl, hq⟩; subst wq; rw [show (⟨(Lib.trimPrefix s.data.toList (⟨#[45]⟩ : ByteArray).data.toList).toArray⟩ : ByteArray) = y from hy.out]) | (fail))
    go_ret2
    exact ⟨rfl, Below.refl _ _⟩
  · have h18 : (bs s).length ≤ 18 := by have := trim_len (bs s); have := hyl.out; omega
    have hps := parse_short h18
    have h9n : (Lib.trimPrefix (bs s) [45]).length ≤ 9 := by have := hyl.out; omega
    cases ha : Lib.atoi (bs s) with
    | none =>
      rw [ha] at hps
      have hsy : Lib.parseIntB 64 s.data.toList = .«syntax» := hps
      have : (a, b) = ((0 : Int), false) := by rw [← hr.out]; exact num_none ha
      obtain ⟨rfl, rfl⟩ := Prod.mk.inj this
      have HSY : Hid (Lib.parseIntB 64 s.data.toList = .«syntax») := hsy
      clear this hr ha hps hsy
      obtain ⟨te, pe, her⟩ := EN.out.er
      have HER : Hid (w.cell? ⟨1, 0, none⟩ = some (.iface te pe)) := her
      clear her
      go_enter Tryz.func124, Tryz.ntmps124
      go_wp2_with (first | (go_at_call 130; refine (Tryz.strings_TrimPrefix s _ _).mono ?_; rintro e wq ⟨rfl, hq⟩; subst wq; rw [show (⟨(Lib.trimPrefix s.data.toList (⟨#[45]⟩ : ByteArray).data.toList).toArray⟩ : ByteArray) = y from hy.out]) | (go_at_call 131; refine (Tryz.strconv_ParseInt_10_at64_syntax s (by omega) HSY.out (.iface te pe) _ HER.out (.inr ⟨te, pe, rfl⟩)).mono ?_; rintro e w2 ⟨M, rfl, -, -, hB2⟩) | (fail))
      go_ret2
      exact ⟨rfl, hB2⟩
    | some n =>
      rw [ha] at hps
      have HOK : Hid (Lib.parseIntB 64 s.data.toList = .ok n) := hps
      have hnum := num_yes h9n ha
      rw [hr.out] at hnum
      have hnb : -1000000000 < n ∧ n < 1000000000 := by
        have h := atoi_bd ha h9n
        exact h
      obtain ⟨z, hz⟩ := hid_ex (tx (Lib.itoa n))
      have hzs : z.size ≤ 100 := by rw [← hz.out]; exact itoa_bd hnb.1 hnb.2
      clear hps hyl
      by_cases he : Lib.itoa n = bs s
      · rw [if_pos he] at hnum
        obtain ⟨rfl, rfl⟩ := Prod.mk.inj hnum
        have hb : (z.toList == s.toList) = true := by rw [← hz.out, tx_eq, decide_eq_true he]
        clear hnum hr ha he
        go_enter Tryz.func124, Tryz.ntmps124
        go_wp2_with (first | (go_at_call 130; refine (Tryz.strings_TrimPrefix s _ _).mono ?_; rintro e wq ⟨rfl, hq⟩; subst wq; rw [show (⟨(Lib.trimPrefix s.data.toList (⟨#[45]⟩ : ByteArray).data.toList).toArray⟩ : ByteArray) = y from hy.out]) | (go_at_call 131; refine (Tryz.strconv_ParseInt_10_at64_ok s (by omega) _ HOK.out _).mono ?_; rintro e w2 ⟨rfl, hw2⟩; have hB2 := pw_below hw2; clear hw2) | (go_at_call 125; refine (decT_is _ _ rfl (by omega) (by omega) _ (tab_grow EN.out.tab hB2)).mono ?_; rintro e w3 ⟨rfl, hB3⟩; rw [hz.out]) | (fail))
        go_ret2
        exact ⟨rfl, hB2.trans (hB3.mono hB2.size)⟩
      · rw [if_neg he] at hnum
        obtain ⟨rfl, rfl⟩ := Prod.mk.inj hnum
        have hb : (z.toList == s.toList) = false := by rw [← hz.out, tx_eq, decide_eq_false he]
        clear hnum hr ha he
        go_enter Tryz.func124, Tryz.ntmps124
        go_wp2_with (first | (go_at_call 130; refine (Tryz.strings_TrimPrefix s _ _).mono ?_; rintro e wq ⟨rfl, hq⟩; subst wq; rw [show (⟨(Lib.trimPrefix s.data.toList (⟨#[45]⟩ : ByteArray).data.toList).toArray⟩ : ByteArray) = y from hy.out]) | (go_at_call 131; refine (Tryz.strconv_ParseInt_10_at64_ok s (by omega) _ HOK.out _).mono ?_; rintro e w2 ⟨rfl, hw2⟩; have hB2 := pw_below hw2; clear hw2) | (go_at_call 125; refine (decT_is n _ rfl (by omega) (by omega) _ (tab_grow EN.out.tab hB2)).mono ?_; rintro e w3 ⟨rfl, hB3⟩; rw [hz.out]) | (fail))
        go_ret2
        exact ⟨rfl, hB2.trans (hB3.mono hB2.size)⟩
end Go.Proofs.YtjkkjpgebcnhgaaGreatDoor.cm
