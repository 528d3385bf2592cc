/- Texts laid together: Cy2 Cy3. -/
import Derived.Test.YtaabmkhckbndgaaGreatDoorMg02
import Derived.Deep.LoopGhost
import Derived.Laws.DeepStrings4
/- Contracts of the model's helpers on texts: words joined. -/
namespace Go.Proofs.YtaabmkhckbndgaaGreatDoor.cm
open Go.ChangeShapes Go.WideShapes Go.ChangeAt Go.RowKit
open Go.Proofs.YtaabmkhckbndgaaGreatDoor.ce Go.Proofs.YtaabmkhckbndgaaGreatDoor.ro Go.Proofs.YtaabmkhckbndgaaGreatDoor.rg
set_option linter.unusedVariables false

theorem map_take_succ {ws : List ByteArray} {i : Nat} (h : i < ws.length) : (ws.take (i + 1)).map bs = (ws.take i).map bs ++ [bs ws[i]] := by
  rw [List.take_succ_eq_append_getElem h, List.map_append]
  rfl
theorem words_size {ws : List ByteArray} {m : Nat} (hm : ∀ x ∈ ws, x.size ≤ m) (i : Nat) : (tx (wordsL ((ws.take i).map bs))).size ≤ ws.length * (m + 1) := by
  rw [tx_size]
  refine Nat.le_trans (wordsL_len ((ws.take i).map bs) m fun w hw => ?_) ?_
  · obtain ⟨x, hx, rfl⟩ := List.mem_map.1 hw
    rw [bs_len]
    exact hm x (List.mem_of_mem_take hx)
  · rw [List.length_map, List.length_take]
    exact Nat.mul_le_mul_right _ (Nat.min_le_right ..)
theorem l1Words_any (ws : List ByteArray) (v : Value) (w : World) (r : Rd encS w v ws) (hl : ws.length ≤ 100) (hm : ∀ x ∈ ws, x.size ≤ 10000) :
    Calls Tryz.prog 121 #[v] w fun e w' => e = .returned (.string (tx (wordsL (ws.map bs)))) ∧ w' = w := by
  obtain ⟨a, cap, rfl⟩ := r.form
  have R : Hid (Rd encS w (.slice a ws.length cap) ws) := r
  have HM : Hid (∀ x ∈ ws, x.size ≤ 10000) := hm
  clear r hm
  have hsp : (⟨#[32]⟩ : ByteArray).size = 1 := rfl
  go_enter Tryz.func121, Tryz.ntmps121
  go_wp2
  go_loop [3, 4] (fun s p => ∃ (i : Nat) (out : ByteArray), i ≤ ws.length ∧ p = .int .i64 i ∧ s = .string out ∧ Hid (out = tx (wordsL ((ws.take i).map bs)))) (fun _ p => ws.length - (intOf p).toNat)
  case atStart => exact ⟨0, ⟨#[]⟩, by omega, rfl, rfl, rfl⟩
  case round =>
    obtain ⟨i, out, hi1, rfl, rfl, ho⟩ := hrel
    have hos : out.size ≤ 1000100 := by
      have := words_size HM.out i
      rw [ho.out]
      have : ws.length * 10001 ≤ 100 * 10001 := Nat.mul_le_mul_right _ hl
      omega
    by_cases hlt : i < ws.length
    · obtain ⟨b, off, rfl, hb, d0⟩ := rdS_cell R.out i hlt
      have hlt' : (i : Int) < (ws.length : Int) := by omega
      have hsz := HM.out ws[i] (List.getElem_mem hlt)
      have hmt := map_take_succ hlt
      have hws := words_snoc ((ws.take i).map bs) (bs ws[i])
      obtain ⟨z, hz⟩ := hid_ex (ws[i])
      rw [hz.out] at d0 hsz hmt hws
      by_cases h0 : i = 0
      · have h0' : decide ((i : Int) > 0) = false := decide_eq_false (by omega)
        have h0'' : ¬ (0 : Int) < (i : Int) := by omega
        have hnew : Hid (out ++ z = tx (wordsL ((ws.take (i + 1)).map bs))) := by
          unfold Hid
          have e : (ws.take i).map bs = [] := by rw [h0]; rfl
          rw [hmt, hws, if_pos e, ho.out, e, show wordsL [] = [] from rfl]
          exact bs_inj0 (by rw [bs_app, bs_tx, bs_tx]; rfl)
        clear hmt hws h0
        go_wp2
        go_round
        case rel => exact ⟨i + 1, out ++ z, by omega, by go_num, rfl, hnew⟩
        case measure => simp [intOf]; omega
      · have h0' : decide ((i : Int) > 0) = true := decide_eq_true (by omega)
        have h0'' : (0 : Int) < (i : Int) := by omega
        have hsz2 : (out ++ ⟨#[32]⟩ : ByteArray).size = out.size + 1 := by rw [ByteArray.size_append]; rfl
        have hnew : Hid (out ++ ⟨#[32]⟩ ++ z = tx (wordsL ((ws.take (i + 1)).map bs))) := by
          unfold Hid
          have e : (ws.take i).map bs ≠ [] := fun q => by
            have := congrArg List.length q
            rw [List.length_map, List.length_take, List.length_nil] at this
            omega
          rw [hmt, hws, if_neg e, ho.out]
          exact bs_inj0 (by rw [bs_app, bs_app, bs_tx, bs_tx]; simp [bs])
        clear hmt hws h0
        go_wp2
        go_round
        case rel => exact ⟨i + 1, out ++ ⟨#[32]⟩ ++ z, by omega, by go_num, rfl, hnew⟩
        case measure => simp [intOf]; omega
    · have hlt' : ¬ (i : Int) < (ws.length : Int) := by omega
      have hend : Hid (out = tx (wordsL (ws.map bs))) := by
        have := ho.out
        rw [List.take_of_length_le (by omega)] at this
        exact this
      clear ho
      go_wp2
      go_ret
      exact ⟨by rw [hend.out]; rfl, rfl⟩

end Go.Proofs.YtaabmkhckbndgaaGreatDoor.cm
/- Contracts of the model's helpers on texts: a text is split. -/
namespace Go.Proofs.YtaabmkhckbndgaaGreatDoor.cm
open Go.ChangeShapes Go.WideShapes Go.ChangeAt Go.RowKit
open Go.Proofs.YtaabmkhckbndgaaGreatDoor.ce Go.Proofs.YtaabmkhckbndgaaGreatDoor.ro Go.Proofs.YtaabmkhckbndgaaGreatDoor.rg
set_option linter.unusedVariables false

theorem bAl (w : World) (o : Obj) : Below w.heap.size w (w.alloc o) := (Below.refl _ w).alloc (Nat.le_refl _) _
theorem bs_word (s : ByteArray) (f i : Nat) : bs (s.extract f i) = ((bs s).take i).drop f := by
  rw [bs_extract, List.drop_take]
theorem bs_at (s : ByteArray) (i : Nat) (h : i < s.size) : (bs s)[i]'(by rw [bs_len]; exact h) = s[i] := by rfl
set_option maxHeartbeats 1000000 in
theorem l1Split_any (s : ByteArray) (x : UInt8) (w : World) (hs : s.size ≤ 1048576) :
    Calls Tryz.prog 65 #[.string s, .int .u8 x.toNat] w fun e w' => ∃ v, e = .returned v ∧ ∃ L, L.map bs = splitL x (bs s) ∧ Own encS w' w.heap.size w'.heap.size v L ∧ Below w.heap.size w w' := by
  obtain ⟨xn, hxn⟩ : ∃ n : Int, (x.toNat : Int) = n := ⟨_, rfl⟩
  rw [hxn]
  have HX : Hid ((x.toNat : Int) = xn) := hxn
  clear hxn
  go_enter Tryz.func65, Tryz.ntmps65
  go_wp2
  go_loopw [5, 6, 7] (fun o f p wr => ∃ (i fr : Nat) (A : Option Addr) (n c : Nat) (L : List ByteArray), p = .int .i64 i ∧ f = .int .i64 fr ∧ o = .slice A n c ∧ i ≤ s.size + 1 ∧ fr ≤ i ∧ Hid (Own encS wr w.heap.size wr.heap.size (.slice A n c) L) ∧ L.length ≤ i ∧ Hid (i ≤ s.size → Spl x (bs s) i fr (L.map bs)) ∧ Hid (s.size < i → L.map bs = splitL x (bs s)) ∧ Below w.heap.size w wr) (fun _ _ p _ => s.size + 2 - (intOf p).toNat)
  case atStart => exact ⟨0, 0, _, _, _, [], rfl, rfl, rfl, by omega, by omega, own_zero _ _ _ _ _, by simp, fun _ => spl_start x (bs s), fun h => by omega, bAl w _⟩
  case round =>
    obtain ⟨i, fr, A, n, c, L, rfl, rfl, rfl, hi, hf, O, hL, hS, hE, hB⟩ := hrel
    have hzz := hB.size
    by_cases hle : i ≤ s.size
    · have hle' : (i : Int) ≤ (s.size : Int) := by omega
      have hsp := hS.out hle
      have hex : bs (s.extract fr i) = ((bs s).take i).drop fr := bs_word s fr i
      obtain ⟨z, hz⟩ := hid_ex (s.extract fr i)
      by_cases heq : i = s.size
      · have heq' : ((i : Int) == (s.size : Int)) = true := by simp; omega
        have hfin : Hid ((L ++ [z]).map bs = splitL x (bs s)) := by
          unfold Hid
          rw [spl_end hsp (by rw [bs_len]; exact heq), List.map_append, ← hz.out]
          simp [hex]
        have hez : s.extract fr i = z := hz.out
        have hge : s.size ≤ i := by omega
        clear heq hsp hex hz hS hE
        go_wp2_with (first | (at_builtin; refine wpList_append_g infoS rfl _ _ 69 rfl Tryz.underlying69 w.heap.size _ _ L rfl (O.out.grow (bAl wr _)) (by simp; omega) _ [z] rfl (rd_new (E := encS) wr z #[.string z] rfl) (by simp; omega) ?_; intro v7 w7 o7 hT7; obtain ⟨A7, n7, c7, rfl⟩ := o7.slice) | (fail))
        go_roundw
        case rel => exact ⟨i + 1, i + 1, A7, n7, c7, L ++ [z], by go_num, by go_num, rfl, by omega, by omega, o7, by simp; omega, fun h => by omega, fun _ => hfin.out, (hB.trans ((bAl wr _).mono hzz)).trans hT7.low⟩
        case measure => simp [intOf]; omega
      · have heq' : ((i : Int) == (s.size : Int)) = false := by simp; omega
        have hlt : i < s.size := by omega
        have hlt' : (i : Int) < (s.size : Int) := by omega
        by_cases hx : s[i] = x
        · have hxb : ((s[i].toNat : Int) == xn) = true := by rw [← HX.out, hx]; simp
          have hsp2 : Hid (Spl x (bs s) (i + 1) (i + 1) ((L ++ [z]).map bs)) := by
            unfold Hid
            have := spl_cut hsp (by rw [bs_len]; exact hlt) (by rw [bs_at s i hlt]; exact hx)
            rw [List.map_append, ← hz.out]
            simpa [hex] using this
          have hez : s.extract fr i = z := hz.out
          clear heq hsp hex hz hS hE hx
          go_wp2_with (first | (at_builtin; refine wpList_append_g infoS rfl _ _ 69 rfl Tryz.underlying69 w.heap.size _ _ L rfl (O.out.grow (bAl wr _)) (by simp; omega) _ [z] rfl (rd_new (E := encS) wr z #[.string z] rfl) (by simp; omega) ?_; intro v7 w7 o7 hT7; obtain ⟨A7, n7, c7, rfl⟩ := o7.slice) | (fail))
          go_roundw
          case rel => exact ⟨i + 1, i + 1, A7, n7, c7, L ++ [z], by go_num, by go_num, rfl, by omega, by omega, o7, by simp; omega, fun _ => hsp2.out, fun h => by omega, (hB.trans ((bAl wr _).mono hzz)).trans hT7.low⟩
          case measure => simp [intOf]; omega
        · have hxb : ((s[i].toNat : Int) == xn) = false := by
            rw [← HX.out]
            simp
            exact fun h => hx (UInt8.toNat_inj.1 (by omega))
          have hsp2 : Hid (Spl x (bs s) (i + 1) fr (L.map bs)) := spl_pass hsp (by rw [bs_len]; exact hlt) (by rw [bs_at s i hlt]; exact hx)
          clear heq hsp hex hz hS hE hx
          go_wp2
          go_roundw
          case rel => exact ⟨i + 1, fr, A, n, c, L, by go_num, rfl, rfl, by omega, by omega, O, by omega, fun _ => hsp2.out, fun h => by omega, hB⟩
          case measure => simp [intOf]; omega
    · have hle' : ¬ (i : Int) ≤ (s.size : Int) := by omega
      have hfin := hE.out (by omega)
      have HF : Hid (L.map bs = splitL x (bs s)) := hfin
      clear hfin hS hE
      go_wp2
      go_ret
      exact ⟨_, rfl, L, HF.out, O.out, hB⟩
end Go.Proofs.YtaabmkhckbndgaaGreatDoor.cm
