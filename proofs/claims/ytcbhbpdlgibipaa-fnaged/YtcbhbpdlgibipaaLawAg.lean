/- FnAged's walk. -/
import Derived.Test.YtcbhbpdlgibipaaBd2
import Derived.Test.YtcbhbpdlgibipaaBb2
import Derived.Test.YtcbhbpdlgibipaaBh2
import Derived.Test.YtcbhbpdlgibipaaQt2
import Derived.Test.YtcbhbpdlgibipaaAx0
import Derived.Lib.SmallJoins
import Derived.Deep.Slices
import Derived.Deep.RegionHeld3
import Derived.BigQuiet
import Derived.Deep.DeepCutAuto
namespace Go.Proofs.Ytcbhbpdlgibipaa.lawAg
open Go.ChangeShapes Go.WideShapes Go.ChangeAt Go.RowKit
open Go.Deep Go.Joins
open Go.Proofs.Ytcbhbpdlgibipaa.ce Go.Proofs.Ytcbhbpdlgibipaa.ro Go.Proofs.Ytcbhbpdlgibipaa.rg Go.Proofs.Ytcbhbpdlgibipaa.draw
set_option linter.unusedVariables false

theorem sm_of {q : List It} (h : ∀ x ∈ q, SmI x) : SmK q := fun i hi => by
  obtain ⟨h1, h2⟩ := h i hi
  exact ⟨by omega, by omega⟩
set_option maxRecDepth 100000 in
set_option maxHeartbeats 8000000 in
theorem walk (a0 : Option Addr) (len cap : Nat) (w : World) (hlen : len ≤ 4096) (hcode0 : CodeAt w a0 len) :
    Calls Try.prog 7 #[.slice a0 len cap] w fun e w' => e = .returned (.bool true) ∧ Below w.heap.size w w' := by
  have HC : Hid (CodeAt w a0 len) := hcode0
  clear hcode0
  have hl' : ¬ (4096 : Int) < (len : Int) := by omega
  have hB : Below w.heap.size w w := Below.refl _ _
  have hzw := hB.size
  go_enter Try.func7, Try.ntmps7
  have mk1 : Hid True := trivial
  have mk2 : Hid True := trivial
  have mk3 : Hid True := trivial
  have mk4 : Hid True := trivial
  have mk5 : Hid True := trivial
  have mk6 : Hid True := trivial
  have mk7 : Hid True := trivial
  have mk8 : Hid True := trivial
  have mk9 : Hid True := trivial
  have mk10 : Hid True := trivial
  have mk11 : Hid True := trivial
  have mk12 : Hid True := trivial
  go_upto_region 8 with (first | (clear mk1; go_at_call 26; go_in) | (clear mk2; go_at_call 27; refine (drawAged_any _ _ _ _ HC.out).mono ?_; rintro er w1 ⟨v3, X, q, now, rfl, ⟨o3, sq, lq, hB1⟩, hX0, hX1⟩; have hz1 : w.heap.size ≤ w1.heap.size := hB1.size; replace hB := hB.trans (hB1.mono (by omega)); replace hzw := hB.size; have HS : Hid (SmK q) := (sm_of sq); clear sq; obtain ⟨⟨J, Y⟩, hJ⟩ := hid_ex (agR ⟨q, X⟩ now); obtain ⟨G, hG⟩ := hid_ex (agN ⟨q, X⟩ now); obtain ⟨st, hst⟩ := hid_ex (storeB ⟨q, X⟩); obtain ⟨tm, htm⟩ := hid_ex (timeB now); have hql : q.length ≤ 1048576 := (by omega); obtain ⟨A3, N3, K3, rfl⟩ := o3.slice) | (clear mk3; refine wpList_alloc_v rfl 29 rfl _ zeroBk ?_; intro b3 w2 hb3 hwb3 hB2 c3; have hz2 : w1.heap.size ≤ w2.heap.size := hB2.size; replace o3 := o3.grow hB2; replace hB := hB.trans (hB2.mono (by omega)); replace hzw := hB.size) | (clear mk4; refine wpList_store_v rfl 29 _ _ rfl b3 [.slice A3 N3 K3, .int .i64 X] rfl rfl sizeBk c3 rfl (oneBk _ _ _ _) ?_; intro w3 hO3 c3x; have hz3 : w2.heap.size ≤ w3.heap.size := (Nat.le_of_eq hO3.1.symm); have hy3 : w3.heap.size ≤ w2.heap.size := (Nat.le_of_eq hO3.1); replace o3 := o3.only hO3 c3 (by decide); replace hB := hB.trans (hO3.2.2 _ (by omega)); replace hzw := hB.size; clear c3; have c3 := c3x; clear c3x; obtain ⟨c30, c31⟩ := cells2 c3) | (clear mk5; go_at_call 18; refine (implAged_any q X now _ _ o3.rd HS.out hql).mono ?_; rintro er w4 ⟨v5, u5, rfl, o5, n5, hB4⟩; have hz4 : w3.heap.size ≤ w4.heap.size := hB4.size; replace o3 := o3.grow hB4; replace c3 := vblk_grow c3 hB4; replace hB := hB.trans (hB4.mono (by omega)); replace hzw := hB.size; clear c30 c31; obtain ⟨c30, c31⟩ := cells2 c3; rw [hJ.out] at o5; rw [hG.out] at n5; (try rw [hJ.out]); dsimp only at o5; obtain ⟨A5, N5, K5, rfl⟩ := o5.slice; obtain ⟨B5, M5, L5, rfl⟩ := n5.slice) | (clear mk6; refine wpList_alloc_v rfl 29 rfl _ zeroBk ?_; intro b5 w5 hb5 hwb5 hB5 c5; have hz5 : w4.heap.size ≤ w5.heap.size := hB5.size; replace o3 := o3.grow hB5; replace o5 := o5.grow hB5; replace n5 := n5.grow hB5; replace c3 := vblk_grow c3 hB5; replace hB := hB.trans (hB5.mono (by omega)); replace hzw := hB.size; clear c30 c31; obtain ⟨c30, c31⟩ := cells2 c3) | (clear mk7; refine wpList_store_v rfl 29 _ _ rfl b5 [.slice A5 N5 K5, .int .i64 Y] rfl rfl sizeBk c5 rfl (oneBk _ _ _ _) ?_; intro w6 hO6 c5x; have hz6 : w5.heap.size ≤ w6.heap.size := (Nat.le_of_eq hO6.1.symm); have hy6 : w6.heap.size ≤ w5.heap.size := (Nat.le_of_eq hO6.1); replace o3 := o3.only hO6 c5 (by decide); replace o5 := o5.only hO6 c5 (by decide); replace n5 := n5.only hO6 c5 (by decide); replace c3 := vblk_only c3 hO6 (by omega); replace hB := hB.trans (hO6.2.2 _ (by omega)); replace hzw := hB.size; clear c30 c31; obtain ⟨c30, c31⟩ := cells2 c3; clear c5; have c5 := c5x; clear c5x; obtain ⟨c50, c51⟩ := cells2 c5) | (clear mk8; go_at_call 17; refine (specAged_any q X now _ _ o3.rd HS.out hql).mono ?_; rintro er w7 ⟨v7, u7, rfl, o7, n7, hB7⟩; have hz7 : w6.heap.size ≤ w7.heap.size := hB7.size; replace o3 := o3.grow hB7; replace o5 := o5.grow hB7; replace n5 := n5.grow hB7; replace c3 := vblk_grow c3 hB7; replace c5 := vblk_grow c5 hB7; replace hB := hB.trans (hB7.mono (by omega)); replace hzw := hB.size; clear c30 c31; obtain ⟨c30, c31⟩ := cells2 c3; clear c50 c51; obtain ⟨c50, c51⟩ := cells2 c5; rw [hJ.out] at o7; rw [hG.out] at n7; (try rw [hJ.out]); dsimp only at o7; obtain ⟨A7, N7, K7, rfl⟩ := o7.slice; obtain ⟨B7, M7, L7, rfl⟩ := n7.slice) | (clear mk9; refine wpList_alloc_v rfl 29 rfl _ zeroBk ?_; intro b7 w8 hb7 hwb7 hB8 c7; have hz8 : w7.heap.size ≤ w8.heap.size := hB8.size; replace o3 := o3.grow hB8; replace o5 := o5.grow hB8; replace n5 := n5.grow hB8; replace o7 := o7.grow hB8; replace n7 := n7.grow hB8; replace c3 := vblk_grow c3 hB8; replace c5 := vblk_grow c5 hB8; replace hB := hB.trans (hB8.mono (by omega)); replace hzw := hB.size; clear c30 c31; obtain ⟨c30, c31⟩ := cells2 c3; clear c50 c51; obtain ⟨c50, c51⟩ := cells2 c5) | (clear mk10; refine wpList_store_v rfl 29 _ _ rfl b7 [.slice A7 N7 K7, .int .i64 Y] rfl rfl sizeBk c7 rfl (oneBk _ _ _ _) ?_; intro w9 hO9 c7x; have hz9 : w8.heap.size ≤ w9.heap.size := (Nat.le_of_eq hO9.1.symm); have hy9 : w9.heap.size ≤ w8.heap.size := (Nat.le_of_eq hO9.1); replace o3 := o3.only hO9 c7 (by decide); replace o5 := o5.only hO9 c7 (by decide); replace n5 := n5.only hO9 c7 (by decide); replace o7 := o7.only hO9 c7 (by decide); replace n7 := n7.only hO9 c7 (by decide); replace c3 := vblk_only c3 hO9 (by omega); replace c5 := vblk_only c5 hO9 (by omega); replace hB := hB.trans (hO9.2.2 _ (by omega)); replace hzw := hB.size; clear c30 c31; obtain ⟨c30, c31⟩ := cells2 c3; clear c50 c51; obtain ⟨c50, c51⟩ := cells2 c5; clear c7; have c7 := c7x; clear c7x; obtain ⟨c70, c71⟩ := cells2 c7) | (clear mk11; go_at_call 28; refine (likeBook_any J Y _ _ _ o5.rd o7.rd).mono ?_; rintro er w10 ⟨rfl, hB10⟩; have hz10 : w9.heap.size ≤ w10.heap.size := hB10.size; replace o3 := o3.grow hB10; replace o5 := o5.grow hB10; replace n5 := n5.grow hB10; replace o7 := o7.grow hB10; replace n7 := n7.grow hB10; replace c3 := vblk_grow c3 hB10; replace c5 := vblk_grow c5 hB10; replace c7 := vblk_grow c7 hB10; replace hB := hB.trans (hB10.mono (by omega)); replace hzw := hB.size; clear c30 c31; obtain ⟨c30, c31⟩ := cells2 c3; clear c50 c51; obtain ⟨c50, c51⟩ := cells2 c5; clear c70 c71; obtain ⟨c70, c71⟩ := cells2 c7) | (clear mk12; go_at_call 29; refine (likeTexts_any G _ _ _ n5.rd n7.rd).mono ?_; rintro er w11 ⟨rfl, hB11⟩; have hz11 : w10.heap.size ≤ w11.heap.size := hB11.size; replace o3 := o3.grow hB11; replace o5 := o5.grow hB11; replace n5 := n5.grow hB11; replace o7 := o7.grow hB11; replace n7 := n7.grow hB11; replace c3 := vblk_grow c3 hB11; replace c5 := vblk_grow c5 hB11; replace c7 := vblk_grow c7 hB11; replace hB := hB.trans (hB11.mono (by omega)); replace hzw := hB.size; clear c30 c31; obtain ⟨c30, c31⟩ := cells2 c3; clear c50 c51; obtain ⟨c50, c51⟩ := cells2 c5; clear c70 c71; obtain ⟨c70, c71⟩ := cells2 c7) | (fail))
  cases st with
  | false =>
    have hzz : (storeB ⟨q, X⟩ && timeB now) = false := by rw [hst.out]; rfl
    have eJ := ag_no (I := q) (X := X) (now := now) hzz
    rw [hJ.out, hG.out] at eJ
    obtain ⟨eJ1, eG⟩ := eJ
    obtain ⟨rfl, rfl⟩ : J = [] ∧ Y = 0 := by simpa using eJ1
    subst eG
    have hM5 : M5 = 0 := by have := n5.rd.cap.1; simpa using this
    subst hM5
    clear eJ1
    go_wp2_with (first | (go_at_call 9; refine (specStoreOk_any q X _ false hst _ o3.rd HS.out).mono ?_; rintro e w40 ⟨rfl, hB40⟩; replace c5 := vblk_grow c5 hB40; clear c50 c51; obtain ⟨c50, c51⟩ := cells2 c5) | (go_at_call 28; refine (likeBook_any [] 0 _ _ _ (o5.rd.grow hB40) (rd_zero encIt _ none 0 (Nat.zero_le _))).mono ?_; rintro e w41 ⟨rfl, hB41⟩) | (fail))
    go_ret
    exact ⟨rfl, (hB.trans (hB40.mono hzw)).trans (hB41.mono (Nat.le_trans hzw hB40.size))⟩
  | true =>
    cases tm with
    | false =>
      have hzz : (storeB ⟨q, X⟩ && timeB now) = false := by rw [hst.out, htm.out]; rfl
      have eJ := ag_no (I := q) (X := X) (now := now) hzz
      rw [hJ.out, hG.out] at eJ
      obtain ⟨eJ1, eG⟩ := eJ
      obtain ⟨rfl, rfl⟩ : J = [] ∧ Y = 0 := by simpa using eJ1
      subst eG
      have hM5 : M5 = 0 := by have := n5.rd.cap.1; simpa using this
      subst hM5
      clear eJ1
      by_cases hn0 : now < 0
      · go_wp2_with (first | (go_at_call 9; refine (specStoreOk_any q X _ true hst _ o3.rd HS.out).mono ?_; rintro e w40 ⟨rfl, hB40⟩; replace c5 := vblk_grow c5 hB40; clear c50 c51; obtain ⟨c50, c51⟩ := cells2 c5) | (go_at_call 28; refine (likeBook_any [] 0 _ _ _ (o5.rd.grow hB40) (rd_zero encIt _ none 0 (Nat.zero_le _))).mono ?_; rintro e w41 ⟨rfl, hB41⟩) | (fail))
        go_ret
        exact ⟨rfl, (hB.trans (hB40.mono hzw)).trans (hB41.mono (Nat.le_trans hzw hB40.size))⟩
      · have hn1 : (1000000 : Int) < now := by
          have := htm.out
          unfold timeB at this
          simp at this
          omega
        go_wp2_with (first | (go_at_call 9; refine (specStoreOk_any q X _ true hst _ o3.rd HS.out).mono ?_; rintro e w40 ⟨rfl, hB40⟩; replace c5 := vblk_grow c5 hB40; clear c50 c51; obtain ⟨c50, c51⟩ := cells2 c5) | (go_at_call 28; refine (likeBook_any [] 0 _ _ _ (o5.rd.grow hB40) (rd_zero encIt _ none 0 (Nat.zero_le _))).mono ?_; rintro e w41 ⟨rfl, hB41⟩) | (fail))
        go_ret
        exact ⟨rfl, (hB.trans (hB40.mono hzw)).trans (hB41.mono (Nat.le_trans hzw hB40.size))⟩
    | true =>
      have hnt : 0 ≤ now ∧ now ≤ 1000000 := by have := htm.out; unfold timeB at this; simpa using this
      have hn0 : ¬ now < 0 := by omega
      have hn1 : ¬ (1000000 : Int) < now := by omega
      have eJ := ag_yes (I := q) (X := X) (now := now) (by rw [hst.out, htm.out]; rfl)
      rw [hJ.out, hG.out] at eJ
      obtain ⟨eJ1, eG⟩ := eJ
      have eJI : J = ageL q now := by simpa using (congrArg Bk.I eJ1)
      have eY : Y = X := by simpa using (congrArg Bk.X eJ1)
      have EJ : Hid (J = ageL q now) := eJI
      have EG : Hid (G = goneL q now) := eG
      subst eY
      clear eJ1 eJI eG
      have OKQ : Hid (StOk ⟨q, Y⟩) := storeB_iff.1 hst.out
      have hB0 : Hid (Below w.heap.size w w11) := hB
      clear c7 c70 c71 o7 n7
      have q3 : Hid (N3 = q.length) := o3.rd.cap.1
      have q5 : Hid (N5 = J.length) := o5.rd.cap.1
      have g5 : Hid (M5 = G.length) := n5.rd.cap.1
      have hJle : J.length ≤ q.length := by have := age_le q now q.length; rw [List.take_length] at this; rw [EJ.out]; exact this.1
      have hNq : N3 ≤ 30 ∧ q.length ≤ N3 ∧ N3 ≤ q.length := by have := q3.out; omega
      have hN5 : N5 ≤ 30 := by have := q5.out; omega
      have hGl : G.length ≤ q.length := by have h := age_le q now q.length; rw [List.take_length] at h; rw [EG.out]; exact h.2
      have hM5 : M5 ≤ 30 := by have := g5.out; omega
      go_wp2_with (first | (go_at_call 9; refine (specStoreOk_any q Y _ true hst _ o3.rd HS.out).mono ?_; rintro e w40 ⟨rfl, hB40⟩) | (fail))
      have R3 : Hid (Rd encIt w40 (.slice A3 N3 K3) q) := o3.rd.grow hB40
      have R5 : Hid (Rd encIt w40 (.slice A5 N5 K5) J) := o5.rd.grow hB40
      have RN : Hid (Rd encS w40 (.slice B5 M5 L5) G) := n5.rd.grow hB40
      have V3 : Hid (VBlk w40 b3 29 [.slice A3 N3 K3, .int .i64 Y]) := vblk_grow c3 hB40
      have V5 : Hid (VBlk w40 b5 29 [.slice A5 N5 K5, .int .i64 Y]) := vblk_grow c5 hB40
      have hBw : Hid (Below w.heap.size w w40) := hB0.out.trans (hB40.mono hzw)
      clear o3 o5 n5 c3 c5 c30 c31 c50 c51 hB hB0
      go_loopw [9] (fun iv wr => ∃ i : Nat, i ≤ q.length ∧ iv = .int .i64 i ∧ Hid (Below w40.heap.size w40 wr)) (fun iv _ => q.length - (intOf iv).toNat)
      case atStart => exact ⟨0, by omega, rfl, Below.refl _ _⟩
      case round =>
        obtain ⟨i, hi1, rfl, hBr⟩ := hrel
        obtain ⟨d30, d31⟩ := cells2 (vblk_grow V3.out hBr.out)
        obtain ⟨d50, d51⟩ := cells2 (vblk_grow V5.out hBr.out)
        by_cases hlt : i < q.length
        · obtain ⟨bk, off, eA, hbk, rg0⟩ := rd_item rfl rfl (R3.out.grow hBr.out) i hlt
          have hlt' : (i : Int) < (N3 : Int) := by omega
          have hgm := gone_mem OKQ.out.bk.srt (now := now) (List.getElem_mem hlt)
          have hsf := stays_find OKQ.out.bk.srt (now := now) (List.getElem_mem hlt)
          obtain ⟨z, hz⟩ := hid_ex (q[i])
          rw [hz.out] at rg0 hgm hsf
          obtain ⟨N, F, B, C, U⟩ := z
          obtain ⟨x, hx⟩ := hid_ex (overB ⟨N, F, B, C, U⟩ now)
          obtain ⟨fi, hfi⟩ := hid_ex (findI J N)
          rw [hx.out, ← EG.out] at hgm
          rw [hx.out, ← EJ.out, hfi.out] at hsf
          have HT : Hid (x = true ↔ N ∈ G) := hgm.symm
          have hge : decide (0 ≤ fi) = !x := by
            cases x with
            | false => exact decide_eq_true (hsf.2 rfl)
            | true => exact decide_eq_false (fun h => by have := hsf.1 h; cases this)
          have hxx : (x != x) = false := by simp
          have hnx : ((!x) == x) = false := by cases x <;> rfl
          subst eA
          have rg : Hid (wr.rangeAt bk (off + i * 5) [.string N, .int .i64 F, .string B, .int .i64 C, .int .i64 U]) := rg0
          clear rg0 hgm hsf
          go_upto_region 14 with (first | (refine wpList_load_r rfl 47 _ rfl bk (off + i * 5) [.string N, .int .i64 F, .string B, .int .i64 C, .int .i64 U] rfl _ Try.underlying47 rfl sizeIt rg.out ?_) | (go_at_call 30; refine (specOverAt_any N B F C U now _ hx _).mono ?_; rintro e w50 ⟨rfl, hB50⟩) | (fail))
          have hB45 : Below w40.heap.size w40 w50 := hBr.out.trans (hB50.mono hBr.out.size)
          have hBd : Below w40.heap.size w40 w50.drew := hB45.drew
          have S1 : w50.drew.cell? ⟨b3, 0, none⟩ = some (.slice (some ⟨bk, off, none⟩) N3 K3) ∧ w50.drew.cell? ⟨b5, 0, none⟩ = some (.slice A5 N5 K5) ∧ w50.drew.cell? ⟨bk, off + i * 5, none⟩ = some (.string N) := ⟨(cells2 (vblk_grow V3.out hBd)).1, (cells2 (vblk_grow V5.out hBd)).1, (rng5 (range_of rg.out ((hB50.drew).block bk hbk))).1⟩
          go_region_held3 (fun w' => w'.cell? ⟨b3, 0, none⟩ = some (.slice (some ⟨bk, off, none⟩) N3 K3) ∧ w'.cell? ⟨b5, 0, none⟩ = some (.slice A5 N5 K5) ∧ w'.cell? ⟨bk, off + i * 5, none⟩ = some (.string N)) (first | with_reducible assumption | with_reducible exact S1 | (fail)) (first | (go_at_call 31; refine (hasText_is G N _ x HT _ (RN.out.grow hBd)).mono ?_; rintro e wq ⟨rfl, hq⟩; subst wq) | (go_at_call 32; refine (implFindItem_any J N _ _ (R5.out.grow hBd)).mono ?_; rintro e w51 ⟨he, hB51⟩; rw [hfi.out] at he; subst he; have hB46 : Below w40.heap.size w40 w51 := hBd.trans (hB51.mono hBd.size); have S2 : w51.cell? ⟨b3, 0, none⟩ = some (.slice (some ⟨bk, off, none⟩) N3 K3) ∧ w51.cell? ⟨b5, 0, none⟩ = some (.slice A5 N5 K5) ∧ w51.cell? ⟨bk, off + i * 5, none⟩ = some (.string N) := ⟨(cells2 (vblk_grow V3.out hB46)).1, (cells2 (vblk_grow V5.out hB46)).1, (rng5 (range_of (range_of rg.out ((hB50.drew).block bk hbk)) (hB51.block bk (Nat.lt_of_lt_of_le hbk hB50.size)))).1⟩) | (fail))
          go_wp2
          go_roundw
          case rel => exact ⟨i + 1, by omega, by go_num, hB46⟩
          case measure => simp [intOf]; omega
        · have hlt' : ¬ (i : Int) < (N3 : Int) := by omega
          have JOK : Hid (StOk ⟨J, Y⟩) := by unfold Hid; rw [EJ.out]; exact ⟨age_ok OKQ.out.bk now, OKQ.out.x0, OKQ.out.x1⟩
          have stJ : Hid (storeB ⟨J, Y⟩ = true) := storeB_iff.2 JOK.out
          have HSJ : Hid (SmK J) := fun x hx => HS.out x (by rw [EJ.out] at hx; exact (age_mem.1 hx).1)
          have ag2 := ag_yes (I := J) (X := Y) (now := now) (by rw [stJ.out, htm.out]; rfl)
          have at2 := age_twice q now
          rw [← EJ.out] at at2
          rw [at2.1, at2.2] at ag2
          have hag1 : Hid (agR ⟨J, Y⟩ now = ⟨J, Y⟩) := ag2.1
          have hag2 : Hid (agN ⟨J, Y⟩ now = []) := ag2.2
          have ewl : IntKind.i64.wrap ((M5 : Int) + (N5 : Int)) = (N3 : Int) := by
            have h1 := age_len q now
            rw [← EJ.out, ← EG.out] at h1
            have := q3.out; have := q5.out; have := g5.out
            rw [IntKind.wrap_i64]
            omega
          have hN33 : ((N3 : Int) == (N3 : Int)) = true := by simp
          clear ag2 at2
          have k1 : Hid True := trivial
          have k2 : Hid True := trivial
          have k3 : Hid True := trivial
          have BW : Hid (Below w.heap.size w wr) := hBw.out.trans (hBr.out.mono hBw.out.size)
          go_wp2_with (first | (clear k1; refine wpList_load_r rfl 29 _ rfl b5 0 [.slice A5 N5 K5, .int .i64 Y] rfl _ Try.underlying29 rfl sizeBk (vblk_grow V5.out hBr.out).range ?_) | (go_at_call 18; refine (implAged_any J Y now _ _ (R5.out.grow hBr.out) HSJ.out (by omega)).mono ?_; rintro e w60 ⟨v6, u6, rfl, o6, n6, hB60⟩; rw [hag1.out] at o6; rw [hag2.out] at n6; rw [hag1.out]; dsimp only at o6 ⊢; obtain ⟨A6, N6, K6, rfl⟩ := o6.slice; obtain ⟨B6, M6, L6, rfl⟩ := n6.slice; have hM6 : M6 = 0 := (by have := n6.rd.cap.1; simpa using this); subst hM6; have V5b := vblk_grow (vblk_grow V5.out hBr.out) hB60; have V3b := vblk_grow (vblk_grow V3.out hBr.out) hB60; have hz60 := hB60.size) | (clear k2; refine wpList_alloc_v rfl 29 rfl _ zeroBk ?_; intro b11 w61 hb11 hw11 hB61 V11; have V5c := vblk_grow V5b hB61; have V3c := vblk_grow V3b hB61; have o61 := o6.grow hB61) | (refine wpList_store_v rfl 29 _ _ rfl b11 [.slice A6 N6 K6, .int .i64 Y] rfl rfl sizeBk V11 rfl (oneBk _ _ _ _) ?_; intro w62 hO62 V62; have V5d := vblk_only V5c hO62 (by have := V5b.lt; omega); have V3d := vblk_only V3c hO62 (by have := V3b.lt; omega); have o62 := o61.only hO62 V11 (by decide); have R62 : Hid (Rd encIt w62 (.slice A5 N5 K5) J) := (R5.out.grow hBr.out).grow ((hB60.trans (hB61.mono hz60)).trans (hO62.2.2 _ (by omega))); have B62 : Hid (Below w.heap.size w w62) := ((BW.out.trans (hB60.mono BW.out.size)).trans (hB61.mono (by have := BW.out.size; omega))).trans (hO62.2.2 _ (by have := BW.out.size; omega))) | (clear k3; refine wpList_load_r rfl 29 _ rfl b5 0 [.slice A5 N5 K5, .int .i64 Y] rfl _ Try.underlying29 rfl sizeBk V5d.range ?_) | (go_at_call 11; refine (implStoreOk_any J Y _ true stJ _ R62.out HSJ.out).mono ?_; rintro e w63 ⟨rfl, hB63⟩; have V5e := vblk_grow V5d hB63; have V3e := vblk_grow V3d hB63; have V11e := vblk_grow V62 hB63; have o63 := o62.grow hB63; obtain ⟨f110, f111⟩ := cells2 V11e; obtain ⟨f50, f51⟩ := cells2 V5e) | (go_at_call 28; refine (likeBook_any J Y _ _ _ o63.rd (R62.out.grow hB63)).mono ?_; rintro e w64 ⟨rfl, hB64⟩; obtain ⟨e50, e51⟩ := cells2 (vblk_grow V5e hB64); obtain ⟨e30, e31⟩ := cells2 (vblk_grow V3e hB64)) | (fail))
          go_ret
          exact ⟨rfl, (B62.out.trans (hB63.mono B62.out.size)).trans (hB64.mono (Nat.le_trans B62.out.size hB63.size))⟩
end Go.Proofs.Ytcbhbpdlgibipaa.lawAg
