/- The walk of the law FnSplit. -/
import Derived.Test.YtbialeffdpmcjaaLv1
import Derived.Deep.DeepCutAuto
namespace Go.Proofs.Ytbialeffdpmcjaa.lawSp
open Go.ChangeShapes Go.WideShapes Go.ChangeAt Go.RowKit
open Go.Proofs.Ytbialeffdpmcjaa.ce Go.Proofs.Ytbialeffdpmcjaa.sx Go.Proofs.Ytbialeffdpmcjaa.draw
set_option linter.unusedVariables false

/-- numbers that are read, all below the heap's end -/
structure RdC (W : World) (v : Value) (xs : List Int) : Prop where
  rd : RdI W W.heap.size v xs
theorem RdC.step {W W' : World} {v : Value} {xs : List Int} (r : RdC W v xs) (hB : Below W.heap.size W W') : RdC W' v xs := ⟨(r.rd.below hB (Nat.le_refl _)).wide hB.size⟩
theorem rd_slice {w : World} {hi : Nat} {v : Value} {xs : List Int} (r : RdI w hi v xs) : ∃ a n k, v = .slice a n k := by
  obtain ⟨a, cap, e⟩ := r.form
  exact ⟨a, _, cap, e⟩
theorem rd_len {w : World} {hi : Nat} {a : Option Addr} {n k : Nat} {xs : List Int} (r : RdI w hi (.slice a n k) xs) : n = xs.length := by
  obtain ⟨a', cap, e⟩ := r.form
  cases e
  rfl
/-- a split in its variable -/
structure At (W : World) (b : Nat) (n : Int) (v : Value) (ks : List Int) : Prop where
  c : SV W b 27 (.int .i64 n) v
  rd : RdI W W.heap.size v ks
theorem At.cells {W : World} {b : Nat} {n : Int} {v : Value} {ks : List Int} (h : At W b n v ks) : W.cell? ⟨b, 0, none⟩ = some (.int .i64 n) ∧ W.cell? ⟨b, 1, none⟩ = some v := h.c.cells
theorem At.step {W W' : World} {b : Nat} {n : Int} {v : Value} {ks : List Int} (h : At W b n v ks) (hB : Below W.heap.size W W') : At W' b n v ks :=
  ⟨h.c.below hB h.c.lt, (RdC.step ⟨h.rd⟩ hB).rd⟩
/-- what the law has drawn and made so far -/
structure LS (w W : World) (L : List (Nat × Int × Value × List Int)) : Prop where
  all : ∀ e ∈ L, At W e.1 e.2.1 e.2.2.1 e.2.2.2
  low : Below w.heap.size w W
theorem LS.step {w W W' : World} {L : List (Nat × Int × Value × List Int)} (h : LS w W L) (hB : Below W.heap.size W W') : LS w W' L :=
  ⟨fun e he => (h.all e he).step hB, h.low.trans (hB.mono h.low.size)⟩
theorem LS.push {w W : World} {L : List (Nat × Int × Value × List Int)} {b : Nat} {n : Int} {v : Value} {ks : List Int} (h : LS w W L) (hv : VBlk W b 27 [.int .i64 n, v]) (r : RdC W v ks) : LS w W ((b, n, v, ks) :: L) :=
  ⟨fun e he => by
    rcases List.mem_cons.1 he with rfl | he
    · exact ⟨⟨hv⟩, r.rd⟩
    · exact h.all e he, h.low⟩
structure CodeK (w : World) (a0 : Option Addr) (len : Nat) : Prop where
  c : CodeAt w a0 len
theorem CodeK.step {w W : World} {L : List (Nat × Int × Value × List Int)} {a0 : Option Addr} {len : Nat} (h : CodeK w a0 len) (hS : LS w W L) : CodeAt W a0 len := code7_below h.c hS.low

theorem opened_says {n b : Int} {ks : List Int} {M : Int} {J : List Int} (hZ : opB n ks b = true) (hM : opN n ks = M) (hJ : opK n ks b = J) :
    0 ≤ b ∧ b < n ∧ 1 ≤ n ∧ n ≤ 64 ∧ splitB M J = true ∧ (∀ k ∈ J, k ≤ 9223372036854775807) ∧ mk b ∈ J ∧ ∀ d, beL M J d = beL n ks d := by
  unfold opB at hZ
  simp only [Bool.and_eq_true, decide_eq_true_eq] at hZ
  obtain ⟨hok, h0, h1⟩ := hZ
  have OK := splitB_iff.1 hok
  have hb := OK.bd
  subst hM hJ
  have e1 : opN n ks = n := if_pos hok
  have e2 : opK n ks b = opn b.toNat ks b := by unfold opK; rw [if_pos hok, if_pos ⟨h0, h1⟩]
  rw [e1, e2]
  have ho := opn_ok OK b.toNat h1
  exact ⟨h0, h1, hb.1, hb.2, splitB_iff.2 ho, fun k hk => by have := ho.key hk; omega, open_has OK h0 h1, fun d => behind_open OK h1 _⟩
theorem stored_true {n h : Int} {ks : List Int} {M : Int} {J : List Int} (hZ : stB n ks h = true) (hM : opN n ks = M) (hJ : stK n ks h = J) :
    0 ≤ h ∧ h ≤ 32767 ∧ 1 ≤ n ∧ n ≤ 64 ∧ splitB M J = true ∧ (∀ k ∈ J, k ≤ 9223372036854775807) ∧ h ∈ beL M J (h % n) ∧ 0 ≤ paI M J h ∧ paI M J h < ((beL M J (h % n)).length : Int) := by
  unfold stB at hZ
  simp only [Bool.and_eq_true, decide_eq_true_eq, Bool.not_eq_true'] at hZ
  obtain ⟨hok, h0, h1, hA⟩ := hZ
  have OK := splitB_iff.1 hok
  have hb := OK.bd
  subst hM hJ
  have e1 : opN n ks = n := if_pos hok
  have e2 : stK n ks h = ins (opn (h % n).toNat ks (h % n)) (itk h) := by unfold stK; rw [if_pos hok, if_pos ⟨⟨h0, h1⟩, by rw [hA]; simp⟩]
  rw [e1, e2]
  obtain ⟨ho, s1, s2, s3⟩ := stored_says OK h0 h1
  exact ⟨h0, h1, hb.1, hb.2, splitB_iff.2 ho, fun k hk => by have := ho.key hk; omega, s1, s2, s3⟩
theorem stored_false {n h : Int} {ks : List Int} (hZ : stB n ks h = false) (hok : splitB n ks = true) : opN n ks = n ∧ stK n ks h = ks := by
  refine ⟨if_pos hok, ?_⟩
  unfold stK
  rw [if_pos hok]
  refine if_neg fun q => ?_
  unfold stB at hZ
  rw [hok, decide_eq_true q.1.1, decide_eq_true q.1.2, show isAt ks (itk h) = false by simpa using q.2] at hZ
  exact absurd hZ (by decide)

theorem turned_is {k t : Int} (h : turn k 15 = t) (w : World) : Calls Try.prog 43 #[.int .i64 k, .int .i64 15] w fun e w' => e = .returned (.int .i64 t) ∧ w' = w := by rw [← h]; exact specTurned_any k 15 w
theorem has_yes {xs : List Int} {n : Int} {v : Value} {hi : Nat} {w : World} (h : n ∈ xs) (r : RdI w hi v xs) : Calls Try.prog 41 #[v, .int .i64 n] w fun e w' => e = .returned (.bool true) ∧ w' = w := by
  have q := hasInt7 xs n v hi w r
  rw [decide_eq_true h] at q
  exact q

set_option maxRecDepth 100000 in
set_option maxHeartbeats 6000000 in
theorem walk (a0 : Option Addr) (len cap : Nat) (w : World) (hl : len ≤ 4096) (hcode0 : CodeAt w a0 len) :
    Calls Try.prog 10 #[.slice a0 len cap] w fun e w' => e = .returned (.bool true) ∧ Below w.heap.size w w' := by
  have hC : CodeK w a0 len := ⟨hcode0⟩
  clear hcode0
  have hS : LS w w [] := ⟨fun e he => (by cases he), Below.refl _ _⟩
  have hl' : ¬ (4096 : Int) < (len : Int) := by omega
  go_enter Try.func10, Try.ntmps10
  have mk1 : Hid True := trivial
  have mk2 : Hid True := trivial
  have mk3 : Hid True := trivial
  have mk4 : Hid True := trivial
  have mk5 : Hid True := trivial
  have mk6 : Hid True := trivial
  have mk7 : Hid True := trivial
  have mk8 : Hid True := trivial
  have mk9 : Hid True := trivial
  have mk10 : Hid True := trivial
  have mk11 : Hid True := trivial
  have mk12 : Hid True := trivial
  have mk13 : Hid True := trivial
  have mk14 : Hid True := trivial
  have mk15 : Hid True := trivial
  have mk16 : Hid True := trivial
  have mk17 : Hid True := trivial
  have mk18 : Hid True := trivial
  have mk19 : Hid True := trivial
  have mk20 : Hid True := trivial
  have mk21 : Hid True := trivial
  go_upto_region 10 with (first | (go_at_call 34; go_in) | (clear mk1; go_at_call 35; refine (draw.drawStored_any _ a0 len cap (hC.step hS)).mono ?_; rintro er w1 ⟨n1, v1, k1, g1, rfl, hn1, hm1, hl1, hk1, rd, ab, hlo1, hup1, hB1⟩; replace hS := hS.step hB1; obtain ⟨A1, N1, C1, rfl⟩ := rd_slice rd; have rr : RdC w1 (.slice A1 N1 C1) k1 := ⟨rd⟩; clear rd ab; have K1 : Hid (∀ k ∈ k1, k ≤ 9223372036854775807) := (fun k hk => by have := hk1 k hk; omega); clear hk1) | (clear mk2; refine wpList_alloc_v rfl 27 rfl _ zeroSp ?_; intro b3 w2 hb2 hw2 hBa2 hVa2) | (clear mk3; refine wpList_store_v rfl 27 _ _ rfl b3 [.int .i64 n1, .slice A1 N1 C1] rfl rfl sizeSp hVa2 rfl (by simp [Value.oneCell']) ?_; intro w3 hO3 hVb3; have hB3 := hBa2.trans (hO3.2.2 _ hb2); replace hS := (hS.step hB3).push hVb3 (rr.step hB3); clear rr hVb3 hVa2 hO3 hBa2; obtain ⟨eb30, eb31⟩ := (hS.all _ (.head _)).cells) | (clear mk4; go_at_call 24; refine (implStored_all n1 k1 K1.out _ _ _ (Nat.le_refl _) (hS.all _ (.head _)).rd g1).mono ?_; rintro er w4 ⟨v5, he, oo, hB4⟩; replace hS := hS.step hB4; obtain ⟨M5, hM5⟩ := hid_ex (opN n1 k1); obtain ⟨Z5, hZ5⟩ := hid_ex (stB n1 k1 g1); obtain ⟨J5, hJ5⟩ := hid_ex (stK n1 k1 g1); have hzz5 : (Z5 != Z5) = false := bne_self_eq_false _; rw [hM5.out, hZ5.out] at he; subst he; rw [hJ5.out] at oo; obtain ⟨A5, N5, C5, rfl⟩ := own_slice oo; have rr : RdC w4 (.slice A5 N5 C5) J5 := ⟨oo.rd⟩; clear oo) | (clear mk5; refine wpList_alloc_v rfl 27 rfl _ zeroSp ?_; intro b5 w5 hb5 hw5 hBa5 hVa5) | (clear mk6; refine wpList_store_v rfl 27 _ _ rfl b5 [.int .i64 M5, .slice A5 N5 C5] rfl rfl sizeSp hVa5 rfl (by simp [Value.oneCell']) ?_; intro w6 hO6 hVb6; have hB6 := hBa5.trans (hO6.2.2 _ hb5); replace hS := (hS.step hB6).push hVb6 (rr.step hB6); clear rr hVb6 hVa5 hO6 hBa5; clear eb30 eb31) | (clear mk7; go_at_call 36; refine (draw.drawOpened_any _ a0 len cap (hC.step hS)).mono ?_; rintro er w7 ⟨n2, v2, k2, g2, rfl, hn2, hm2, hl2, hk2, rd, ab, hlo2, hup2, hB7⟩; replace hS := hS.step hB7; obtain ⟨A2, N2, C2, rfl⟩ := rd_slice rd; have rr : RdC w7 (.slice A2 N2 C2) k2 := ⟨rd⟩; clear rd ab; have K2 : Hid (∀ k ∈ k2, k ≤ 9223372036854775807) := (fun k hk => by have := hk2 k hk; omega); clear hk2) | (clear mk8; refine wpList_alloc_v rfl 27 rfl _ zeroSp ?_; intro b7 w8 hb8 hw8 hBa8 hVa8) | (clear mk9; refine wpList_store_v rfl 27 _ _ rfl b7 [.int .i64 n2, .slice A2 N2 C2] rfl rfl sizeSp hVa8 rfl (by simp [Value.oneCell']) ?_; intro w9 hO9 hVb9; have hB9 := hBa8.trans (hO9.2.2 _ hb8); replace hS := (hS.step hB9).push hVb9 (rr.step hB9); clear rr hVb9 hVa8 hO9 hBa8; obtain ⟨eb70, eb71⟩ := (hS.all _ (.head _)).cells) | (clear mk10; go_at_call 22; refine (implOpened_all n2 k2 K2.out _ _ _ (Nat.le_refl _) (hS.all _ (.head _)).rd g2).mono ?_; rintro er w10 ⟨v6, he, oo, hB10⟩; replace hS := hS.step hB10; obtain ⟨M6, hM6⟩ := hid_ex (opN n2 k2); obtain ⟨Z6, hZ6⟩ := hid_ex (opB n2 k2 g2); obtain ⟨J6, hJ6⟩ := hid_ex (opK n2 k2 g2); have hzz6 : (Z6 != Z6) = false := bne_self_eq_false _; rw [hM6.out, hZ6.out] at he; subst he; rw [hJ6.out] at oo; obtain ⟨A6, N6, C6, rfl⟩ := own_slice oo; have rr : RdC w10 (.slice A6 N6 C6) J6 := ⟨oo.rd⟩; clear oo) | (clear mk11; refine wpList_alloc_v rfl 27 rfl _ zeroSp ?_; intro b9 w11 hb11 hw11 hBa11 hVa11) | (clear mk12; refine wpList_store_v rfl 27 _ _ rfl b9 [.int .i64 M6, .slice A6 N6 C6] rfl rfl sizeSp hVa11 rfl (by simp [Value.oneCell']) ?_; intro w12 hO12 hVb12; have hB12 := hBa11.trans (hO12.2.2 _ hb11); replace hS := (hS.step hB12).push hVb12 (rr.step hB12); clear rr hVb12 hVa11 hO12 hBa11; clear eb70 eb71) | (clear mk13; go_at_call 37; refine (draw.drawBehind_any _ a0 len cap (hC.step hS)).mono ?_; rintro er w13 ⟨n3, v3, k3, g3, rfl, hn3, hm3, hl3, hk3, rd, ab, hlo3, hup3, hB13⟩; replace hS := hS.step hB13; obtain ⟨A3, N3, C3, rfl⟩ := rd_slice rd; have rr : RdC w13 (.slice A3 N3 C3) k3 := ⟨rd⟩; clear rd ab; have K3 : Hid (∀ k ∈ k3, k ≤ 9223372036854775807) := (fun k hk => by have := hk3 k hk; omega); clear hk3) | (clear mk14; refine wpList_alloc_v rfl 27 rfl _ zeroSp ?_; intro b11 w14 hb14 hw14 hBa14 hVa14) | (clear mk15; refine wpList_store_v rfl 27 _ _ rfl b11 [.int .i64 n3, .slice A3 N3 C3] rfl rfl sizeSp hVa14 rfl (by simp [Value.oneCell']) ?_; intro w15 hO15 hVb15; have hB15 := hBa14.trans (hO15.2.2 _ hb14); replace hS := (hS.step hB15).push hVb15 (rr.step hB15); clear rr hVb15 hVa14 hO15 hBa14) | (clear mk16; go_at_call 38; refine (draw.drawPassed_any _ a0 len cap (hC.step hS)).mono ?_; rintro er w16 ⟨n4, v4, k4, g4, rfl, hn4, hm4, hl4, hk4, rd, ab, hlo4, hup4, hB16⟩; replace hS := hS.step hB16; obtain ⟨A4, N4, C4, rfl⟩ := rd_slice rd; have rr : RdC w16 (.slice A4 N4 C4) k4 := ⟨rd⟩; clear rd ab; have K4 : Hid (∀ k ∈ k4, k ≤ 9223372036854775807) := (fun k hk => by have := hk4 k hk; omega); clear hk4) | (clear mk17; refine wpList_alloc_v rfl 27 rfl _ zeroSp ?_; intro b13 w17 hb17 hw17 hBa17 hVa17) | (clear mk18; refine wpList_store_v rfl 27 _ _ rfl b13 [.int .i64 n4, .slice A4 N4 C4] rfl rfl sizeSp hVa17 rfl (by simp [Value.oneCell']) ?_; intro w18 hO18 hVb18; have hB18 := hBa17.trans (hO18.2.2 _ hb17); replace hS := (hS.step hB18).push hVb18 (rr.step hB18); clear rr hVb18 hVa17 hO18 hBa17; obtain ⟨eb30, eb31⟩ := (hS.all _ (.tail _ (.tail _ (.tail _ (.tail _ (.tail _ (.head _))))))).cells) | (clear mk19; go_at_call 23; refine (specStored_all n1 k1 K1.out _ _ _ (Nat.le_refl _) (hS.all _ (.tail _ (.tail _ (.tail _ (.tail _ (.tail _ (.head _))))))).rd g1).mono ?_; rintro er w19 ⟨v7, he, oo, hB19⟩; replace hS := hS.step hB19; rw [hM5.out, hZ5.out] at he; subst he; rw [hJ5.out] at oo; obtain ⟨A7, N7, C7, rfl⟩ := own_slice oo; have rr : RdC w19 (.slice A7 N7 C7) J5 := ⟨oo.rd⟩; clear oo) | (clear mk20; refine wpList_alloc_v rfl 27 rfl _ zeroSp ?_; intro b15 w20 hb20 hw20 hBa20 hVa20) | (clear mk21; refine wpList_store_v rfl 27 _ _ rfl b15 [.int .i64 M5, .slice A7 N7 C7] rfl rfl sizeSp hVa20 rfl (by simp [Value.oneCell']) ?_; intro w21 hO21 hVb21; have hB21 := hBa20.trans (hO21.2.2 _ hb20); replace hS := (hS.step hB21).push hVb21 (rr.step hB21); clear rr hVb21 hVa20 hO21 hBa20; clear eb30 eb31) | (fail))
  go_cut [86] from 65 to 86 (fun c wx => c = .bool false ∧ LS w wx [(b15, M5, .slice A7 N7 C7, J5), (b13, n4, .slice A4 N4 C4, k4), (b11, n3, .slice A3 N3 C3, k3), (b9, M6, .slice A6 N6 C6, J6), (b7, n2, .slice A2 N2 C2, k2), (b5, M5, .slice A5 N5 C5, J5), (b3, n1, .slice A1 N1 C1, k1)])
  case first =>
    as_aux_lemma =>
      obtain ⟨Y1, hY1⟩ := hid_ex (splitB n1 k1)
      have hyy : (Y1 != Y1) = false := bne_self_eq_false _
      replace hS := hS.step ((Below.refl _ _).drew)
      have mk22 : Hid True := trivial
      have mk23 : Hid True := trivial
      have mk24 : Hid True := trivial
      have mk25 : Hid True := trivial
      have mk26 : Hid True := trivial
      have mk27 : Hid True := trivial
      go_region_held3 (fun w' => (w'.cell? ⟨b5, 0, none⟩ = some (.int .i64 M5) ∧ w'.cell? ⟨b5, 1, none⟩ = some (.slice A5 N5 C5) ∧ w'.cell? ⟨b15, 0, none⟩ = some (.int .i64 M5) ∧ w'.cell? ⟨b15, 1, none⟩ = some (.slice A7 N7 C7) ∧ w'.cell? ⟨b3, 0, none⟩ = some (.int .i64 n1) ∧ w'.cell? ⟨b3, 1, none⟩ = some (.slice A1 N1 C1))) (first | assumption | exact ⟨(hS.all _ (.tail _ (.tail _ (.tail _ (.tail _ (.tail _ (.head _))))))).cells.1, (hS.all _ (.tail _ (.tail _ (.tail _ (.tail _ (.tail _ (.head _))))))).cells.2, (hS.all _ (.head _)).cells.1, (hS.all _ (.head _)).cells.2, (hS.all _ (.tail _ (.tail _ (.tail _ (.tail _ (.tail _ (.tail _ (.head _)))))))).cells.1, (hS.all _ (.tail _ (.tail _ (.tail _ (.tail _ (.tail _ (.tail _ (.head _)))))))).cells.2⟩) (first | (clear mk22; go_at_call 39; refine (likeSplit_any M5 J5 _ _ _ _ _ (Nat.le_refl _) (Nat.le_refl _) (hS.all _ (.tail _ (.tail _ (.tail _ (.tail _ (.tail _ (.head _))))))).rd (hS.all _ (.head _)).rd).mono ?_; rintro er w22 ⟨rfl, hB22⟩; replace hS := hS.step hB22) | (clear mk23; go_at_call 15; refine (implSplitOk_any n1 k1 K1.out _ _ _ (Nat.le_refl _) (hS.all _ (.tail _ (.tail _ (.tail _ (.tail _ (.tail _ (.tail _ (.head _)))))))).rd).mono ?_; rintro er w23 ⟨rfl, hB23⟩; replace hS := hS.step hB23; rw [hY1.out]) | (clear mk24; go_at_call 13; refine (specSplitOk_any n1 k1 _ _ _ (Nat.le_refl _) (hS.all _ (.tail _ (.tail _ (.tail _ (.tail _ (.tail _ (.tail _ (.head _)))))))).rd).mono ?_; rintro er w24 ⟨rfl, hB24⟩; replace hS := hS.step hB24; rw [hY1.out]) | (clear mk25; go_at_call 18; refine (implNewSplit_all _).mono ?_; rintro er w25 ⟨vv, rfl, oo, hB25⟩; replace hS := hS.step hB25; (try replace rn2 := rn2.step hB25); obtain ⟨Aa, Na, Ca, rfl⟩ := own_slice oo; have rn1 : RdC w25 (.slice Aa Na Ca) [0] := ⟨oo.rd⟩; clear oo) | (clear mk26; go_at_call 17; refine (specNewSplit_all _).mono ?_; rintro er w26 ⟨vv, rfl, oo, hB26⟩; replace hS := hS.step hB26; (try replace rn1 := rn1.step hB26); obtain ⟨Ab, Nb, Cb, rfl⟩ := own_slice oo; have rn2 : RdC w26 (.slice Ab Nb Cb) [0] := ⟨oo.rd⟩; clear oo) | (clear mk27; go_at_call 39; refine (likeSplit_any 1 [0] _ _ _ _ _ (Nat.le_refl _) (Nat.le_refl _) rn1.rd rn2.rd).mono ?_; rintro er w27 ⟨rfl, hB27⟩; replace hS := hS.step hB27) | (fail))
      all_goals
        go_wp2
        go_meet
        case rel => exact ⟨rfl, hS⟩
  case rest =>
    obtain ⟨rfl, hS⟩ := hcut
    obtain ⟨eb70, eb71⟩ := (hS.all _ (.tail _ (.tail _ (.tail _ (.tail _ (.head _)))))).cells
    have mk28 : Hid True := trivial
    have mk29 : Hid True := trivial
    have mk30 : Hid True := trivial
    go_upto_region 13 with (first | (clear mk28; go_at_call 21; refine (specOpened_all n2 k2 K2.out _ _ _ (Nat.le_refl _) (hS.all _ (.tail _ (.tail _ (.tail _ (.tail _ (.head _)))))).rd g2).mono ?_; rintro er w28 ⟨v8, he, oo, hB28⟩; replace hS := hS.step hB28; rw [hM6.out, hZ6.out] at he; subst he; rw [hJ6.out] at oo; obtain ⟨A8, N8, C8, rfl⟩ := own_slice oo; have rr : RdC w28 (.slice A8 N8 C8) J6 := ⟨oo.rd⟩; clear oo) | (clear mk29; refine wpList_alloc_v rfl 27 rfl _ zeroSp ?_; intro b17 w29 hb29 hw29 hBa29 hVa29) | (clear mk30; refine wpList_store_v rfl 27 _ _ rfl b17 [.int .i64 M6, .slice A8 N8 C8] rfl rfl sizeSp hVa29 rfl (by simp [Value.oneCell']) ?_; intro w30 hO30 hVb30; have hB30 := hBa29.trans (hO30.2.2 _ hb29); replace hS := (hS.step hB30).push hVb30 (rr.step hB30); clear rr hVb30 hVa29 hO30 hBa29; clear eb70 eb71) | (fail))
    go_cut [120] from 93 to 120 (fun c wx => c = .bool false ∧ LS w wx [(b17, M6, .slice A8 N8 C8, J6), (b15, M5, .slice A7 N7 C7, J5), (b13, n4, .slice A4 N4 C4, k4), (b11, n3, .slice A3 N3 C3, k3), (b9, M6, .slice A6 N6 C6, J6), (b7, n2, .slice A2 N2 C2, k2), (b5, M5, .slice A5 N5 C5, J5), (b3, n1, .slice A1 N1 C1, k1)])
    case first =>
      as_aux_lemma =>
        obtain ⟨Be, hBe⟩ := hid_ex (beL n3 k3 g3)
        obtain ⟨Pa, hPa⟩ := hid_ex (paI n4 k4 g4)
        have hpp : (Pa != Pa) = false := bne_self_eq_false _
        replace hS := hS.step ((Below.refl _ _).drew)
        have mk31 : Hid True := trivial
        have mk32 : Hid True := trivial
        have mk33 : Hid True := trivial
        have mk34 : Hid True := trivial
        have mk35 : Hid True := trivial
        have mk36 : Hid True := trivial
        go_region_held3 (fun w' => (w'.cell? ⟨b9, 0, none⟩ = some (.int .i64 M6) ∧ w'.cell? ⟨b9, 1, none⟩ = some (.slice A6 N6 C6) ∧ w'.cell? ⟨b17, 0, none⟩ = some (.int .i64 M6) ∧ w'.cell? ⟨b17, 1, none⟩ = some (.slice A8 N8 C8) ∧ w'.cell? ⟨b11, 0, none⟩ = some (.int .i64 n3) ∧ w'.cell? ⟨b11, 1, none⟩ = some (.slice A3 N3 C3) ∧ w'.cell? ⟨b13, 0, none⟩ = some (.int .i64 n4) ∧ w'.cell? ⟨b13, 1, none⟩ = some (.slice A4 N4 C4))) (first | assumption | exact ⟨(hS.all _ (.tail _ (.tail _ (.tail _ (.tail _ (.head _)))))).cells.1, (hS.all _ (.tail _ (.tail _ (.tail _ (.tail _ (.head _)))))).cells.2, (hS.all _ (.head _)).cells.1, (hS.all _ (.head _)).cells.2, (hS.all _ (.tail _ (.tail _ (.tail _ (.head _))))).cells.1, (hS.all _ (.tail _ (.tail _ (.tail _ (.head _))))).cells.2, (hS.all _ (.tail _ (.tail _ (.head _)))).cells.1, (hS.all _ (.tail _ (.tail _ (.head _)))).cells.2⟩) (first | (clear mk31; go_at_call 39; refine (likeSplit_any M6 J6 _ _ _ _ _ (Nat.le_refl _) (Nat.le_refl _) (hS.all _ (.tail _ (.tail _ (.tail _ (.tail _ (.head _)))))).rd (hS.all _ (.head _)).rd).mono ?_; rintro er w31 ⟨rfl, hB31⟩; replace hS := hS.step hB31) | (clear mk32; go_at_call 28; refine (implBehind_all n3 k3 K3.out _ _ _ (Nat.le_refl _) (hS.all _ (.tail _ (.tail _ (.tail _ (.head _))))).rd g3).mono ?_; rintro er w32 ⟨vv, rfl, oo, hB32⟩; replace hS := hS.step hB32; (try replace rn2 := rn2.step hB32); rw [hBe.out] at oo; obtain ⟨Aa, Na, Ca, rfl⟩ := own_slice oo; have rn1 : RdC w32 (.slice Aa Na Ca) Be := ⟨oo.rd⟩; clear oo) | (clear mk33; go_at_call 27; refine (specBehind_all n3 k3 K3.out _ _ _ (Nat.le_refl _) (hS.all _ (.tail _ (.tail _ (.tail _ (.head _))))).rd g3).mono ?_; rintro er w33 ⟨vv, rfl, oo, hB33⟩; replace hS := hS.step hB33; (try replace rn1 := rn1.step hB33); rw [hBe.out] at oo; obtain ⟨Ab, Nb, Cb, rfl⟩ := own_slice oo; have rn2 : RdC w33 (.slice Ab Nb Cb) Be := ⟨oo.rd⟩; clear oo) | (clear mk34; go_at_call 40; refine (likeInts_any Be _ _ _ _ _ (Nat.le_refl _) (Nat.le_refl _) rn1.rd rn2.rd).mono ?_; rintro er w34 ⟨rfl, hB34⟩; replace hS := hS.step hB34; clear rn1 rn2) | (clear mk35; go_at_call 33; refine (implPassed_all n4 k4 K4.out _ _ _ (Nat.le_refl _) (hS.all _ (.tail _ (.tail _ (.head _)))).rd g4).mono ?_; rintro er w35 ⟨rfl, hB35⟩; replace hS := hS.step hB35; rw [hPa.out]) | (clear mk36; go_at_call 32; refine (specPassed_all n4 k4 K4.out _ _ _ (Nat.le_refl _) (hS.all _ (.tail _ (.tail _ (.head _)))).rd g4).mono ?_; rintro er w36 ⟨rfl, hB36⟩; replace hS := hS.step hB36; rw [hPa.out]) | (fail))
        all_goals
          go_wp2
          go_meet
          case rel => exact ⟨rfl, hS⟩
    case rest =>
      rename World => wd
      obtain ⟨rfl, hS⟩ := hcut
      go_upto_if 121 with (fail)
      go_cut [19] from 122 to 146 (fun _ wx => LS w wx [(b17, M6, .slice A8 N8 C8, J6), (b15, M5, .slice A7 N7 C7, J5), (b13, n4, .slice A4 N4 C4, k4), (b11, n3, .slice A3 N3 C3, k3), (b9, M6, .slice A6 N6 C6, J6), (b7, n2, .slice A2 N2 C2, k2), (b5, M5, .slice A5 N5 C5, J5), (b3, n1, .slice A1 N1 C1, k1)])
      case first =>
        as_aux_lemma =>
          cases Z6 with
          | false =>
            go_wp2
            go_meet
            case rel => exact hS
          | true =>
            obtain ⟨hg0, hg1, hq1, hq2, hyj, hkj, hmj, hbj⟩ := opened_says hZ6.out hM6.out hJ6.out
            have KJ : Hid (∀ k ∈ J6, k ≤ 9223372036854775807) := hkj
            have hYJ : Hid (splitB M6 J6 = true) := hyj
            have hmem : Hid (decide (mk g2 ∈ J6) = true) := decide_eq_true hmj
            have HBJ : Hid (∀ d, beL M6 J6 d = beL n2 k2 d) := hbj
            have ek : keyB g2 0 = mk g2 := by rw [keyB_yes _ 0 hg0 (by omega)]; unfold mk; omega
            clear hyj hkj hmj hbj
            go_wp2
            go_loopw [19] (fun q wr => ∃ k : Int, q = .int .i64 k ∧ 0 ≤ k ∧ k ≤ n2 ∧ LS w wr [(b17, M6, .slice A8 N8 C8, J6), (b15, M5, .slice A7 N7 C7, J5), (b13, n4, .slice A4 N4 C4, k4), (b11, n3, .slice A3 N3 C3, k3), (b9, M6, .slice A6 N6 C6, J6), (b7, n2, .slice A2 N2 C2, k2), (b5, M5, .slice A5 N5 C5, J5), (b3, n1, .slice A1 N1 C1, k1)]) (fun q _ => (n2 - intOf q).toNat)
            case atStart => exact ⟨0, rfl, by omega, by omega, hS⟩
            case round =>
              clear hS
              obtain ⟨k, rfl, hk0, hk1, hS⟩ := hrel
              obtain ⟨eb70, eb71⟩ := (hS.all _ (.tail _ (.tail _ (.tail _ (.tail _ (.tail _ (.head _))))))).cells
              by_cases hlt : k < n2
              · have hE := HBJ.out k
                go_wp2
                clear eb70 eb71
                replace hS := hS.step ((Below.refl _ _).drew)
                have mk37 : Hid True := trivial
                have mk38 : Hid True := trivial
                have mk39 : Hid True := trivial
                go_region_held3 (fun w' => (w'.cell? ⟨b9, 0, none⟩ = some (.int .i64 M6) ∧ w'.cell? ⟨b9, 1, none⟩ = some (.slice A6 N6 C6) ∧ w'.cell? ⟨b7, 0, none⟩ = some (.int .i64 n2) ∧ w'.cell? ⟨b7, 1, none⟩ = some (.slice A2 N2 C2))) (first | assumption | exact ⟨(hS.all _ (.tail _ (.tail _ (.tail _ (.tail _ (.head _)))))).cells.1, (hS.all _ (.tail _ (.tail _ (.tail _ (.tail _ (.head _)))))).cells.2, (hS.all _ (.tail _ (.tail _ (.tail _ (.tail _ (.tail _ (.head _))))))).cells.1, (hS.all _ (.tail _ (.tail _ (.tail _ (.tail _ (.tail _ (.head _))))))).cells.2⟩) (first | (clear mk37; go_at_call 28; refine (implBehind_all M6 J6 KJ.out _ _ _ (Nat.le_refl _) (hS.all _ (.tail _ (.tail _ (.tail _ (.tail _ (.head _)))))).rd k).mono ?_; rintro er w37 ⟨vv, rfl, oo, hB37⟩; replace hS := hS.step hB37; (try replace rn2 := rn2.step hB37); rw [hE] at oo; obtain ⟨Aa, Na, Ca, rfl⟩ := own_slice oo; have rn1 : RdC w37 (.slice Aa Na Ca) (beL n2 k2 k) := ⟨oo.rd⟩; clear oo) | (clear mk38; go_at_call 28; refine (implBehind_all n2 k2 K2.out _ _ _ (Nat.le_refl _) (hS.all _ (.tail _ (.tail _ (.tail _ (.tail _ (.tail _ (.head _))))))).rd k).mono ?_; rintro er w38 ⟨vv, rfl, oo, hB38⟩; replace hS := hS.step hB38; (try replace rn1 := rn1.step hB38); obtain ⟨Ab, Nb, Cb, rfl⟩ := own_slice oo; have rn2 : RdC w38 (.slice Ab Nb Cb) (beL n2 k2 k) := ⟨oo.rd⟩; clear oo) | (clear mk39; go_at_call 40; refine (likeInts_any (beL n2 k2 k) _ _ _ _ _ (Nat.le_refl _) (Nat.le_refl _) rn1.rd rn2.rd).mono ?_; rintro er w39 ⟨rfl, hB39⟩; replace hS := hS.step hB39; clear rn1 rn2) | (fail))
                all_goals
                  go_wp2
                  go_roundw
                  case rel => exact ⟨k + 1, by go_num, by omega, by omega, hS⟩
                  case measure => simp [intOf]; omega
              · go_wp2
                clear eb70 eb71
                replace hS := hS.step ((Below.refl _ _).drew)
                have mk40 : Hid True := trivial
                have mk41 : Hid True := trivial
                have mk42 : Hid True := trivial
                go_region_held3 (fun w' => (w'.cell? ⟨b9, 0, none⟩ = some (.int .i64 M6) ∧ w'.cell? ⟨b9, 1, none⟩ = some (.slice A6 N6 C6))) (first | assumption | exact ⟨(hS.all _ (.tail _ (.tail _ (.tail _ (.tail _ (.head _)))))).cells.1, (hS.all _ (.tail _ (.tail _ (.tail _ (.tail _ (.head _)))))).cells.2⟩) (first | (clear mk40; go_at_call 42; refine (specMarkKey_any _ _).mono ?_; rintro er wq ⟨rfl, hq⟩; subst wq; rw [ek]) | (clear mk41; go_at_call 41; refine (hasInt7 J6 (mk g2) _ _ _ (hS.all _ (.tail _ (.tail _ (.tail _ (.tail _ (.head _)))))).rd).mono ?_; rintro er wq ⟨rfl, hq⟩; subst wq; rw [hmem.out]) | (clear mk42; go_at_call 15; refine (implSplitOk_any M6 J6 KJ.out _ _ _ (Nat.le_refl _) (hS.all _ (.tail _ (.tail _ (.tail _ (.tail _ (.head _)))))).rd).mono ?_; rintro er w40 ⟨rfl, hB40⟩; replace hS := hS.step hB40; rw [hYJ.out]) | (fail))
                all_goals
                  go_wp2
                  go_meet
                  case rel => exact hS
      case rest =>
        rename World => we
        have hS := hcut
        clear hcut
        obtain ⟨D3, hD3⟩ := hid_ex (decide (splitB n3 k3 = true ∧ 0 ≤ g3 ∧ g3 < n3))
        go_upto_region 23 with (fail)
        go_cut [158] from 147 to 158 (fun c wx => c = .bool D3 ∧ LS w wx [(b17, M6, .slice A8 N8 C8, J6), (b15, M5, .slice A7 N7 C7, J5), (b13, n4, .slice A4 N4 C4, k4), (b11, n3, .slice A3 N3 C3, k3), (b9, M6, .slice A6 N6 C6, J6), (b7, n2, .slice A2 N2 C2, k2), (b5, M5, .slice A5 N5 C5, J5), (b3, n1, .slice A1 N1 C1, k1)])
        case first =>
          as_aux_lemma =>
            obtain ⟨Y3, hY3⟩ := hid_ex (splitB n3 k3)
            obtain ⟨eb110, eb111⟩ := (hS.all _ (.tail _ (.tail _ (.tail _ (.head _))))).cells
            cases Y3 <;> by_cases h0 : 0 ≤ g3 <;> by_cases h1 : g3 < n3
            all_goals
              have mk43 : Hid True := trivial
              go_wp2_with (first | (clear mk43; go_at_call 13; refine (specSplitOk_any n3 k3 _ _ _ (Nat.le_refl _) (hS.all _ (.tail _ (.tail _ (.tail _ (.head _))))).rd).mono ?_; rintro er w41 ⟨rfl, hB41⟩; replace hS := hS.step hB41; rw [hY3.out]; clear eb110 eb111; obtain ⟨eb110, eb111⟩ := (hS.all _ (.tail _ (.tail _ (.tail _ (.head _))))).cells) | (fail))
            all_goals
              go_meet
              case rel => exact ⟨by rw [← hD3.out, hY3.out]; simp [h0, h1], hS⟩
        case rest =>
          rename World => wf
          obtain ⟨rfl, hS⟩ := hcut
          go_upto_if 158 with (fail)
          go_cut [20, 21, 22, 23] from 159 to 209 (fun _ _ _ _ wx => LS w wx [(b17, M6, .slice A8 N8 C8, J6), (b15, M5, .slice A7 N7 C7, J5), (b13, n4, .slice A4 N4 C4, k4), (b11, n3, .slice A3 N3 C3, k3), (b9, M6, .slice A6 N6 C6, J6), (b7, n2, .slice A2 N2 C2, k2), (b5, M5, .slice A5 N5 C5, J5), (b3, n1, .slice A1 N1 C1, k1)])
          case first =>
            as_aux_lemma =>
              cases D3 with
              | false =>
                go_wp2
                go_meet
                case rel => exact hS
              | true =>
                obtain ⟨ok3, hg0, hg1⟩ := of_decide_eq_true hD3.out
                have OK3 : Hid (SOk n3 k3) := splitB_iff.1 ok3
                clear ok3
                have hb1 := OK3.out.bd.1
                have hb2 := OK3.out.bd.2
                obtain ⟨Be, hBe⟩ := hid_ex (beL n3 k3 g3)
                have Qb : Hid (∀ x ∈ Be, 0 ≤ x ∧ x ≤ 32767 ∧ x % n3 = g3) := by rw [← hBe.out]; exact fun x hx => behind_mod OK3.out hg0 hg1 hx
                have Qm : Hid (∀ k ∈ k3, k % 2 = 1 → rv (k / 2) 15 % n3 = g3 → rv (k / 2) 15 ∈ Be) := by rw [← hBe.out]; exact fun k hk ho e => by have := behind_mem OK3.out hk ho; rw [e] at this; exact this
                have Q3 : Hid (N3 = k3.length) := rd_len (hS.all _ (.tail _ (.tail _ (.tail _ (.head _))))).rd
                obtain ⟨eb110, eb111⟩ := (hS.all _ (.tail _ (.tail _ (.tail _ (.head _))))).cells
                have mk44 : Hid True := trivial
                go_wp2_with (first | (clear mk44; go_at_call 28; refine (implBehind_all n3 k3 K3.out _ _ _ (Nat.le_refl _) (hS.all _ (.tail _ (.tail _ (.tail _ (.head _))))).rd g3).mono ?_; rintro er w42 ⟨vv, rfl, oo, hB42⟩; replace hS := hS.step hB42; rw [hBe.out] at oo; obtain ⟨Al, Nl, Cl, rfl⟩ := own_slice oo; have rl : RdC w42 (.slice Al Nl Cl) Be := ⟨oo.rd⟩; clear oo; clear eb110 eb111; obtain ⟨eb110, eb111⟩ := (hS.all _ (.tail _ (.tail _ (.tail _ (.head _))))).cells) | (fail))
                have Ql : Hid (Nl = Be.length) := rd_len rl.rd
                have hNl : Nl ≤ 65536 := by have h1 := beL_len n3 k3 g3; rw [hBe.out] at h1; have := Ql.out; omega
                clear eb110 eb111
                go_loopw [21] (fun q wr => ∃ i : Nat, q = .int .i64 i ∧ i ≤ Nl ∧ LS w wr [(b17, M6, .slice A8 N8 C8, J6), (b15, M5, .slice A7 N7 C7, J5), (b13, n4, .slice A4 N4 C4, k4), (b11, n3, .slice A3 N3 C3, k3), (b9, M6, .slice A6 N6 C6, J6), (b7, n2, .slice A2 N2 C2, k2), (b5, M5, .slice A5 N5 C5, J5), (b3, n1, .slice A1 N1 C1, k1)] ∧ RdC wr (.slice Al Nl Cl) Be) (fun q _ => Nl - (intOf q).toNat)
                case atStart => exact ⟨0, rfl, by omega, hS, rl⟩
                case round =>
                  clear hS rl
                  obtain ⟨i, rfl, hi, hS, rl⟩ := hrel
                  obtain ⟨eb110, eb111⟩ := (hS.all _ (.tail _ (.tail _ (.tail _ (.head _))))).cells
                  by_cases hlt : i < Nl
                  · have hi' : i < Be.length := by have := Ql.out; omega
                    have hlt' : (i : Int) < Nl := by omega
                    obtain ⟨b, off, rfl, hb, d0⟩ := rl.rd.cell i hi'
                    obtain ⟨z, hz⟩ := hid_ex (Be[i])
                    rw [hz.out] at d0
                    obtain ⟨hz0, hz1, hzm⟩ := Qb.out z (by rw [← hz.out]; exact List.getElem_mem hi')
                    have hmod : (z % n3 != g3) = false := by rw [hzm]; simp
                    clear hzm
                    go_wp2
                    go_big_quiet (fail)
                    go_wp2
                    go_roundw
                    case rel => exact ⟨i + 1, by go_num, by omega, hS.step (below_drewN _ _), rl.step (below_drewN _ _)⟩
                    case measure => simp [intOf]; omega
                  · have hlt' : ¬ (i : Int) < Nl := by omega
                    go_wp2
                    clear eb110 eb111
                    go_loopw [22] (fun q wr => ∃ i : Nat, q = .int .i64 i ∧ i ≤ N3 ∧ LS w wr [(b17, M6, .slice A8 N8 C8, J6), (b15, M5, .slice A7 N7 C7, J5), (b13, n4, .slice A4 N4 C4, k4), (b11, n3, .slice A3 N3 C3, k3), (b9, M6, .slice A6 N6 C6, J6), (b7, n2, .slice A2 N2 C2, k2), (b5, M5, .slice A5 N5 C5, J5), (b3, n1, .slice A1 N1 C1, k1)] ∧ RdC wr (.slice Al Nl Cl) Be) (fun q _ => N3 - (intOf q).toNat)
                    case atStart => exact ⟨0, rfl, by omega, hS, rl⟩
                    case round =>
                      clear hlt hlt' hi hS rl
                      rename Nat => i0
                      obtain ⟨i, rfl, hi, hS, rl⟩ := hrel
                      obtain ⟨eb110, eb111⟩ := (hS.all _ (.tail _ (.tail _ (.tail _ (.head _))))).cells
                      have hN3 : N3 ≤ 3000 := by have := Q3.out; omega
                      by_cases hlt : i < N3
                      · have hi' : i < k3.length := by have := Q3.out; omega
                        have hlt' : (i : Int) < N3 := by omega
                        obtain ⟨b, off, rfl, hb, d0⟩ := (hS.all _ (.tail _ (.tail _ (.tail _ (.head _))))).rd.cell i hi'
                        obtain ⟨k, hk⟩ := hid_ex (k3[i])
                        rw [hk.out] at d0
                        have hkm : k ∈ k3 := by rw [← hk.out]; exact List.getElem_mem hi'
                        obtain ⟨hr0, hr1⟩ := OK3.out.key hkm
                        have et : Hid (turn (k / 2) 15 = rv (k / 2) 15) := turn_half k hr0 hr1
                        have hrv := rv15 (k / 2)
                        have hM := Qm.out k hkm
                        obtain ⟨t, hT⟩ := hid_ex (rv (k / 2) 15)
                        rw [hT.out] at et hrv hM
                        obtain ⟨ht0, ht1⟩ := hrv
                        rcases Int.emod_two_eq k with hm | hm
                        · have hm' : (k % 2 == 1) = false := by rw [hm]; rfl
                          clear hm hM
                          go_wp2
                          go_big_quiet (first | (fail))
                          go_wp2
                          go_roundw
                          case rel => exact ⟨i + 1, by go_num, by omega, hS.step (below_drewN _ _), rl.step (below_drewN _ _)⟩
                          case measure => simp [intOf]; omega
                        · have hm' : (k % 2 == 1) = true := by rw [hm]; rfl
                          have hM2 := hM hm
                          clear hm hM
                          by_cases hte : t % n3 = g3
                          · have ht' : (t % n3 == g3) = true := by rw [hte]; simp
                            have hin : Hid (t ∈ Be) := hM2 hte
                            clear hte hM2
                            go_wp2
                            go_big_quiet (first | (go_at_call 43; exact Calls.quiet_of_same (turned_is et.out _)) | (go_at_call 41; exact Calls.quiet_of_same (has_yes hin.out (rl.step (below_drewN _ _)).rd)) | (fail))
                            go_wp2
                            go_roundw
                            case rel => exact ⟨i + 1, by go_num, by omega, hS.step (below_drewN _ _), rl.step (below_drewN _ _)⟩
                            case measure => simp [intOf]; omega
                          · have ht' : (t % n3 == g3) = false := by simpa using hte
                            clear hte hM2
                            go_wp2
                            go_big_quiet (first | (go_at_call 43; exact Calls.quiet_of_same (turned_is et.out _)) | (fail))
                            go_wp2
                            go_roundw
                            case rel => exact ⟨i + 1, by go_num, by omega, hS.step (below_drewN _ _), rl.step (below_drewN _ _)⟩
                            case measure => simp [intOf]; omega
                      · have hlt' : ¬ (i : Int) < N3 := by omega
                        go_wp2
                        go_meet
                        case rel => exact hS
          case rest =>
            rename World => wg
            have hS := hcut
            clear hcut
            cases Z5 with
            | false =>
              by_cases hok : splitB n1 k1 = true
              · obtain ⟨e1, e2⟩ := stored_false hZ5.out hok
                have eM : n1 = M5 := by rw [← hM5.out, e1]
                have eJ : k1 = J5 := by rw [← hJ5.out, e2]
                clear e1 e2 hM5 hJ5
                subst eM
                subst eJ
                have HK : Hid (splitB n1 k1 = true) := hok
                clear hok
                obtain ⟨eb30, eb31⟩ := (hS.all _ (.tail _ (.tail _ (.tail _ (.tail _ (.tail _ (.tail _ (.tail _ (.head _))))))))).cells
                obtain ⟨eb50, eb51⟩ := (hS.all _ (.tail _ (.tail _ (.tail _ (.tail _ (.tail _ (.tail _ (.head _)))))))).cells
                have mk47 : Hid True := trivial
                have mk48 : Hid True := trivial
                go_wp2_with (first | (clear mk47; go_at_call 13; refine (specSplitOk_any n1 k1 _ _ _ (Nat.le_refl _) (hS.all _ (.tail _ (.tail _ (.tail _ (.tail _ (.tail _ (.tail _ (.tail _ (.head _))))))))).rd).mono ?_; rintro er w45 ⟨rfl, hB45⟩; replace hS := hS.step hB45; rw [HK.out]; clear eb30 eb31 eb50 eb51; obtain ⟨eb30, eb31⟩ := (hS.all _ (.tail _ (.tail _ (.tail _ (.tail _ (.tail _ (.tail _ (.tail _ (.head _))))))))).cells; obtain ⟨eb50, eb51⟩ := (hS.all _ (.tail _ (.tail _ (.tail _ (.tail _ (.tail _ (.tail _ (.head _)))))))).cells) | (clear mk48; go_at_call 39; refine (likeSplit_any n1 k1 _ _ _ _ _ (Nat.le_refl _) (Nat.le_refl _) (hS.all _ (.tail _ (.tail _ (.tail _ (.tail _ (.tail _ (.tail _ (.head _)))))))).rd (hS.all _ (.tail _ (.tail _ (.tail _ (.tail _ (.tail _ (.tail _ (.tail _ (.head _))))))))).rd).mono ?_; rintro er w46 ⟨rfl, hB46⟩; replace hS := hS.step hB46) | (fail))
                go_ret
                exact ⟨rfl, hS.low⟩
              · have eM : 0 = M5 := by rw [← hM5.out]; exact (if_neg hok).symm
                have eJ : [] = J5 := by rw [← hJ5.out]; exact (if_neg hok).symm
                clear hM5 hJ5
                subst eM
                subst eJ
                have HK : Hid (splitB n1 k1 = false) := by unfold Hid; simpa using hok
                clear hok
                obtain ⟨eb30, eb31⟩ := (hS.all _ (.tail _ (.tail _ (.tail _ (.tail _ (.tail _ (.tail _ (.tail _ (.head _))))))))).cells
                obtain ⟨eb50, eb51⟩ := (hS.all _ (.tail _ (.tail _ (.tail _ (.tail _ (.tail _ (.tail _ (.head _)))))))).cells
                have mk45 : Hid True := trivial
                have mk46 : Hid True := trivial
                go_wp2_with (first | (clear mk45; go_at_call 13; refine (specSplitOk_any n1 k1 _ _ _ (Nat.le_refl _) (hS.all _ (.tail _ (.tail _ (.tail _ (.tail _ (.tail _ (.tail _ (.tail _ (.head _))))))))).rd).mono ?_; rintro er w43 ⟨rfl, hB43⟩; replace hS := hS.step hB43; rw [HK.out]; clear eb30 eb31 eb50 eb51; obtain ⟨eb30, eb31⟩ := (hS.all _ (.tail _ (.tail _ (.tail _ (.tail _ (.tail _ (.tail _ (.tail _ (.head _))))))))).cells; obtain ⟨eb50, eb51⟩ := (hS.all _ (.tail _ (.tail _ (.tail _ (.tail _ (.tail _ (.tail _ (.head _)))))))).cells) | (clear mk46; go_at_call 39; refine (likeSplit_any 0 [] _ _ _ 0 _ (Nat.le_refl _) (Nat.zero_le _) (hS.all _ (.tail _ (.tail _ (.tail _ (.tail _ (.tail _ (.tail _ (.head _)))))))).rd (rdi_none _ _)).mono ?_; rintro er w44 ⟨rfl, hB44⟩; replace hS := hS.step hB44) | (fail))
                go_ret
                exact ⟨rfl, hS.low⟩
            | true =>
              obtain ⟨hh0, hh1, hq1, hq2, hyj, hkj, hmj, hp0, hp1⟩ := stored_true hZ5.out hM5.out hJ5.out
              have KJ : Hid (∀ k ∈ J5, k ≤ 9223372036854775807) := hkj
              have hYJ : Hid (splitB M5 J5 = true) := hyj
              obtain ⟨Pa, hPa⟩ := hid_ex (paI M5 J5 g1)
              obtain ⟨Be, hBe⟩ := hid_ex (beL M5 J5 (g1 % n1))
              rw [hPa.out] at hp0 hp1
              rw [hBe.out] at hp1 hmj
              have hmem : Hid (decide (g1 ∈ Be) = true) := decide_eq_true hmj
              have hPb : Hid (Pa < (Be.length : Int)) := hp1
              have hne0 : n1 ≠ 0 := by omega
              have hneb : (n1 == 0) = false := by simpa using hne0
              have htm : g1.tmod n1 = g1 % n1 := Int.tmod_eq_emod_of_nonneg hh0
              have hmb := mod_bd g1 hq1
              have hwr : IntKind.i64.wrap (g1 % n1) = g1 % n1 := by rw [IntKind.wrap_i64]; omega
              have hw6 : wrap64 (g1 % n1) = g1 % n1 := IntWalk.wrap64_in _ ⟨by omega, by omega⟩
              clear hyj hkj hmj hp1 hmb
              obtain ⟨eb30, eb31⟩ := (hS.all _ (.tail _ (.tail _ (.tail _ (.tail _ (.tail _ (.tail _ (.tail _ (.head _))))))))).cells
              obtain ⟨eb50, eb51⟩ := (hS.all _ (.tail _ (.tail _ (.tail _ (.tail _ (.tail _ (.tail _ (.head _)))))))).cells
              have mk49 : Hid True := trivial
              go_upto_region 39 with (first | (clear mk49; go_at_call 33; refine (implPassed_all M5 J5 KJ.out _ _ _ (Nat.le_refl _) (hS.all _ (.tail _ (.tail _ (.tail _ (.tail _ (.tail _ (.tail _ (.head _)))))))).rd g1).mono ?_; rintro er w47 ⟨rfl, hB47⟩; replace hS := hS.step hB47; rw [hPa.out]) | (fail))
              clear eb30 eb31 eb50 eb51
              replace hS := hS.step ((Below.refl _ _).drew)
              have mk50 : Hid True := trivial
              have mk51 : Hid True := trivial
              have mk52 : Hid True := trivial
              have mk53 : Hid True := trivial
              go_region_held3 (fun w' => (w'.cell? ⟨b5, 0, none⟩ = some (.int .i64 M5) ∧ w'.cell? ⟨b5, 1, none⟩ = some (.slice A5 N5 C5) ∧ w'.cell? ⟨b3, 0, none⟩ = some (.int .i64 n1) ∧ w'.cell? ⟨b3, 1, none⟩ = some (.slice A1 N1 C1))) (first | assumption | exact ⟨(hS.all _ (.tail _ (.tail _ (.tail _ (.tail _ (.tail _ (.tail _ (.head _)))))))).cells.1, (hS.all _ (.tail _ (.tail _ (.tail _ (.tail _ (.tail _ (.tail _ (.head _)))))))).cells.2, (hS.all _ (.tail _ (.tail _ (.tail _ (.tail _ (.tail _ (.tail _ (.tail _ (.head _))))))))).cells.1, (hS.all _ (.tail _ (.tail _ (.tail _ (.tail _ (.tail _ (.tail _ (.tail _ (.head _))))))))).cells.2⟩) (first | (clear mk50; go_at_call 15; refine (implSplitOk_any M5 J5 KJ.out _ _ _ (Nat.le_refl _) (hS.all _ (.tail _ (.tail _ (.tail _ (.tail _ (.tail _ (.tail _ (.head _)))))))).rd).mono ?_; rintro er w48 ⟨rfl, hB48⟩; replace hS := hS.step hB48; rw [hYJ.out]) | (clear mk51; go_at_call 28; refine (implBehind_all M5 J5 KJ.out _ _ _ (Nat.le_refl _) (hS.all _ (.tail _ (.tail _ (.tail _ (.tail _ (.tail _ (.tail _ (.head _)))))))).rd (g1 % n1)).mono ?_; rintro er w49 ⟨vv, rfl, oo, hB49⟩; replace hS := hS.step hB49; rw [hBe.out] at oo; obtain ⟨Aa, Na, Ca, rfl⟩ := own_slice oo; have rn1 : RdC w49 (.slice Aa Na Ca) Be := ⟨oo.rd⟩; clear oo) | (clear mk52; go_at_call 41; refine (hasInt7 Be g1 _ _ _ rn1.rd).mono ?_; rintro er wq ⟨rfl, hq⟩; subst wq; rw [hmem.out]; clear rn1) | (clear mk53; go_at_call 28; refine (implBehind_all M5 J5 KJ.out _ _ _ (Nat.le_refl _) (hS.all _ (.tail _ (.tail _ (.tail _ (.tail _ (.tail _ (.tail _ (.head _)))))))).rd (g1 % n1)).mono ?_; rintro er w50 ⟨vv, rfl, oo, hB50⟩; replace hS := hS.step hB50; rw [hBe.out] at oo; obtain ⟨Aa, Na, Ca, rfl⟩ := own_slice oo; have hNa : Pa < (Na : Int) := (by rw [rd_len oo.rd]; exact hPb.out); clear oo) | (fail))
              all_goals
                go_wp2
                go_ret
                exact ⟨rfl, hS.low⟩
end Go.Proofs.Ytbialeffdpmcjaa.lawSp
