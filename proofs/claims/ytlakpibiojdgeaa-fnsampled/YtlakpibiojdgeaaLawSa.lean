/- The walk of the law FnSampled. -/
import Derived.Test.YtlakpibiojdgeaaQp4
import Derived.Test.YtlakpibiojdgeaaQe1
namespace Go.Proofs.Ytlakpibiojdgeaa.lawSa
open Go.ChangeShapes Go.WideShapes Go.ChangeAt Go.RowKit
open Go.Proofs.Ytlakpibiojdgeaa.ce Go.Proofs.Ytlakpibiojdgeaa.ro Go.Proofs.Ytlakpibiojdgeaa.rg Go.Proofs.Ytlakpibiojdgeaa.draw
set_option linter.unusedVariables false

theorem some_byte {z : ByteArray} (h : 1 ≤ z.size) : z.toList.isEmpty = false := by
  cases z with
  | mk d =>
    have h2 : 1 ≤ d.size := h
    rw [ByteArray.toList_eq]
    cases d with
    | mk l => cases l with
      | nil => simp at h2
      | cons x r => rfl
theorem nd_ne {q : List ByteArray} (h : q.Nodup) {i j : Nat} (hi : i < q.length) (hj : j < q.length) (hn : i ≠ j) : q[i] ≠ q[j] := fun e => by
  have hp := List.pairwise_iff_getElem.1 h
  rcases Nat.lt_or_gt_of_ne hn with l | l
  · exact hp i j hi hj l e
  · exact hp j i hj hi l e.symm
/-- what is known of a queue that is sampled: the place, the name -/
structure Sam (q : List ByteArray) (x y : Int) (I : Nat) (z : ByteArray) : Prop where
  ok : SOk q x y
  lt : I < q.length
  at' : saI q x y = I
  is : q[I] = z
theorem sam_of {q : List ByteArray} {x y : Int} (h : saB q x y = true) : ∃ I, Sam q x y I (saS q x y) :=
  have ok := saB_iff.1 h
  ⟨saI q x y, ok, saI_lt ok, rfl, (saS_yes ok).symm⟩
theorem Sam.size {q : List ByteArray} {x y : Int} {I : Nat} {z : ByteArray} (h : Sam q x y I z) : 1 ≤ z.size := (nameB_size (h.ok.nk.1 z (h.is ▸ List.getElem_mem h.lt))).1
/-- with one look more it is no further behind -/
theorem Sam.more {q : List ByteArray} {x y : Int} {I : Nat} {z : ByteArray} (h : Sam q x y I z) (hy : y < 20) : ∃ J z2, J ≤ I ∧ Sam q x (y + 1) J z2 ∧ saS q x (y + 1) = z2 := by
  have ok2 : SOk q x (y + 1) := ⟨h.ok.nk, h.ok.n0, h.ok.s0, h.ok.s1, by have := h.ok.m0; omega, by omega⟩
  refine ⟨saI q x (y + 1), _, ?_, ⟨ok2, saI_lt ok2, rfl, rfl⟩, saS_yes ok2⟩
  have := h.ok.m0
  rw [← h.at']
  unfold saI
  rw [show (y + 1).toNat = y.toNat + 1 by omega]
  exact mins_more _ _ _ _
theorem Sam.one {q : List ByteArray} {x y : Int} {I : Nat} {z : ByteArray} (h : Sam q x y I z) (hy : ¬ y > 1) : x.tmod (q.length : Int) = (I : Int) := by
  have h0 := h.ok.m0
  have e := h.at'
  unfold saI at e
  rw [show y.toNat = 1 by omega, mins_one (Nat.mod_lt _ h.ok.n0)] at e
  rw [mod_tm h.ok.s0, e]

set_option maxRecDepth 100000 in
set_option maxHeartbeats 4000000 in
theorem walk (a0 : Option Addr) (len cap : Nat) (w : World) (hl : len ≤ 4096) (hcode0 : CodeAt w a0 len) :
    Calls Try.prog 8 #[.slice a0 len cap] w fun e w' => e = .returned (.bool true) ∧ Below w.heap.size w w' := by
  have HC : Hid (CodeAt w a0 len) := hcode0
  clear hcode0
  have hl' : ¬ (4096 : Int) < (len : Int) := by omega
  go_enter Try.func8, Try.ntmps8
  go_upto_region 7 with (first | (go_at_call 22; go_in) | (go_at_call 27; refine (drawSampled_any w _ _ _ HC.out).mono ?_; rintro e w1 ⟨v1, q, x, y, rfl, hx, hy, G⟩; have hz1 := G.low.size; obtain ⟨A, n, c, rfl⟩ := G.o.slice; obtain ⟨z, hZ⟩ := hid_ex (saS q x y); have hzz : (z.toList == z.toList) = true := (by simp); have HS : Hid (∀ s ∈ q, s.size ≤ 9223372036854775807) := fun s hs => (by have := G.s s hs; omega); have O : Hid (Own encS w1 w.heap.size w1.heap.size (.slice A n c) q) := G.o; have hB : Below w.heap.size w w1 := G.low; have hql := G.l; clear G) | (go_at_call 21; refine (implSampled_any q x y _ _ O.out.rd HS.out).mono ?_; rintro e w2 ⟨he, hB2⟩; rw [hZ.out] at he; subst he; have O2 : Hid (Own encS w2 w.heap.size w1.heap.size (.slice A n c) q) := O.out.grow hB2; replace hB := hB.trans (hB2.mono hz1); have hz2 := hB.size) | (go_at_call 20; refine (specSampled_any q x y _ _ O2.out.rd HS.out).mono ?_; rintro e wq ⟨he, hq⟩; subst wq; rw [hZ.out] at he; subst he) | (fail))
  clear O hzz
  have hn : Hid (n = q.length) := O2.out.rd.cap.1
  cases hk : saB q x y with
  | false =>
    have ez : z = ⟨#[]⟩ := by rw [← hZ.out]; exact saS_no hk
    have hke : z.toList.isEmpty = true := by rw [ez, ByteArray.toList_eq]; rfl
    clear ez
    cases hnb : namesB q with
    | false =>
      go_wp2_with (first | (go_at_call 10; refine (specQueueOk_any q _ _ O2.out.rd HS.out).mono ?_; rintro e wq ⟨rfl, hq⟩; subst wq; rw [hnb]) | (fail))
      go_ret
      exact ⟨rfl, hB⟩
    | true =>
      cases h0 : ((n : Int) == 0) with
      | true =>
        go_wp2_with (first | (go_at_call 10; refine (specQueueOk_any q _ _ O2.out.rd HS.out).mono ?_; rintro e wq ⟨rfl, hq⟩; subst wq; rw [hnb]) | (fail))
        go_ret
        exact ⟨rfl, hB⟩
      | false =>
      by_cases b1 : x < 0
      · go_wp2_with (first | (go_at_call 10; refine (specQueueOk_any q _ _ O2.out.rd HS.out).mono ?_; rintro e wq ⟨rfl, hq⟩; subst wq; rw [hnb]) | (fail))
        go_ret
        exact ⟨rfl, hB⟩
      by_cases b2 : x > 1000000
      · go_wp2_with (first | (go_at_call 10; refine (specQueueOk_any q _ _ O2.out.rd HS.out).mono ?_; rintro e wq ⟨rfl, hq⟩; subst wq; rw [hnb]) | (fail))
        go_ret
        exact ⟨rfl, hB⟩
      by_cases b3 : y < 1
      · go_wp2_with (first | (go_at_call 10; refine (specQueueOk_any q _ _ O2.out.rd HS.out).mono ?_; rintro e wq ⟨rfl, hq⟩; subst wq; rw [hnb]) | (fail))
        go_ret
        exact ⟨rfl, hB⟩
      by_cases b4 : y > 20
      · go_wp2_with (first | (go_at_call 10; refine (specQueueOk_any q _ _ O2.out.rd HS.out).mono ?_; rintro e wq ⟨rfl, hq⟩; subst wq; rw [hnb]) | (fail))
        go_ret
        exact ⟨rfl, hB⟩
      exfalso
      have hk2 := hk
      unfold saB at hk2
      rw [hnb, ← hn.out, h0, decide_eq_true (show 0 ≤ x by omega), decide_eq_true (show x ≤ 1000000 by omega), decide_eq_true (show 1 ≤ y by omega), decide_eq_true (show y ≤ 20 by omega)] at hk2
      cases hk2
  | true =>
    obtain ⟨I, sam⟩ := sam_of hk
    rw [hZ.out] at sam
    have hke := some_byte sam.size
    have SM : Hid (Sam q x y I z) := sam
    have hIq := sam.lt
    have hIn : I < n := by rw [hn.out]; exact hIq
    have hy1 := sam.ok.m0
    have hy2 := sam.ok.m1
    have hx1 := sam.ok.s0
    have hn2 : n ≤ 20 := by rw [hn.out]; exact sam.ok.nk.2.2
    obtain ⟨g, rfl, hg, dI, -⟩ := ownS_cell O2.out I hIq
    rw [sam.is] at dI
    have HN : Hid (q.length = n) := hn.out.symm
    clear sam hn hx hy hk
    go_upto_region 9 with (fail)
    go_cut [63] from 54 to 63 (fun u wc => u = .bool false ∧ wc = w2)
    case first =>
      cases h1 : ((n : Int) == 1) with
      | false =>
        go_wp2
        go_meet
        case rel => exact ⟨rfl, rfl⟩
      | true =>
        have hI0 : I = 0 := by have : (n : Int) = 1 := (by simpa using h1); omega
        subst hI0
        have hzz : (z.toList == z.toList) = true := by simp
        have h0n : (0 : Int) < (n : Int) := by omega
        go_wp2
        go_meet
        case rel => exact ⟨rfl, rfl⟩
    case rest =>
      obtain ⟨rfl, rfl⟩ := hcut
      go_wp2
      go_loop [7] (fun p => ∃ i : Nat, i ≤ I ∧ p = .int .i64 i) (fun p => I - (intOf p).toNat)
      case atStart => exact ⟨0, by omega, rfl⟩
      case round =>
        obtain ⟨i, hi1, rfl⟩ := hrel
        have hin : (i : Int) < (n : Int) := by omega
        by_cases hlt : i < I
        · have hiq : i < q.length := by omega
          obtain ⟨g', e', -, di, -⟩ := ownS_cell O2.out i hiq
          cases e'
          have hne := nd_ne SM.out.ok.nk.2.1 hiq hIq (by omega)
          rw [SM.out.is] at hne
          obtain ⟨u, hu⟩ := hid_ex (q[i]'hiq)
          rw [hu.out] at di hne
          have hbe : (u.toList == z.toList) = false := by simpa using fun e => hne (str_eq e)
          clear hne
          go_wp2
          go_round
          case rel => exact ⟨i + 1, by omega, by go_num⟩
          case measure => simp [intOf]; omega
        · obtain rfl : i = I := by omega
          have hzz : (z.toList == z.toList) = true := by simp
          by_cases h20 : y < 20
          · obtain ⟨J, z2, hJ, sam2, he2⟩ := SM.out.more h20
            obtain ⟨y2, hy2⟩ := hid_ex (y + 1)
            rw [hy2.out] at sam2 he2
            have hwr : IntKind.i64.wrap (y + 1) = y2 := by rw [IntKind.wrap_i64, ← hy2.out]; omega
            have HE2 : Hid (saS q x y2 = z2) := he2
            have S2 : Hid (Sam q x y2 J z2) := sam2
            have hwi : IntKind.i64.wrap ((i : Int) + 1) = ((i + 1 : Nat) : Int) := by rw [IntKind.wrap_i64]; omega
            clear sam2 he2
            go_wp2_with (first | (go_at_call 21; refine (implSampled_any q x y2 _ _ O2.out.rd HS.out).mono ?_; rintro e w3 ⟨he, hB3⟩; rw [HE2.out] at he; subst he) | (fail))
            have O3 : Hid (Own encS w3 w.heap.size w1.heap.size (.slice (some ⟨g, 0, none⟩) n c) q) := O2.out.grow hB3
            have hB4 : Below w.heap.size w w3 := hB.trans (hB3.mono hz2)
            have hil : (i + 1 : Nat) ≤ n := by omega
            go_loop [9] (fun p => ∃ j : Nat, i < j ∧ j ≤ n ∧ p = .int .i64 j) (fun p => n - (intOf p).toNat)
            case atStart => exact ⟨i + 1, by omega, hil, by first | rfl | simp [hwi]⟩
            case round =>
              obtain ⟨j, hj1, hj2, rfl⟩ := hrel
              by_cases hjn : j < n
              · have hjn' : (j : Int) < (n : Int) := by omega
                have hjq : j < q.length := by rw [HN.out]; exact hjn
                obtain ⟨g', e', -, dj, -⟩ := ownS_cell O3.out j hjq
                cases e'
                have hne := nd_ne SM.out.ok.nk.2.1 hjq S2.out.lt (by omega)
                rw [S2.out.is] at hne
                obtain ⟨u, hu⟩ := hid_ex (q[j]'hjq)
                rw [hu.out] at dj hne
                have hbe : (u.toList == z2.toList) = false := by simpa using fun e => hne (str_eq e)
                clear hne
                go_wp2
                go_round
                case rel => exact ⟨j + 1, by omega, by omega, by go_num⟩
                case measure => simp [intOf]; omega
              · have hjn' : ¬ (j : Int) < (n : Int) := by omega
                by_cases h1 : y > 1
                · go_wp2
                  go_ret
                  exact ⟨rfl, hB4⟩
                · have hm := SM.out.one h1
                  rw [HN.out] at hm
                  have hnz : (n : Int) ≠ 0 := by omega
                  have hii : ((i : Int) == (i : Int)) = true := by simp
                  go_wp2
                  go_ret
                  exact ⟨rfl, hB4⟩
          · have h1 : y > 1 := by omega
            go_wp2
            go_ret
            exact ⟨rfl, hB⟩
end Go.Proofs.Ytlakpibiojdgeaa.lawSa
