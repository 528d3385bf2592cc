/- Contracts: the program's generic ring in its variable: the hand's turn. -/
import Derived.Test.YtgcgofnjaipndaaRp2
namespace Go.Proofs.Ytgcgofnjaipndaa.rg
open Go.ChangeShapes Go.WideShapes Go.ChangeAt Go.RowKit
open Go.Proofs.Ytgcgofnjaipndaa.ce Go.Proofs.Ytgcgofnjaipndaa.ro
set_option linter.unusedVariables false

theorem zip_set : ∀ (N : List ByteArray) (U : List Bool) (i : Nat) (h : i < (N.zip U).length) (x : Bool), (N.zip U).set i ((N.zip U)[i].1, x) = N.zip (U.set i x)
  | [], U, i, h, x => by simp at h
  | n :: N, [], i, h, x => by simp at h
  | n :: N, u :: U, 0, h, x => by simp
  | n :: N, u :: U, i + 1, h, x => by
    have := zip_set N U i (by simpa using h) x
    simpa using this
theorem zip_len {N : List ByteArray} {U : List Bool} (h : U.length = N.length) : (N.zip U).length = N.length := by simp [h]
theorem zip_fst {N : List ByteArray} {U : List Bool} (h : U.length = N.length) : (N.zip U).map (·.1) = N := List.map_fst_zip (by omega)
theorem zip_cut {N : List ByteArray} {U : List Bool} (h : U.length = N.length) (i : Nat) : (N.zip U).take i ++ (N.zip U).drop (i + 1) = (N.take i ++ N.drop (i + 1)).zip (U.take i ++ U.drop (i + 1)) := by
  rw [List.zip_append (by simp [h])]
  simp only [List.zip_eq_zipWith, List.take_zipWith, List.drop_zipWith]

/-- while the hand goes on: the seats in their variable -/
structure Tv (lo hi b : Nat) (w wr : World) (sv : Value) (N : List ByteArray) (U : List Bool) (a : Nat) : Prop where
  r : RV wr lo hi b sv (N.zip U) a
  t : Tq lo b w wr
theorem Tv.drewN {lo hi b : Nat} {w wr : World} {sv : Value} {N : List ByteArray} {U : List Bool} {a : Nat} (h : Tv lo hi b w wr sv N U a) (hl : lo ≤ w.heap.size) (k : Nat) : Tv lo hi b w (wr.drewN k) sv N U a :=
  ⟨h.r.grow (below_drewN _ _), h.t.trans (Tq.of_below (below_drewN _ _) (Nat.le_trans hl h.t.size))⟩
theorem Tv.mark {lo hi b g m dc : Nat} {w wq : World} {N : List ByteArray} {U : List Bool} {a : Nat} (h : Tv lo hi b w wq (.slice (some ⟨g, 0, none⟩) m dc) N U a) (ha : a < N.length) (hl : U.length = N.length) (hlo : lo ≤ w.heap.size) :
    Tv lo hi b w (wq.setCell ⟨g, a * 2 + 1, none⟩ (.bool false)).drew (.slice (some ⟨g, 0, none⟩) m dc) N (U.set a false) a := by
  have hz : a < (N.zip U).length := by rw [zip_len hl]; exact ha
  have hT := ownT_ty h.r.o (by omega) (a * 2 + 1) (.bool false)
  have hs := ownT_set h.r.o a hz false
  rw [zip_set] at hs
  have hd : Below (wq.setCell ⟨g, a * 2 + 1, none⟩ (.bool false)).heap.size (wq.setCell ⟨g, a * 2 + 1, none⟩ (.bool false)) (wq.setCell ⟨g, a * 2 + 1, none⟩ (.bool false)).drew := (Below.refl _ _).drew
  have ht := h.t.trans (Tq.of_ty hT)
  exact ⟨⟨hs.grow hd, vblk_grow (hT.vblk h.r.v (by decide)) hd⟩, ht.trans (Tq.of_below hd (Nat.le_trans hlo ht.size))⟩

set_option maxRecDepth 100000 in
set_option maxHeartbeats 2000000 in
theorem turn_any (r : Rg) (sv : Value) (b lo hi : Nat) (w : World) (h : RV w lo hi b sv (r.N.zip r.U) r.A) (hlo : lo ≤ w.heap.size) (h1 : 1 ≤ r.N.length) (hN : r.N.length ≤ 1000000) (hNU : r.U.length = r.N.length) (hA0 : 0 ≤ r.A) (hA1 : r.A < r.N.length) :
    Calls Try.prog 61 #[.pointer (some ⟨b, 0, none⟩)] w fun e w' => e = .returned (.string ((r.N[(turned r).2]?).getD ⟨#[]⟩)) ∧ Tv lo hi b w w' sv r.N (turned r).1 (turned r).2 := by
  obtain ⟨N, U, A⟩ := r
  obtain ⟨a, n, cap, rfl⟩ := h.o.slice
  dsimp only at h h1 hN hNU hA0 hA1 ⊢
  have hn : Hid (n = N.length) := h.o.rd.cap.1.trans (zip_len hNU)
  obtain ⟨A, rfl⟩ : ∃ k : Nat, A = k := ⟨A.toNat, by omega⟩
  have O : Hid (Tv lo hi b w w (.slice a n cap) N U A) := ⟨h, Tq.refl _ _ _⟩
  obtain ⟨c0, c1⟩ := cells2 h.v
  obtain ⟨T, hT⟩ := hid_ex (turned ⟨N, U, (A : Int)⟩)
  rw [hT.out]
  obtain ⟨S, hS⟩ := hid_ex ((N[T.2]?).getD ⟨#[]⟩)
  rw [hS.out]
  replace hT : Hid (turn N.length (U.count true) U A = T) := hT
  clear h
  go_enter Try.func61, Try.ntmps61
  go_wp2
  go_loopg [] (U.count true) (fun k wr => ∃ (U' : List Bool) (a' : Nat), k = U'.count true ∧ a' < N.length ∧ U'.length = N.length ∧ turn N.length (U'.count true) U' a' = T ∧ Tv lo hi b w wr (.slice a n cap) N U' a')
  case atStart => exact ⟨U, A, rfl, by omega, hNU, hT.out, O.out⟩
  case round =>
    obtain ⟨U', a', hk, ha, hl, ht, t'⟩ := hrel
    have HT : Hid (turn N.length (U'.count true) U' a' = T) := ht
    have HK : Hid (gk = U'.count true) := hk
    have HL : Hid (U'.length = N.length) := hl
    have TT : Hid (Tv lo hi b w wr (.slice a n cap) N U' a') := t'
    clear ht hk t'
    clear c0 c1
    obtain ⟨c0, c1⟩ := cells2 TT.out.r.v
    have ha2 : a' < U'.length := by omega
    have haz : a' < (N.zip U').length := by rw [zip_len hl]; exact ha
    obtain ⟨g, rfl, hg, d0, d1, f1⟩ := ownT_cell TT.out.r.o a' haz
    rw [List.getElem_zip] at d0 d1
    have hm1 : (a' : Int) < (n : Int) := by have := hn.out; omega
    have ha0 : (0 : Int) ≤ (a' : Int) := by omega
    have hbg : b ≠ g := by
      intro e
      obtain ⟨⟨cur, hc, -⟩, -⟩ := blk_of TT.out.r.o (by omega)
      have q := TT.out.r.v
      rw [e] at q
      have := hc.symm.trans q
      simp at this
    obtain ⟨x, hx⟩ := hid_ex (U'[a'])
    obtain ⟨z, hz⟩ := hid_ex (N[a'])
    have hxx := get_of ha2 hx.out
    dsimp only at d0 d1
    rw [hx.out] at d1
    rw [hz.out] at d0
    clear hl haz
    cases x with
    | false =>
      have hst := HT.out.symm.trans (turn_stop (n := N.length) (f := U'.count true) (U := U') (a := a') (by rw [hxx]; simp))
      subst hst
      have eS : S = z := by rw [← hS.out, List.getElem?_eq_getElem ha]; exact hz.out
      subst eS
      clear hxx
      go_wp2
      go_big_quiet (fail)
      go_wp2
      go_big_quiet (fail)
      go_wp2
      go_ret
      exact ⟨rfl, TT.out.drewN hlo _⟩
    | true =>
      have hst := turn_step (n := N.length) hxx
      have hcs := count_set hxx
      have HT2 : Hid (turn N.length ((U'.set a' false).count true) (U'.set a' false) ((a' + 1) % N.length) = T) := hst.symm.trans HT.out
      have HC : Hid ((U'.set a' false).count true < gk) := by have := HK.out; unfold Hid; omega
      clear hst hcs hxx
      go_wp2
      go_big_quiet (fail)
      go_wp2
      have TQ0 := TT.out.drewN hlo nq
      obtain ⟨wq, hwq⟩ : ∃ wq, wr.drewN nq = wq := ⟨_, rfl⟩
      rw [hwq] at TQ0 ⊢
      clear hwq
      have TQ : Hid (Tv lo hi b w wq (.slice (some ⟨g, 0, none⟩) n cap) N U' a') := TQ0
      clear TQ0 c0 c1 d0 d1 f1
      obtain ⟨c0, c1⟩ := cells2 TQ.out.r.v
      obtain ⟨g', e', -, -, d1, f1⟩ := ownT_cell TQ.out.r.o a' (by rw [zip_len HL.out]; exact ha)
      cases e'
      have hgb : g ≠ b := fun e => hbg e.symm
      go_region_held3 (fun w' => w'.cell? ⟨b, 0, none⟩ = some (.slice (some ⟨g, 0, none⟩) n cap) ∧ w'.cell? ⟨b, 1, none⟩ = some (.int .i64 a')) (first | assumption | exact ⟨c0, c1⟩ | go_keep) (fail)
      have TM := TQ.out.mark ha HL.out hlo
      obtain ⟨W3, hW3⟩ : ∃ W3, (wq.setCell ⟨g, a' * 2 + 1, none⟩ (.bool false)).drew = W3 := ⟨_, rfl⟩
      rw [hW3] at TM ⊢
      have TM' : Hid (Tv lo hi b w W3 (.slice (some ⟨g, 0, none⟩) n cap) N (U'.set a' false) a') := TM
      clear hW3 TM c0 c1 d1 f1
      have V3 := TM'.out.r.v
      obtain ⟨c0, c1⟩ := cells2 V3
      obtain ⟨F, hF⟩ := hid_ex (if (a' : Int) + 1 < ((N.zip (U'.set a' false)).length : Int) then (a' : Int) + 1 else 0)
      have hF2 : Hid (F = (((a' + 1) % N.length : Nat) : Int)) := by
        unfold Hid
        rw [← hF.out, zip_len (by rw [List.length_set]; exact HL.out)]
        by_cases q : (a' : Int) + 1 < (N.length : Int)
        · rw [if_pos q, Nat.mod_eq_of_lt (by omega)]
          omega
        · rw [if_neg q, show a' + 1 = N.length by omega, Nat.mod_self]
          rfl
      go_wp2_with (first | (go_at_call 70; refine (around_any _ lo hi b _ _ (a' : Int) ((a' : Int) + 1) TM'.out.r).mono ?_; rintro e wq2 ⟨rfl, hq⟩; subst wq2; rw [hF.out]) | (refine wpList_store_n rfl _ _ rfl b 1 F rfl rfl V3 (by simp) ?_; intro w5 hO5 V5) | (fail))
      go_roundg ((U'.set a' false).count true)
      case measure => exact HC.out
      case rel =>
        have hlt : 0 < N.length := by omega
        have V6 : VBlk w5 b 55 [.slice (some ⟨g, 0, none⟩) n cap, .int .i64 ((((a' + 1) % N.length : Nat) : Int))] := by
          have := hF2.out
          rw [← this]
          exact V5
        exact ⟨U'.set a' false, (a' + 1) % N.length, rfl, Nat.mod_lt _ hlt, by rw [List.length_set]; exact HL.out, HT2.out, ⟨TM'.out.r.o.only hO5 V3 (by decide), V6⟩, TM'.out.t.trans (Tq.of_only hO5)⟩
end Go.Proofs.Ytgcgofnjaipndaa.rg
