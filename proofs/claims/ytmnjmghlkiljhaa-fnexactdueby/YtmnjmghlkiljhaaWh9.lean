/- The program's DueBy and SoonestOf. -/
import Derived.Test.YtmnjmghlkiljhaaWh8
namespace Go.Proofs.Ytmnjmghlkiljhaa.rg
open Go.ChangeShapes Go.WideShapes Go.ChangeAt Go.RowKit
open Go.Deep Go.Joins
open Go.Proofs.Ytmnjmghlkiljhaa.ce Go.Proofs.Ytmnjmghlkiljhaa.ro
set_option linter.unusedVariables false
set_option linter.unusedSimpArgs false

theorem wait_due (b : List It) (now : Int) : Srt (waitL b now) ∧ (waitL b now).length ≤ 20 ∧ ∃ D : List It, D.Perm (waitL b now) ∧ D.Pairwise Ear ∧ D.map (·.N) = duR b now := by
  unfold waitL duR
  cases h : bookB b with
  | false => exact ⟨by simp [Srt], by simp, [], by simp, by simp, by simp⟩
  | true =>
    have hb := bookB_iff.1 h
    refine ⟨?_, ?_, dueL b now, ?_, due_ear hb.srt now, by simp⟩
    · rw [if_pos rfl]; exact List.Pairwise.filter _ hb.srt
    · rw [if_pos rfl]; exact Nat.le_trans (List.length_filter_le _ _) hb.2.2
    · rw [if_pos rfl]; exact due_perm b now
theorem first_nl {q r : List It} (h : Hp q.length q) (hq : 0 < q.length) (hp : (q[0] :: r).Perm q) : ∀ y ∈ r, Nl q[0] y := fun y hy => by
  have hm : y ∈ q := hp.subset (List.mem_cons_of_mem _ hy)
  obtain ⟨k, hk, rfl⟩ := List.getElem_of_mem hm
  exact hp_first h (Nat.le_refl _) k hk hk
/-- while those that are due are told -/
structure Lq (w : World) (W : List It) (b : Nat) (u nv : Value) (P q : List It) (wr : World) : Prop where
  hb : w.heap.size ≤ b
  V : VBlk wr b 102 [u]
  o : Own encIt wr w.heap.size wr.heap.size u q
  h : Hp q.length q
  low : Below w.heap.size w wr
  n : Own encS wr w.heap.size wr.heap.size nv (P.map (·.N))
  tk : Tk W P q
  len : P.length + q.length ≤ 20
theorem Lq.hq {w wr : World} {W P q : List It} {b : Nat} {u nv : Value} (L : Lq w W b u nv P q wr) (h : 0 < q.length) : ∃ g cap, u = .slice (some ⟨g, 0, none⟩) q.length cap ∧ w.heap.size ≤ g ∧ Hq wr b g cap q := by
  obtain ⟨g, cap, e, h1, h2, h3⟩ := L.o.form h
  have o := L.o
  have V := L.V
  rw [e] at o V
  obtain ⟨r, -, -⟩ := o.at (by intro x; rw [x] at h; simp at h)
  exact ⟨g, cap, e, h1, V, r, by have := L.len; omega⟩
theorem Lq.said {w wr w' : World} {W P q : List It} {b l : Nat} {u nv nv' : Value} (L : Lq w W b u nv P q wr) {P' : List It} (hT : Ty w.heap.size 9 wr w') (n : Own encS w' w.heap.size l nv' (P'.map (·.N))) (tk : True) : VBlk w' b 102 [u] ∧ Own encIt w' w.heap.size w'.heap.size u q ∧ Below w.heap.size w w' ∧ Own encS w' w.heap.size w'.heap.size nv' (P'.map (·.N)) :=
  ⟨hT.vblk L.V (by decide), (hT.own L.o (by decide)).top, L.low.trans hT.low, n.top⟩
theorem row_ty {lo : Nat} {w w' : World} {g cap : Nat} {q : List It} (hT : Ty lo 9 w w') (r : RowAt encIt w g cap q) : RowAt encIt w' g cap q := by
  obtain ⟨cur, hc, h⟩ := r.blk
  exact ⟨⟨cur, by rw [hT.keep g cur _ _ hc (by decide)]; exact hc, h⟩, r.le, r.cap⟩
theorem wait_ok {b : List It} (h : bookB b = true) : ∀ x ∈ b, x.U ≠ 0 → x ∈ waitL b 1000000 := fun x hx hu => by
  have hi := itemB_iff.1 ((bookB_iff.1 h).1 x hx)
  unfold waitL overB
  rw [if_pos h, List.mem_filter]
  refine ⟨hx, ?_⟩
  have := hi.u1
  simp [hu, this]
theorem soo_none {b : List It} (h : (waitL b 1000000).Perm []) : sooI b = 0 := by
  have e : waitL b 1000000 = [] := List.perm_nil.1 h
  unfold sooI
  cases hb : bookB b with
  | false => rfl
  | true =>
    rw [if_pos rfl]
    have hu : ∀ i ∈ b, 0 ≤ i.U := fun i hi => (itemB_iff.1 ((bookB_iff.1 hb).1 i hi)).u0
    obtain ⟨-, -, -, a4⟩ := sooF_is b 0 hu (Int.le_refl _)
    refine Classical.byContradiction fun hne => ?_
    rcases a4 hne with q | ⟨j, hj, q⟩
    · exact hne q
    · have := wait_ok hb j hj (by rw [← q]; exact hne)
      rw [e] at this
      cases this
theorem soo_first {b ys : List It} (hp : ys.Perm (waitL b 1000000)) (hh : Hp ys.length ys) (h0 : 0 < ys.length) : sooI b = ys[0].U := by
  cases hb : bookB b with
  | false =>
    unfold waitL at hp
    rw [hb, if_neg (by decide)] at hp
    have := hp.length_eq
    rw [List.length_nil] at this
    omega
  | true =>
    unfold sooI
    rw [if_pos hb]
    have hu : ∀ i ∈ b, 0 ≤ i.U := fun i hi => (itemB_iff.1 ((bookB_iff.1 hb).1 i hi)).u0
    obtain ⟨-, -, a3, a4⟩ := sooF_is b 0 hu (Int.le_refl _)
    have hm : ys[0] ∈ waitL b 1000000 := hp.subset (List.getElem_mem _)
    have hm2 := hm
    unfold waitL at hm2
    rw [if_pos hb, List.mem_filter] at hm2
    obtain ⟨u1, u2⟩ := over_u hm2.2
    obtain ⟨s1, s2⟩ := a3 _ hm2.1 u1
    rcases a4 s1 with q | ⟨j, hj, q⟩
    · exact absurd q s1
    · have hjw := wait_ok hb j hj (by rw [← q]; exact s1)
      obtain ⟨k, hk, e⟩ := List.getElem_of_mem (hp.symm.subset hjw)
      have hn := hp_first hh (Nat.le_refl _) k hk hk
      rw [e] at hn
      have : ¬ j.U < ys[0].U := fun z => hn (.inl z)
      omega
set_option maxRecDepth 100000 in
set_option maxHeartbeats 4000000 in
theorem implDueBy_any (b : List It) (now : Int) (v : Value) (w : World) (r : Rd encIt w v b) (hs : SmK b) :
    Calls Try.prog 28 #[v, .int .i64 now] w fun e w' => ∃ v', e = .returned v' ∧ Own encS w' w.heap.size w'.heap.size v' (duR b now) ∧ Below w.heap.size w w' := by
  obtain ⟨a, cap, rfl⟩ := r.form
  have R : Hid (Rd encIt w (.slice a b.length cap) b) := r
  have HS : Hid (SmK b) := hs
  clear r hs
  obtain ⟨hsrt, hlen, D, hD1, hD2, hD3⟩ := wait_due b now
  obtain ⟨W, hW⟩ := hid_ex (waitL b now)
  rw [hW.out] at hsrt hlen hD1
  have HSr : Hid (Srt W) := hsrt
  have HD : Hid (D.Perm W ∧ D.Pairwise Ear ∧ D.map (·.N) = duR b now) := ⟨hD1, hD2, hD3⟩
  clear hsrt hD1 hD2 hD3
  have hcc : ∀ (args : Array Value) (w : World), (callFunc 76 args).run Try.prog w = .ok (.enter 76 args) w := fun args w => by kernel_rfl
  go_enter Try.func28, Try.ntmps28
  go_wp2_with (first | (go_at_call 74; refine (waitingBy_any b now _ w R.out HS.out).mono ?_; rintro e w1 ⟨v1, ys, rfl, hp, hh, o1, hB1⟩; rw [hW.out] at hp; obtain ⟨a1, n1, k1, rfl⟩ := o1.slice; have hz1 := hB1.size) | (refine wpList_alloc_q rfl rfl ?_; intro b5 w2 hb5 hw5 hB2 V5; have hB12 := hB1.trans (hB2.mono hz1); have o2 := o1.grow hB2) | (refine wpList_store_q rfl 102 _ _ rfl b5 0 (.slice a1 n1 k1) rfl rfl rfl szWt V5 (by simp) ?_; intro w3 hO3 V3) | (fail))
  have L0 : Hid (Lq w W b5 (.slice a1 n1 k1) (.slice none 0 0) [] ys w3) := by
    have e3 := hO3.1
    have h2 := hB2.size
    exact ⟨by omega, V3, ((o2.wide (Nat.le_refl _) h2).only hO3 V5 (by decide)).wide (Nat.le_refl _) (by omega), hh, hB12.trans (hO3.2.2 _ (by omega)), own_zero _ _ _ _ _, tk_start hp, by have := hp.length_eq; simp; omega⟩
  clear o1 o2 V5 V3 hO3 hB12 hB1 hB2 hp hh hb5 hw5 hz1
  go_loopw [6] (fun nv wr => ∃ (u : Value) (P q : List It) (an : Option Addr) (nn kn : Nat), nv = .slice an nn kn ∧ Hid (Lq w W b5 u (.slice an nn kn) P q wr) ∧ q.length ≤ 20) (fun nv _ => 20 - (match nv with | .slice _ n _ => n | _ => 0))
  case atStart => exact ⟨_, [], ys, _, _, _, rfl, L0, by have := L0.out.len; omega⟩
  case round =>
    clear L0
    obtain ⟨u, P, q, an, nn, kn, rfl, L, hq20⟩ := hrel
    have hnn : Hid (nn = P.length) := by have := L.out.n.rd.cap.1; rw [List.length_map] at this; exact this
    by_cases h0 : 0 < q.length
    · obtain ⟨g, cap', rfl, hg, HQ0⟩ := L.out.hq h0
      have HQ : Hid (Hq wr b5 g cap' q) := HQ0
      obtain ⟨x0, x1, x2, x3, x4⟩ := row_cells HQ0.r 0 h0
      have htk := fun (r : List It) (hp : (q[0] :: r).Perm q) => tk_next HSr.out L.out.tk hp (first_nl L.out.h h0 hp)
      have hpop := fun (w9 : World) (m : Nat) (hm : q.length = m + 1) (Q9 : Hq w9 b5 g cap' q) (hlo : w.heap.size ≤ w9.heap.size) => pop_any m b5 g cap' w.heap.size q hm (hm ▸ L.out.h) w9 Q9 hg L.out.hb hlo
      obtain ⟨x, hx⟩ := hid_ex (q[0])
      rw [hx.out] at x0 x1 x2 x3 x4
      have hpop2 : ∀ (w9 : World) (m : Nat), q.length = m + 1 → Hq w9 b5 g cap' q → w.heap.size ≤ w9.heap.size → Calls Try.prog 76 #[.iface 106 (.pointer (some ⟨b5, 0, none⟩))] w9 fun e w' => (∃ u, e = .returned u) ∧ (∃ ys, (x :: ys).Perm q ∧ Hp ys.length ys ∧ Hq w' b5 g cap' ys) ∧ Tq w.heap.size w9 w' := fun w9 m hm Q9 hlo => by
        have := hpop w9 m hm Q9 hlo
        rw [hx.out] at this
        exact this
      have htk2 : ∀ r : List It, (x :: r).Perm q → Tk W (P ++ [x]) r := fun r hr => by have := htk r; rw [hx.out] at this; exact this hr
      have HTK : Hid _ := htk2
      have HPOP : Hid _ := hpop2
      clear htk hpop hpop2 htk2 x1 x2 x3 x4 hx
      obtain ⟨N, F, B, C, U⟩ := x
      dsimp only at x0
      simp only [Nat.zero_mul] at x0
      obtain ⟨L', hL'⟩ := hid_ex q.length
      have c5 := HQ0.V.cell 0 (by simp)
      simp only [List.getElem_cons_zero] at c5
      rw [hL'.out] at c5
      have hLn : 0 < L' := by have := hL'.out; omega
      have h0' : (0 : Int) < (L' : Int) := by omega
      have hpl : P.length ≤ 20 := by have := L.out.len; omega
      clear HQ0 h0
      go_wp2_with (first | (go_at_call 75; refine (len_any _ L' cap' wr).mono ?_; rintro e wq ⟨rfl, hq⟩; subst wq) | (at_builtin; refine wpList_append_g infoS rfl _ _ 24 rfl Try.underlying24 w.heap.size _ _ (P.map (·.N)) rfl (L.out.n.grow (bAq wr _)) (by have := L.out.low.size; simp; omega) _ [N] rfl (rd_new (E := encS) wr N #[.string N] rfl) (by simp; omega) ?_; intro v7 w7 o7 hT7; have hB7 := bAq wr (.cells #[.string N] 9); have V7 := hT7.vblk (vblk_grow HQ.out.V hB7) (by decide); have Q7 : Hid (Hq w7 b5 g cap' q) := ⟨V7, row_ty hT7 (HQ.out.r.grow hB7), HQ.out.l⟩; have hlow7 := (L.out.low.trans (hB7.mono L.out.low.size)).trans hT7.low; obtain ⟨a7, n7, k7, rfl⟩ := o7.slice) | (go_at_call 76; refine (HPOP.out w7 (L' - 1) (by have := hL'.out; omega) Q7.out hlow7.size).mono ?_; rintro e w8 ⟨⟨u8, rfl⟩, ⟨zs, hp8, hh8, Q8⟩, T8⟩) | (fail))
      have hlz : zs.length + 1 = q.length := by simpa using hp8.length_eq
      have hsum := L.out.len
      have hn7 : n7 = P.length + 1 := by have := o7.rd.cap.1; simp at this; exact this
      have hz8 := T8.low.size
      refine ⟨⟨_, P ++ [⟨N, F, B, C, U⟩], zs, a7, n7, k7, rfl, ⟨L.out.hb, Q8.V, Q8.r.own hg Q8.r.lt rfl, hh8, hlow7.trans T8.low, ?_, HTK.out zs hp8, by simp; omega⟩, by omega⟩, ?_⟩
      · have := (T8.own o7 (by decide) (by decide)).top
        simpa using this
      · show 20 - n7 < 20 - nn
        have := hnn.out
        omega
    · have hq0 : q = [] := List.eq_nil_of_length_eq_zero (by omega)
      subst hq0
      obtain ⟨au, nu, ku, rfl⟩ := L.out.o.slice
      have hnu : nu = 0 := by simpa using L.out.o.rd.cap.1
      subst hnu
      have c5 := L.out.V.cell 0 (by simp)
      simp only [List.getElem_cons_zero] at c5
      go_wp2_with (first | (go_at_call 75; refine (len_any _ 0 ku wr).mono ?_; rintro e wq ⟨rfl, hq⟩; subst wq) | (fail))
      go_ret
      have hPD := tk_end L.out.tk HD.out.1 HD.out.2.1
      have hn := L.out.n
      rw [hPD, HD.out.2.2] at hn
      exact ⟨_, rfl, hn, L.out.low⟩
set_option maxRecDepth 100000 in
set_option maxHeartbeats 4000000 in
theorem implSoonestOf_any (b : List It) (v : Value) (w : World) (r : Rd encIt w v b) (hs : SmK b) :
    Calls Try.prog 32 #[v] w fun e w' => e = .returned (.int .i64 (sooI b)) ∧ Below w.heap.size w w' := by
  obtain ⟨a, cap, rfl⟩ := r.form
  have R : Hid (Rd encIt w (.slice a b.length cap) b) := r
  have HS : Hid (SmK b) := hs
  clear r hs
  obtain ⟨z, hz⟩ := hid_ex (sooI b)
  rw [hz.out]
  go_enter Try.func32, Try.ntmps32
  go_upto_region 2 with (first | (go_at_call 74; refine (waitingBy_any b 1000000 _ w R.out HS.out).mono ?_; rintro e w1 ⟨v1, ys, rfl, hp, hh, o1, hB1⟩; obtain ⟨a1, n1, k1, rfl⟩ := o1.slice) | (fail))
  have hn1 : Hid (n1 = ys.length) := o1.rd.cap.1
  by_cases h0 : n1 = 0
  · subst h0
    have hys : ys = [] := List.eq_nil_of_length_eq_zero hn1.out.symm
    have hso : Hid (z = 0) := by unfold Hid; rw [← hz.out]; exact soo_none (by rw [hys] at hp; exact hp.symm)
    go_wp2_with (first | (go_at_call 75; refine (len_any _ 0 k1 w1).mono ?_; rintro e wq ⟨rfl, hq⟩; subst wq) | (fail))
    go_ret
    exact ⟨by rw [hso.out]; rfl, hB1⟩
  · have hql : 0 < ys.length := by have := hn1.out; omega
    have hf : ((n1 : Int) == 0) = false := by simpa using h0
    have h0' : (0 : Int) < (n1 : Int) := by omega
    obtain ⟨g, cg, e, hg1, hg2, hg3⟩ := o1.form hql
    obtain ⟨c0, off, hg, -, x4, -⟩ : ∃ g, ∃ _ : Nat, a1 = some ⟨g, 0, none⟩ ∧ True ∧ w1.cell? ⟨g, 4, none⟩ = some (.int .i64 ys[0].U) ∧ True := by
      obtain ⟨g, e, -, h, -⟩ := o1.cell 0 4 hql (by decide)
      exact ⟨g, 0, e, trivial, h, trivial⟩
    subst hg
    have hso : Hid (sooI b = ys[0].U) := soo_first hp hh hql
    rw [hz.out] at hso
    rw [← hso.out] at x4
    clear e
    go_wp2_with (first | (go_at_call 75; refine (len_any _ n1 k1 w1).mono ?_; rintro e wq ⟨rfl, hq⟩; subst wq) | (fail))
    go_ret
    exact ⟨rfl, hB1⟩
end Go.Proofs.Ytmnjmghlkiljhaa.rg
