/- The walk of the law FnRings. -/
import Derived.Test.YtgcgofnjaipndaaRt0
import Derived.Test.YtgcgofnjaipndaaRt1
import Derived.Test.YtgcgofnjaipndaaRe4
import Derived.Deep.DeepCutAuto
namespace Go.Proofs.Ytgcgofnjaipndaa.lawRi
open Go.ChangeShapes Go.WideShapes Go.ChangeAt Go.RowKit
open Go.Proofs.Ytgcgofnjaipndaa.ce Go.Proofs.Ytgcgofnjaipndaa.ro Go.Proofs.Ytgcgofnjaipndaa.rg Go.Proofs.Ytgcgofnjaipndaa.draw
set_option linter.unusedVariables false

theorem nd_inj {N : List ByteArray} (nd : N.Nodup) {i j : Nat} (hi : i < N.length) (hj : j < N.length) (e : N[i] = N[j]) : i = j := by
  have h := List.pairwise_iff_getElem.1 nd
  rcases Nat.lt_trichotomy i j with q | q | q
  · exact absurd e (h i j hi hj q)
  · exact q
  · exact absurd e.symm (h j i hj hi q)
theorem lv_yes {q : Rg} {s : ByteArray} (h : lvB q s = true) : ROk q ∧ ∃ i : Nat, ∃ hi : i < q.N.length, q.N[i] = s ∧ lvR q s = left q i := by
  unfold lvB at h
  simp only [Bool.and_eq_true, decide_eq_true_eq] at h
  obtain ⟨h1, h2⟩ := h
  rcases posS_cases s q.N with ⟨-, e⟩ | ⟨i, hi, e, -, hp⟩
  · omega
  · refine ⟨ringB_iff.1 h1, i, hi, e, ?_⟩
    unfold lvR
    rw [if_pos h1, if_pos h2, hp]
    rfl
theorem lv_no {q : Rg} {s : ByteArray} (h : lvB q s = false) (h1 : ringB q = true) : lvR q s = q := by
  unfold lvB at h
  rw [h1] at h
  unfold lvR
  rw [if_pos h1, if_neg (by simpa using h)]
theorem jn_yes {r : Rg} {s : ByteArray} (h : jnB r s = true) : ROk r ∧ ringB r = true ∧ ringB (joined r s) = true ∧ jnR r s = joined r s := by
  unfold jnB at h
  simp only [Bool.and_eq_true] at h
  have k := ringB_iff.1 h.1
  refine ⟨k, h.1, ringB_iff.2 (joined_ok k h.2), ?_⟩
  unfold jnR
  rw [if_pos h.1, if_pos h.2]
theorem jn_no {r : Rg} {s : ByteArray} (h : jnB r s = false) (h1 : ringB r = true) : jnR r s = r := by
  unfold jnB at h
  rw [h1] at h
  unfold jnR
  rw [if_pos h1, if_neg (by simpa using h)]
theorem jn_zero {r : Rg} {s : ByteArray} (h1 : ringB r = false) : jnR r s = Rg.zero := by
  unfold jnR
  rw [h1]
  rfl

set_option maxRecDepth 100000 in
set_option maxHeartbeats 16000000 in
theorem walk (a0 : Option Addr) (len cap : Nat) (w : World) (hl : len ≤ 4096) (hcode0 : CodeAt w a0 len) :
    Calls Try.prog 9 #[.slice a0 len cap] w fun e w' => e = .returned (.bool true) ∧ Below w.heap.size w w' := by
  have HC : Hid (CodeAt w a0 len) := hcode0
  clear hcode0
  have hl' : ¬ (4096 : Int) < (len : Int) := by omega
  go_enter Try.func9, Try.ntmps9
  have mk1 : Hid True := trivial
  have mk2 : Hid True := trivial
  have mk3 : Hid True := trivial
  have mk4 : Hid True := trivial
  have mk5 : Hid True := trivial
  have mk6 : Hid True := trivial
  have mk7 : Hid True := trivial
  have mk8 : Hid True := trivial
  have mk9 : Hid True := trivial
  have mk10 : Hid True := trivial
  have mk11 : Hid True := trivial
  have mk12 : Hid True := trivial
  have mk13 : Hid True := trivial
  have mk14 : Hid True := trivial
  have mk15 : Hid True := trivial
  have mk16 : Hid True := trivial
  have mk17 : Hid True := trivial
  have mk18 : Hid True := trivial
  have mk19 : Hid True := trivial
  go_upto_region 9 with (first | (clear mk1; go_at_call 28; go_in) | (clear mk2; go_at_call 29; refine (drawJoins_any _ _ _ _ HC.out).mono ?_; rintro er w1 ⟨vr, ur, r, nm, rfl, hsnm, ⟨oR, hsmr, hB1⟩⟩; have hz1 : w.heap.size ≤ w1.heap.size := hB1.size; have hB := hB1; have hzw := hB.size; obtain ⟨Ar, Nr, Kr, rfl⟩ := oR.n.slice; obtain ⟨Br, Mr, Lr, rfl⟩ := oR.u.slice; have HSr : Hid (∀ s ∈ r.N, s.size ≤ 9223372036854775807) := fun s hs => (by have := hsmr.s s hs; omega); clear hsmr; obtain ⟨J, hJ⟩ := hid_ex (jnR r nm); obtain ⟨z, hz⟩ := hid_ex (jnB r nm); have hzz : (z != z) = false := (by simp); obtain ⟨g, hg⟩ := hid_ex (ringB r); have hgg : (g != g) = false := (by simp); obtain ⟨n, hn⟩ := hid_ex (nameB nm); have hnn : (n != n) = false := (by simp); have hnm : nm.size ≤ 9223372036854775807 := (by omega)) | (clear mk3; refine wpList_alloc_v rfl 29 rfl _ zeroRg ?_; intro br w2 hbr hwbr hB2 cr; have hz2 : w1.heap.size ≤ w2.heap.size := hB2.size; replace oR := oR.grow hB2; replace hB := hB.trans (hB2.mono (by omega)); replace hzw := hB.size) | (clear mk4; refine wpList_store_v rfl 29 _ _ rfl br [.slice Ar Nr Kr, .slice Br Mr Lr, .int .i64 r.A] rfl rfl sizeRg cr rfl (by simp [Value.oneCell']) ?_; intro w3 hO3 crx; have hz3 : w2.heap.size ≤ w3.heap.size := (Nat.le_of_eq hO3.1.symm); have hy3 : w3.heap.size ≤ w2.heap.size := (Nat.le_of_eq hO3.1); replace oR := oR.only hO3 cr (by decide) (by decide); replace hB := hB.trans (hO3.2.2 _ (by omega)); replace hzw := hB.size; clear cr; have cr := crx; clear crx; obtain ⟨cr0, cr1, cr2⟩ := cells3 cr) | (clear mk5; go_at_call 19; refine (implJoins_all r nm hnm _ _ _ (oR.rd HSr.out)).mono ?_; rintro er w4 ⟨vx, ux, he, ox, hB4⟩; have hz4 : w3.heap.size ≤ w4.heap.size := hB4.size; replace oR := oR.grow hB4; replace cr := vblk_grow cr hB4; replace hB := hB.trans (hB4.mono (by omega)); replace hzw := hB.size; clear cr0 cr1 cr2; obtain ⟨cr0, cr1, cr2⟩ := cells3 cr; rw [hJ.out, hz.out] at he; subst he; rw [hJ.out] at ox; obtain ⟨Ax, Nx, Kx, rfl⟩ := ox.n.slice; obtain ⟨Bx, Mx, Lx, rfl⟩ := ox.u.slice) | (clear mk6; refine wpList_alloc_v rfl 29 rfl _ zeroRg ?_; intro bx w5 hbx hwbx hB5 cx; have hz5 : w4.heap.size ≤ w5.heap.size := hB5.size; replace oR := oR.grow hB5; replace ox := ox.grow hB5; replace cr := vblk_grow cr hB5; replace hB := hB.trans (hB5.mono (by omega)); replace hzw := hB.size; clear cr0 cr1 cr2; obtain ⟨cr0, cr1, cr2⟩ := cells3 cr) | (clear mk7; refine wpList_store_v rfl 29 _ _ rfl bx [.slice Ax Nx Kx, .slice Bx Mx Lx, .int .i64 J.A] rfl rfl sizeRg cx rfl (by simp [Value.oneCell']) ?_; intro w6 hO6 cxx; have hz6 : w5.heap.size ≤ w6.heap.size := (Nat.le_of_eq hO6.1.symm); have hy6 : w6.heap.size ≤ w5.heap.size := (Nat.le_of_eq hO6.1); replace oR := oR.only hO6 cx (by decide) (by decide); replace ox := ox.only hO6 cx (by decide) (by decide); replace cr := vblk_only cr hO6 (by omega); replace hB := hB.trans (hO6.2.2 _ (by omega)); replace hzw := hB.size; clear cr0 cr1 cr2; obtain ⟨cr0, cr1, cr2⟩ := cells3 cr; clear cx; have cx := cxx; clear cxx; obtain ⟨cx0, cx1, cx2⟩ := cells3 cx) | (clear mk8; go_at_call 30; refine (drawLeaves_any _ _ _ _ (code_below HC.out hB)).mono ?_; rintro er w7 ⟨vq, uq, q, wh, rfl, hswh, ⟨oq, hsmq, hB7⟩⟩; have hz7 : w6.heap.size ≤ w7.heap.size := hB7.size; replace oR := oR.grow hB7; replace ox := ox.grow hB7; replace cr := vblk_grow cr hB7; replace cx := vblk_grow cx hB7; replace hB := hB.trans (hB7.mono (by omega)); replace hzw := hB.size; clear cr0 cr1 cr2; obtain ⟨cr0, cr1, cr2⟩ := cells3 cr; clear cx0 cx1 cx2; obtain ⟨cx0, cx1, cx2⟩ := cells3 cx; obtain ⟨Aq, Nq, Kq, rfl⟩ := oq.n.slice; obtain ⟨Bq, Mq, Lq, rfl⟩ := oq.u.slice; have HSq : Hid (∀ s ∈ q.N, s.size ≤ 9223372036854775807) := fun s hs => (by have := hsmq.s s hs; omega); clear hsmq; obtain ⟨Q, hQ⟩ := hid_ex (lvR q wh); obtain ⟨y, hy⟩ := hid_ex (lvB q wh); have hyy : (y != y) = false := (by simp)) | (clear mk9; refine wpList_alloc_v rfl 29 rfl _ zeroRg ?_; intro bq w8 hbq hwbq hB8 cq; have hz8 : w7.heap.size ≤ w8.heap.size := hB8.size; replace oR := oR.grow hB8; replace ox := ox.grow hB8; replace oq := oq.grow hB8; replace cr := vblk_grow cr hB8; replace cx := vblk_grow cx hB8; replace hB := hB.trans (hB8.mono (by omega)); replace hzw := hB.size; clear cr0 cr1 cr2; obtain ⟨cr0, cr1, cr2⟩ := cells3 cr; clear cx0 cx1 cx2; obtain ⟨cx0, cx1, cx2⟩ := cells3 cx) | (clear mk10; refine wpList_store_v rfl 29 _ _ rfl bq [.slice Aq Nq Kq, .slice Bq Mq Lq, .int .i64 q.A] rfl rfl sizeRg cq rfl (by simp [Value.oneCell']) ?_; intro w9 hO9 cqx; have hz9 : w8.heap.size ≤ w9.heap.size := (Nat.le_of_eq hO9.1.symm); have hy9 : w9.heap.size ≤ w8.heap.size := (Nat.le_of_eq hO9.1); replace oR := oR.only hO9 cq (by decide) (by decide); replace ox := ox.only hO9 cq (by decide) (by decide); replace oq := oq.only hO9 cq (by decide) (by decide); replace cr := vblk_only cr hO9 (by omega); replace cx := vblk_only cx hO9 (by omega); replace hB := hB.trans (hO9.2.2 _ (by omega)); replace hzw := hB.size; clear cr0 cr1 cr2; obtain ⟨cr0, cr1, cr2⟩ := cells3 cr; clear cx0 cx1 cx2; obtain ⟨cx0, cx1, cx2⟩ := cells3 cx; clear cq; have cq := cqx; clear cqx; obtain ⟨cq0, cq1, cq2⟩ := cells3 cq) | (clear mk11; go_at_call 25; refine (implLeaves_all q wh _ _ _ (oq.rd HSq.out)).mono ?_; rintro er w10 ⟨vl, ul, he, ol, hB10⟩; have hz10 : w9.heap.size ≤ w10.heap.size := hB10.size; replace oR := oR.grow hB10; replace ox := ox.grow hB10; replace oq := oq.grow hB10; replace cr := vblk_grow cr hB10; replace cx := vblk_grow cx hB10; replace cq := vblk_grow cq hB10; replace hB := hB.trans (hB10.mono (by omega)); replace hzw := hB.size; clear cr0 cr1 cr2; obtain ⟨cr0, cr1, cr2⟩ := cells3 cr; clear cx0 cx1 cx2; obtain ⟨cx0, cx1, cx2⟩ := cells3 cx; clear cq0 cq1 cq2; obtain ⟨cq0, cq1, cq2⟩ := cells3 cq; rw [hQ.out, hy.out] at he; subst he; rw [hQ.out] at ol; obtain ⟨Al, Nl, Kl, rfl⟩ := ol.n.slice; obtain ⟨Bl, Ml, Ll, rfl⟩ := ol.u.slice) | (clear mk12; refine wpList_alloc_v rfl 29 rfl _ zeroRg ?_; intro bl w11 hbl hwbl hB11 cl; have hz11 : w10.heap.size ≤ w11.heap.size := hB11.size; replace oR := oR.grow hB11; replace ox := ox.grow hB11; replace oq := oq.grow hB11; replace ol := ol.grow hB11; replace cr := vblk_grow cr hB11; replace cx := vblk_grow cx hB11; replace cq := vblk_grow cq hB11; replace hB := hB.trans (hB11.mono (by omega)); replace hzw := hB.size; clear cr0 cr1 cr2; obtain ⟨cr0, cr1, cr2⟩ := cells3 cr; clear cx0 cx1 cx2; obtain ⟨cx0, cx1, cx2⟩ := cells3 cx; clear cq0 cq1 cq2; obtain ⟨cq0, cq1, cq2⟩ := cells3 cq) | (clear mk13; refine wpList_store_v rfl 29 _ _ rfl bl [.slice Al Nl Kl, .slice Bl Ml Ll, .int .i64 Q.A] rfl rfl sizeRg cl rfl (by simp [Value.oneCell']) ?_; intro w12 hO12 clx; have hz12 : w11.heap.size ≤ w12.heap.size := (Nat.le_of_eq hO12.1.symm); have hy12 : w12.heap.size ≤ w11.heap.size := (Nat.le_of_eq hO12.1); replace oR := oR.only hO12 cl (by decide) (by decide); replace ox := ox.only hO12 cl (by decide) (by decide); replace oq := oq.only hO12 cl (by decide) (by decide); replace ol := ol.only hO12 cl (by decide) (by decide); replace cr := vblk_only cr hO12 (by omega); replace cx := vblk_only cx hO12 (by omega); replace cq := vblk_only cq hO12 (by omega); replace hB := hB.trans (hO12.2.2 _ (by omega)); replace hzw := hB.size; clear cr0 cr1 cr2; obtain ⟨cr0, cr1, cr2⟩ := cells3 cr; clear cx0 cx1 cx2; obtain ⟨cx0, cx1, cx2⟩ := cells3 cx; clear cq0 cq1 cq2; obtain ⟨cq0, cq1, cq2⟩ := cells3 cq; clear cl; have cl := clx; clear clx; obtain ⟨cl0, cl1, cl2⟩ := cells3 cl) | (clear mk14; go_at_call 31; refine (drawUses_any _ _ _ _ (code_below HC.out hB)).mono ?_; rintro er w13 ⟨vp, up, p, mm, rfl, hsmm, ⟨op, hsmp, hB13⟩⟩; have hz13 : w12.heap.size ≤ w13.heap.size := hB13.size; replace oR := oR.grow hB13; replace ox := ox.grow hB13; replace oq := oq.grow hB13; replace ol := ol.grow hB13; replace cr := vblk_grow cr hB13; replace cx := vblk_grow cx hB13; replace cq := vblk_grow cq hB13; replace cl := vblk_grow cl hB13; replace hB := hB.trans (hB13.mono (by omega)); replace hzw := hB.size; clear cr0 cr1 cr2; obtain ⟨cr0, cr1, cr2⟩ := cells3 cr; clear cx0 cx1 cx2; obtain ⟨cx0, cx1, cx2⟩ := cells3 cx; clear cq0 cq1 cq2; obtain ⟨cq0, cq1, cq2⟩ := cells3 cq; clear cl0 cl1 cl2; obtain ⟨cl0, cl1, cl2⟩ := cells3 cl; obtain ⟨Ap, Np, Kp, rfl⟩ := op.n.slice; obtain ⟨Bp, Mp, Lp, rfl⟩ := op.u.slice; have HSp : Hid (∀ s ∈ p.N, s.size ≤ 9223372036854775807) := fun s hs => (by have := hsmp.s s hs; omega); clear hsmp; obtain ⟨P, hP⟩ := hid_ex (usR p mm)) | (clear mk15; refine wpList_alloc_v rfl 29 rfl _ zeroRg ?_; intro bp w14 hbp hwbp hB14 cp; have hz14 : w13.heap.size ≤ w14.heap.size := hB14.size; replace oR := oR.grow hB14; replace ox := ox.grow hB14; replace oq := oq.grow hB14; replace ol := ol.grow hB14; replace op := op.grow hB14; replace cr := vblk_grow cr hB14; replace cx := vblk_grow cx hB14; replace cq := vblk_grow cq hB14; replace cl := vblk_grow cl hB14; replace hB := hB.trans (hB14.mono (by omega)); replace hzw := hB.size; clear cr0 cr1 cr2; obtain ⟨cr0, cr1, cr2⟩ := cells3 cr; clear cx0 cx1 cx2; obtain ⟨cx0, cx1, cx2⟩ := cells3 cx; clear cq0 cq1 cq2; obtain ⟨cq0, cq1, cq2⟩ := cells3 cq; clear cl0 cl1 cl2; obtain ⟨cl0, cl1, cl2⟩ := cells3 cl) | (clear mk16; refine wpList_store_v rfl 29 _ _ rfl bp [.slice Ap Np Kp, .slice Bp Mp Lp, .int .i64 p.A] rfl rfl sizeRg cp rfl (by simp [Value.oneCell']) ?_; intro w15 hO15 cpx; have hz15 : w14.heap.size ≤ w15.heap.size := (Nat.le_of_eq hO15.1.symm); have hy15 : w15.heap.size ≤ w14.heap.size := (Nat.le_of_eq hO15.1); replace oR := oR.only hO15 cp (by decide) (by decide); replace ox := ox.only hO15 cp (by decide) (by decide); replace oq := oq.only hO15 cp (by decide) (by decide); replace ol := ol.only hO15 cp (by decide) (by decide); replace op := op.only hO15 cp (by decide) (by decide); replace cr := vblk_only cr hO15 (by omega); replace cx := vblk_only cx hO15 (by omega); replace cq := vblk_only cq hO15 (by omega); replace cl := vblk_only cl hO15 (by omega); replace hB := hB.trans (hO15.2.2 _ (by omega)); replace hzw := hB.size; clear cr0 cr1 cr2; obtain ⟨cr0, cr1, cr2⟩ := cells3 cr; clear cx0 cx1 cx2; obtain ⟨cx0, cx1, cx2⟩ := cells3 cx; clear cq0 cq1 cq2; obtain ⟨cq0, cq1, cq2⟩ := cells3 cq; clear cl0 cl1 cl2; obtain ⟨cl0, cl1, cl2⟩ := cells3 cl; clear cp; have cp := cpx; clear cpx; obtain ⟨cp0, cp1, cp2⟩ := cells3 cp) | (clear mk17; go_at_call 18; refine (specJoins_all r nm hnm _ _ _ (oR.rd HSr.out)).mono ?_; rintro er w16 ⟨vt, ut, he, ot, hB16⟩; have hz16 : w15.heap.size ≤ w16.heap.size := hB16.size; replace oR := oR.grow hB16; replace ox := ox.grow hB16; replace oq := oq.grow hB16; replace ol := ol.grow hB16; replace op := op.grow hB16; replace cr := vblk_grow cr hB16; replace cx := vblk_grow cx hB16; replace cq := vblk_grow cq hB16; replace cl := vblk_grow cl hB16; replace cp := vblk_grow cp hB16; replace hB := hB.trans (hB16.mono (by omega)); replace hzw := hB.size; clear cr0 cr1 cr2; obtain ⟨cr0, cr1, cr2⟩ := cells3 cr; clear cx0 cx1 cx2; obtain ⟨cx0, cx1, cx2⟩ := cells3 cx; clear cq0 cq1 cq2; obtain ⟨cq0, cq1, cq2⟩ := cells3 cq; clear cl0 cl1 cl2; obtain ⟨cl0, cl1, cl2⟩ := cells3 cl; clear cp0 cp1 cp2; obtain ⟨cp0, cp1, cp2⟩ := cells3 cp; rw [hJ.out, hz.out] at he; subst he; rw [hJ.out] at ot; obtain ⟨At, Nt, Kt, rfl⟩ := ot.n.slice; obtain ⟨Bt, Mt, Lt, rfl⟩ := ot.u.slice) | (clear mk18; refine wpList_alloc_v rfl 29 rfl _ zeroRg ?_; intro bt w17 hbt hwbt hB17 ct; have hz17 : w16.heap.size ≤ w17.heap.size := hB17.size; replace oR := oR.grow hB17; replace ox := ox.grow hB17; replace oq := oq.grow hB17; replace ol := ol.grow hB17; replace op := op.grow hB17; replace ot := ot.grow hB17; replace cr := vblk_grow cr hB17; replace cx := vblk_grow cx hB17; replace cq := vblk_grow cq hB17; replace cl := vblk_grow cl hB17; replace cp := vblk_grow cp hB17; replace hB := hB.trans (hB17.mono (by omega)); replace hzw := hB.size; clear cr0 cr1 cr2; obtain ⟨cr0, cr1, cr2⟩ := cells3 cr; clear cx0 cx1 cx2; obtain ⟨cx0, cx1, cx2⟩ := cells3 cx; clear cq0 cq1 cq2; obtain ⟨cq0, cq1, cq2⟩ := cells3 cq; clear cl0 cl1 cl2; obtain ⟨cl0, cl1, cl2⟩ := cells3 cl; clear cp0 cp1 cp2; obtain ⟨cp0, cp1, cp2⟩ := cells3 cp) | (clear mk19; refine wpList_store_v rfl 29 _ _ rfl bt [.slice At Nt Kt, .slice Bt Mt Lt, .int .i64 J.A] rfl rfl sizeRg ct rfl (by simp [Value.oneCell']) ?_; intro w18 hO18 ctx; have hz18 : w17.heap.size ≤ w18.heap.size := (Nat.le_of_eq hO18.1.symm); have hy18 : w18.heap.size ≤ w17.heap.size := (Nat.le_of_eq hO18.1); replace oR := oR.only hO18 ct (by decide) (by decide); replace ox := ox.only hO18 ct (by decide) (by decide); replace oq := oq.only hO18 ct (by decide) (by decide); replace ol := ol.only hO18 ct (by decide) (by decide); replace op := op.only hO18 ct (by decide) (by decide); replace ot := ot.only hO18 ct (by decide) (by decide); replace cr := vblk_only cr hO18 (by omega); replace cx := vblk_only cx hO18 (by omega); replace cq := vblk_only cq hO18 (by omega); replace cl := vblk_only cl hO18 (by omega); replace cp := vblk_only cp hO18 (by omega); replace hB := hB.trans (hO18.2.2 _ (by omega)); replace hzw := hB.size; clear cr0 cr1 cr2; obtain ⟨cr0, cr1, cr2⟩ := cells3 cr; clear cx0 cx1 cx2; obtain ⟨cx0, cx1, cx2⟩ := cells3 cx; clear cq0 cq1 cq2; obtain ⟨cq0, cq1, cq2⟩ := cells3 cq; clear cl0 cl1 cl2; obtain ⟨cl0, cl1, cl2⟩ := cells3 cl; clear cp0 cp1 cp2; obtain ⟨cp0, cp1, cp2⟩ := cells3 cp; clear ct; have ct := ctx; clear ctx; obtain ⟨ct0, ct1, ct2⟩ := cells3 ct) | (fail))
  have hBd : Below w18.heap.size w18 w18.drew := (Below.refl _ _).drew
  have hzd : w18.drew.heap.size ≤ w18.heap.size := Nat.le_refl _
  have hzd2 : w18.heap.size ≤ w18.drew.heap.size := Nat.le_refl _
  replace oR := oR.grow hBd
  replace ox := ox.grow hBd
  replace oq := oq.grow hBd
  replace ol := ol.grow hBd
  replace op := op.grow hBd
  replace ot := ot.grow hBd
  replace cr := vblk_grow cr hBd
  clear cr0 cr1 cr2
  obtain ⟨cr0, cr1, cr2⟩ := cells3 cr
  replace cx := vblk_grow cx hBd
  clear cx0 cx1 cx2
  obtain ⟨cx0, cx1, cx2⟩ := cells3 cx
  replace cq := vblk_grow cq hBd
  clear cq0 cq1 cq2
  obtain ⟨cq0, cq1, cq2⟩ := cells3 cq
  replace cl := vblk_grow cl hBd
  clear cl0 cl1 cl2
  obtain ⟨cl0, cl1, cl2⟩ := cells3 cl
  replace cp := vblk_grow cp hBd
  clear cp0 cp1 cp2
  obtain ⟨cp0, cp1, cp2⟩ := cells3 cp
  replace ct := vblk_grow ct hBd
  clear ct0 ct1 ct2
  obtain ⟨ct0, ct1, ct2⟩ := cells3 ct
  replace hB := hB.trans (hBd.mono (by omega))
  replace hzw := hB.size
  have S1 : (w18.drew.cell? ⟨bx, 0, none⟩ = some (.slice Ax Nx Kx) ∧ w18.drew.cell? ⟨bx, 1, none⟩ = some (.slice Bx Mx Lx) ∧ w18.drew.cell? ⟨bx, 2, none⟩ = some (.int .i64 J.A) ∧ w18.drew.cell? ⟨bt, 0, none⟩ = some (.slice At Nt Kt) ∧ w18.drew.cell? ⟨bt, 1, none⟩ = some (.slice Bt Mt Lt) ∧ w18.drew.cell? ⟨bt, 2, none⟩ = some (.int .i64 J.A) ∧ w18.drew.cell? ⟨br, 0, none⟩ = some (.slice Ar Nr Kr) ∧ w18.drew.cell? ⟨br, 1, none⟩ = some (.slice Br Mr Lr) ∧ w18.drew.cell? ⟨br, 2, none⟩ = some (.int .i64 r.A) ∧ w18.drew.cell? ⟨bp, 0, none⟩ = some (.slice Ap Np Kp) ∧ w18.drew.cell? ⟨bp, 1, none⟩ = some (.slice Bp Mp Lp) ∧ w18.drew.cell? ⟨bp, 2, none⟩ = some (.int .i64 p.A)) := ⟨cx0, cx1, cx2, ct0, ct1, ct2, cr0, cr1, cr2, cp0, cp1, cp2⟩
  have mk20 : Hid True := trivial
  have mk21 : Hid True := trivial
  have mk22 : Hid True := trivial
  have mk23 : Hid True := trivial
  have mk24 : Hid True := trivial
  have mk25 : Hid True := trivial
  have mk26 : Hid True := trivial
  have mk27 : Hid True := trivial
  go_region_held3 (fun w' => (w'.cell? ⟨bx, 0, none⟩ = some (.slice Ax Nx Kx) ∧ w'.cell? ⟨bx, 1, none⟩ = some (.slice Bx Mx Lx) ∧ w'.cell? ⟨bx, 2, none⟩ = some (.int .i64 J.A) ∧ w'.cell? ⟨bt, 0, none⟩ = some (.slice At Nt Kt) ∧ w'.cell? ⟨bt, 1, none⟩ = some (.slice Bt Mt Lt) ∧ w'.cell? ⟨bt, 2, none⟩ = some (.int .i64 J.A) ∧ w'.cell? ⟨br, 0, none⟩ = some (.slice Ar Nr Kr) ∧ w'.cell? ⟨br, 1, none⟩ = some (.slice Br Mr Lr) ∧ w'.cell? ⟨br, 2, none⟩ = some (.int .i64 r.A) ∧ w'.cell? ⟨bp, 0, none⟩ = some (.slice Ap Np Kp) ∧ w'.cell? ⟨bp, 1, none⟩ = some (.slice Bp Mp Lp) ∧ w'.cell? ⟨bp, 2, none⟩ = some (.int .i64 p.A))) (first | assumption | exact S1) (first | (clear mk20; go_at_call 32; refine (likeRing_any J _ _ _ _ _ ox.n.rd ox.u.rd ot.n.rd ot.u.rd).mono ?_; rintro er w19 ⟨rfl, hB19⟩; have hz19 : w18.drew.heap.size ≤ w19.heap.size := hB19.size; replace oR := oR.grow hB19; replace ox := ox.grow hB19; replace oq := oq.grow hB19; replace ol := ol.grow hB19; replace op := op.grow hB19; replace ot := ot.grow hB19; replace cr := vblk_grow cr hB19; replace cx := vblk_grow cx hB19; replace cq := vblk_grow cq hB19; replace cl := vblk_grow cl hB19; replace cp := vblk_grow cp hB19; replace ct := vblk_grow ct hB19; replace hB := hB.trans (hB19.mono (by omega)); replace hzw := hB.size; clear cr0 cr1 cr2; obtain ⟨cr0, cr1, cr2⟩ := cells3 cr; clear cx0 cx1 cx2; obtain ⟨cx0, cx1, cx2⟩ := cells3 cx; clear cq0 cq1 cq2; obtain ⟨cq0, cq1, cq2⟩ := cells3 cq; clear cl0 cl1 cl2; obtain ⟨cl0, cl1, cl2⟩ := cells3 cl; clear cp0 cp1 cp2; obtain ⟨cp0, cp1, cp2⟩ := cells3 cp; clear ct0 ct1 ct2; obtain ⟨ct0, ct1, ct2⟩ := cells3 ct; have S2 : (w19.cell? ⟨bx, 0, none⟩ = some (.slice Ax Nx Kx) ∧ w19.cell? ⟨bx, 1, none⟩ = some (.slice Bx Mx Lx) ∧ w19.cell? ⟨bx, 2, none⟩ = some (.int .i64 J.A) ∧ w19.cell? ⟨bt, 0, none⟩ = some (.slice At Nt Kt) ∧ w19.cell? ⟨bt, 1, none⟩ = some (.slice Bt Mt Lt) ∧ w19.cell? ⟨bt, 2, none⟩ = some (.int .i64 J.A) ∧ w19.cell? ⟨br, 0, none⟩ = some (.slice Ar Nr Kr) ∧ w19.cell? ⟨br, 1, none⟩ = some (.slice Br Mr Lr) ∧ w19.cell? ⟨br, 2, none⟩ = some (.int .i64 r.A) ∧ w19.cell? ⟨bp, 0, none⟩ = some (.slice Ap Np Kp) ∧ w19.cell? ⟨bp, 1, none⟩ = some (.slice Bp Mp Lp) ∧ w19.cell? ⟨bp, 2, none⟩ = some (.int .i64 p.A)) := ⟨cx0, cx1, cx2, ct0, ct1, ct2, cr0, cr1, cr2, cp0, cp1, cp2⟩) | (clear mk21; go_at_call 16; refine (implRingOk_any r _ _ _ (oR.rd HSr.out)).mono ?_; rintro er w20 ⟨he, hB20⟩; have hz20 : w19.heap.size ≤ w20.heap.size := hB20.size; replace oR := oR.grow hB20; replace ox := ox.grow hB20; replace oq := oq.grow hB20; replace ol := ol.grow hB20; replace op := op.grow hB20; replace ot := ot.grow hB20; replace cr := vblk_grow cr hB20; replace cx := vblk_grow cx hB20; replace cq := vblk_grow cq hB20; replace cl := vblk_grow cl hB20; replace cp := vblk_grow cp hB20; replace ct := vblk_grow ct hB20; replace hB := hB.trans (hB20.mono (by omega)); replace hzw := hB.size; clear cr0 cr1 cr2; obtain ⟨cr0, cr1, cr2⟩ := cells3 cr; clear cx0 cx1 cx2; obtain ⟨cx0, cx1, cx2⟩ := cells3 cx; clear cq0 cq1 cq2; obtain ⟨cq0, cq1, cq2⟩ := cells3 cq; clear cl0 cl1 cl2; obtain ⟨cl0, cl1, cl2⟩ := cells3 cl; clear cp0 cp1 cp2; obtain ⟨cp0, cp1, cp2⟩ := cells3 cp; clear ct0 ct1 ct2; obtain ⟨ct0, ct1, ct2⟩ := cells3 ct; rw [hg.out] at he; subst he; have S3 : (w20.cell? ⟨bx, 0, none⟩ = some (.slice Ax Nx Kx) ∧ w20.cell? ⟨bx, 1, none⟩ = some (.slice Bx Mx Lx) ∧ w20.cell? ⟨bx, 2, none⟩ = some (.int .i64 J.A) ∧ w20.cell? ⟨bt, 0, none⟩ = some (.slice At Nt Kt) ∧ w20.cell? ⟨bt, 1, none⟩ = some (.slice Bt Mt Lt) ∧ w20.cell? ⟨bt, 2, none⟩ = some (.int .i64 J.A) ∧ w20.cell? ⟨br, 0, none⟩ = some (.slice Ar Nr Kr) ∧ w20.cell? ⟨br, 1, none⟩ = some (.slice Br Mr Lr) ∧ w20.cell? ⟨br, 2, none⟩ = some (.int .i64 r.A) ∧ w20.cell? ⟨bp, 0, none⟩ = some (.slice Ap Np Kp) ∧ w20.cell? ⟨bp, 1, none⟩ = some (.slice Bp Mp Lp) ∧ w20.cell? ⟨bp, 2, none⟩ = some (.int .i64 p.A)) := ⟨cx0, cx1, cx2, ct0, ct1, ct2, cr0, cr1, cr2, cp0, cp1, cp2⟩) | (clear mk22; go_at_call 14; refine (specRingOk_any r _ _ _ (oR.rd HSr.out)).mono ?_; rintro er w21 ⟨he, hB21⟩; have hz21 : w20.heap.size ≤ w21.heap.size := hB21.size; replace oR := oR.grow hB21; replace ox := ox.grow hB21; replace oq := oq.grow hB21; replace ol := ol.grow hB21; replace op := op.grow hB21; replace ot := ot.grow hB21; replace cr := vblk_grow cr hB21; replace cx := vblk_grow cx hB21; replace cq := vblk_grow cq hB21; replace cl := vblk_grow cl hB21; replace cp := vblk_grow cp hB21; replace ct := vblk_grow ct hB21; replace hB := hB.trans (hB21.mono (by omega)); replace hzw := hB.size; clear cr0 cr1 cr2; obtain ⟨cr0, cr1, cr2⟩ := cells3 cr; clear cx0 cx1 cx2; obtain ⟨cx0, cx1, cx2⟩ := cells3 cx; clear cq0 cq1 cq2; obtain ⟨cq0, cq1, cq2⟩ := cells3 cq; clear cl0 cl1 cl2; obtain ⟨cl0, cl1, cl2⟩ := cells3 cl; clear cp0 cp1 cp2; obtain ⟨cp0, cp1, cp2⟩ := cells3 cp; clear ct0 ct1 ct2; obtain ⟨ct0, ct1, ct2⟩ := cells3 ct; rw [hg.out] at he; subst he; have S4 : (w21.cell? ⟨bx, 0, none⟩ = some (.slice Ax Nx Kx) ∧ w21.cell? ⟨bx, 1, none⟩ = some (.slice Bx Mx Lx) ∧ w21.cell? ⟨bx, 2, none⟩ = some (.int .i64 J.A) ∧ w21.cell? ⟨bt, 0, none⟩ = some (.slice At Nt Kt) ∧ w21.cell? ⟨bt, 1, none⟩ = some (.slice Bt Mt Lt) ∧ w21.cell? ⟨bt, 2, none⟩ = some (.int .i64 J.A) ∧ w21.cell? ⟨br, 0, none⟩ = some (.slice Ar Nr Kr) ∧ w21.cell? ⟨br, 1, none⟩ = some (.slice Br Mr Lr) ∧ w21.cell? ⟨br, 2, none⟩ = some (.int .i64 r.A) ∧ w21.cell? ⟨bp, 0, none⟩ = some (.slice Ap Np Kp) ∧ w21.cell? ⟨bp, 1, none⟩ = some (.slice Bp Mp Lp) ∧ w21.cell? ⟨bp, 2, none⟩ = some (.int .i64 p.A)) := ⟨cx0, cx1, cx2, ct0, ct1, ct2, cr0, cr1, cr2, cp0, cp1, cp2⟩) | (clear mk23; go_at_call 12; refine (implNameOk_any nm hnm _).mono ?_; rintro er wq ⟨he, hq⟩; subst wq; rw [hn.out] at he; subst he) | (clear mk24; go_at_call 11; refine (specNameOk_any nm hnm _).mono ?_; rintro er wq ⟨he, hq⟩; subst wq; rw [hn.out] at he; subst he) | (clear mk25; go_at_call 23; refine (implUses_all p mm _ _ _ (op.rd HSp.out)).mono ?_; rintro er w22 ⟨ve, ue, he, oe, hB22⟩; have hz22 : w21.heap.size ≤ w22.heap.size := hB22.size; replace oR := oR.grow hB22; replace ox := ox.grow hB22; replace oq := oq.grow hB22; replace ol := ol.grow hB22; replace op := op.grow hB22; replace ot := ot.grow hB22; replace cr := vblk_grow cr hB22; replace cx := vblk_grow cx hB22; replace cq := vblk_grow cq hB22; replace cl := vblk_grow cl hB22; replace cp := vblk_grow cp hB22; replace ct := vblk_grow ct hB22; replace hB := hB.trans (hB22.mono (by omega)); replace hzw := hB.size; clear cr0 cr1 cr2; obtain ⟨cr0, cr1, cr2⟩ := cells3 cr; clear cx0 cx1 cx2; obtain ⟨cx0, cx1, cx2⟩ := cells3 cx; clear cq0 cq1 cq2; obtain ⟨cq0, cq1, cq2⟩ := cells3 cq; clear cl0 cl1 cl2; obtain ⟨cl0, cl1, cl2⟩ := cells3 cl; clear cp0 cp1 cp2; obtain ⟨cp0, cp1, cp2⟩ := cells3 cp; clear ct0 ct1 ct2; obtain ⟨ct0, ct1, ct2⟩ := cells3 ct; rw [hP.out] at he; subst he; rw [hP.out] at oe; obtain ⟨Ae, Ne, Ke, rfl⟩ := oe.n.slice; obtain ⟨Be, Me, Le, rfl⟩ := oe.u.slice; have S5 : (w22.cell? ⟨bx, 0, none⟩ = some (.slice Ax Nx Kx) ∧ w22.cell? ⟨bx, 1, none⟩ = some (.slice Bx Mx Lx) ∧ w22.cell? ⟨bx, 2, none⟩ = some (.int .i64 J.A) ∧ w22.cell? ⟨bt, 0, none⟩ = some (.slice At Nt Kt) ∧ w22.cell? ⟨bt, 1, none⟩ = some (.slice Bt Mt Lt) ∧ w22.cell? ⟨bt, 2, none⟩ = some (.int .i64 J.A) ∧ w22.cell? ⟨br, 0, none⟩ = some (.slice Ar Nr Kr) ∧ w22.cell? ⟨br, 1, none⟩ = some (.slice Br Mr Lr) ∧ w22.cell? ⟨br, 2, none⟩ = some (.int .i64 r.A) ∧ w22.cell? ⟨bp, 0, none⟩ = some (.slice Ap Np Kp) ∧ w22.cell? ⟨bp, 1, none⟩ = some (.slice Bp Mp Lp) ∧ w22.cell? ⟨bp, 2, none⟩ = some (.int .i64 p.A)) := ⟨cx0, cx1, cx2, ct0, ct1, ct2, cr0, cr1, cr2, cp0, cp1, cp2⟩) | (clear mk26; go_at_call 22; refine (specUses_all p mm _ _ _ (op.rd HSp.out)).mono ?_; rintro er w23 ⟨vf, uf, he, of, hB23⟩; have hz23 : w22.heap.size ≤ w23.heap.size := hB23.size; replace oR := oR.grow hB23; replace ox := ox.grow hB23; replace oq := oq.grow hB23; replace ol := ol.grow hB23; replace op := op.grow hB23; replace ot := ot.grow hB23; replace oe := oe.grow hB23; replace cr := vblk_grow cr hB23; replace cx := vblk_grow cx hB23; replace cq := vblk_grow cq hB23; replace cl := vblk_grow cl hB23; replace cp := vblk_grow cp hB23; replace ct := vblk_grow ct hB23; replace hB := hB.trans (hB23.mono (by omega)); replace hzw := hB.size; clear cr0 cr1 cr2; obtain ⟨cr0, cr1, cr2⟩ := cells3 cr; clear cx0 cx1 cx2; obtain ⟨cx0, cx1, cx2⟩ := cells3 cx; clear cq0 cq1 cq2; obtain ⟨cq0, cq1, cq2⟩ := cells3 cq; clear cl0 cl1 cl2; obtain ⟨cl0, cl1, cl2⟩ := cells3 cl; clear cp0 cp1 cp2; obtain ⟨cp0, cp1, cp2⟩ := cells3 cp; clear ct0 ct1 ct2; obtain ⟨ct0, ct1, ct2⟩ := cells3 ct; rw [hP.out] at he; subst he; rw [hP.out] at of; obtain ⟨Af, Nf, Kf, rfl⟩ := of.n.slice; obtain ⟨Bf, Mf, Lf, rfl⟩ := of.u.slice; have S6 : (w23.cell? ⟨bx, 0, none⟩ = some (.slice Ax Nx Kx) ∧ w23.cell? ⟨bx, 1, none⟩ = some (.slice Bx Mx Lx) ∧ w23.cell? ⟨bx, 2, none⟩ = some (.int .i64 J.A) ∧ w23.cell? ⟨bt, 0, none⟩ = some (.slice At Nt Kt) ∧ w23.cell? ⟨bt, 1, none⟩ = some (.slice Bt Mt Lt) ∧ w23.cell? ⟨bt, 2, none⟩ = some (.int .i64 J.A) ∧ w23.cell? ⟨br, 0, none⟩ = some (.slice Ar Nr Kr) ∧ w23.cell? ⟨br, 1, none⟩ = some (.slice Br Mr Lr) ∧ w23.cell? ⟨br, 2, none⟩ = some (.int .i64 r.A) ∧ w23.cell? ⟨bp, 0, none⟩ = some (.slice Ap Np Kp) ∧ w23.cell? ⟨bp, 1, none⟩ = some (.slice Bp Mp Lp) ∧ w23.cell? ⟨bp, 2, none⟩ = some (.int .i64 p.A)) := ⟨cx0, cx1, cx2, ct0, ct1, ct2, cr0, cr1, cr2, cp0, cp1, cp2⟩) | (clear mk27; go_at_call 32; refine (likeRing_any P _ _ _ _ _ oe.n.rd oe.u.rd of.n.rd of.u.rd).mono ?_; rintro er w24 ⟨rfl, hB24⟩; have hz24 : w23.heap.size ≤ w24.heap.size := hB24.size; replace oR := oR.grow hB24; replace ox := ox.grow hB24; replace oq := oq.grow hB24; replace ol := ol.grow hB24; replace op := op.grow hB24; replace ot := ot.grow hB24; replace oe := oe.grow hB24; replace of := of.grow hB24; replace cr := vblk_grow cr hB24; replace cx := vblk_grow cx hB24; replace cq := vblk_grow cq hB24; replace cl := vblk_grow cl hB24; replace cp := vblk_grow cp hB24; replace ct := vblk_grow ct hB24; replace hB := hB.trans (hB24.mono (by omega)); replace hzw := hB.size; clear cr0 cr1 cr2; obtain ⟨cr0, cr1, cr2⟩ := cells3 cr; clear cx0 cx1 cx2; obtain ⟨cx0, cx1, cx2⟩ := cells3 cx; clear cq0 cq1 cq2; obtain ⟨cq0, cq1, cq2⟩ := cells3 cq; clear cl0 cl1 cl2; obtain ⟨cl0, cl1, cl2⟩ := cells3 cl; clear cp0 cp1 cp2; obtain ⟨cp0, cp1, cp2⟩ := cells3 cp; clear ct0 ct1 ct2; obtain ⟨ct0, ct1, ct2⟩ := cells3 ct; have S7 : (w24.cell? ⟨bx, 0, none⟩ = some (.slice Ax Nx Kx) ∧ w24.cell? ⟨bx, 1, none⟩ = some (.slice Bx Mx Lx) ∧ w24.cell? ⟨bx, 2, none⟩ = some (.int .i64 J.A) ∧ w24.cell? ⟨bt, 0, none⟩ = some (.slice At Nt Kt) ∧ w24.cell? ⟨bt, 1, none⟩ = some (.slice Bt Mt Lt) ∧ w24.cell? ⟨bt, 2, none⟩ = some (.int .i64 J.A) ∧ w24.cell? ⟨br, 0, none⟩ = some (.slice Ar Nr Kr) ∧ w24.cell? ⟨br, 1, none⟩ = some (.slice Br Mr Lr) ∧ w24.cell? ⟨br, 2, none⟩ = some (.int .i64 r.A) ∧ w24.cell? ⟨bp, 0, none⟩ = some (.slice Ap Np Kp) ∧ w24.cell? ⟨bp, 1, none⟩ = some (.slice Bp Mp Lp) ∧ w24.cell? ⟨bp, 2, none⟩ = some (.int .i64 p.A)) := ⟨cx0, cx1, cx2, ct0, ct1, ct2, cr0, cr1, cr2, cp0, cp1, cp2⟩) | (fail))
  clear S1 hBd
  clear oe of
  clear ct0 ct1 ct2 ot ct
  clear cp0 cp1 cp2 op cp
  have mk28 : Hid True := trivial
  have mk29 : Hid True := trivial
  have mk30 : Hid True := trivial
  have mk31 : Hid True := trivial
  go_upto_if 100 with (first | (clear mk28; go_at_call 24; refine (specLeaves_all q wh _ _ _ (oq.rd HSq.out)).mono ?_; rintro er w25 ⟨vk, uk, he, ok, hB25⟩; have hz25 : w24.heap.size ≤ w25.heap.size := hB25.size; replace oR := oR.grow hB25; replace ox := ox.grow hB25; replace oq := oq.grow hB25; replace ol := ol.grow hB25; replace cr := vblk_grow cr hB25; replace cx := vblk_grow cx hB25; replace cq := vblk_grow cq hB25; replace cl := vblk_grow cl hB25; replace hB := hB.trans (hB25.mono (by omega)); replace hzw := hB.size; clear cr0 cr1 cr2; obtain ⟨cr0, cr1, cr2⟩ := cells3 cr; clear cx0 cx1 cx2; obtain ⟨cx0, cx1, cx2⟩ := cells3 cx; clear cq0 cq1 cq2; obtain ⟨cq0, cq1, cq2⟩ := cells3 cq; clear cl0 cl1 cl2; obtain ⟨cl0, cl1, cl2⟩ := cells3 cl; rw [hQ.out, hy.out] at he; subst he; rw [hQ.out] at ok; obtain ⟨Ak, Nk, Kk, rfl⟩ := ok.n.slice; obtain ⟨Bk, Mk, Lk, rfl⟩ := ok.u.slice) | (clear mk29; refine wpList_alloc_v rfl 29 rfl _ zeroRg ?_; intro bk w26 hbk hwbk hB26 ck; have hz26 : w25.heap.size ≤ w26.heap.size := hB26.size; replace oR := oR.grow hB26; replace ox := ox.grow hB26; replace oq := oq.grow hB26; replace ol := ol.grow hB26; replace ok := ok.grow hB26; replace cr := vblk_grow cr hB26; replace cx := vblk_grow cx hB26; replace cq := vblk_grow cq hB26; replace cl := vblk_grow cl hB26; replace hB := hB.trans (hB26.mono (by omega)); replace hzw := hB.size; clear cr0 cr1 cr2; obtain ⟨cr0, cr1, cr2⟩ := cells3 cr; clear cx0 cx1 cx2; obtain ⟨cx0, cx1, cx2⟩ := cells3 cx; clear cq0 cq1 cq2; obtain ⟨cq0, cq1, cq2⟩ := cells3 cq; clear cl0 cl1 cl2; obtain ⟨cl0, cl1, cl2⟩ := cells3 cl) | (clear mk30; refine wpList_store_v rfl 29 _ _ rfl bk [.slice Ak Nk Kk, .slice Bk Mk Lk, .int .i64 Q.A] rfl rfl sizeRg ck rfl (by simp [Value.oneCell']) ?_; intro w27 hO27 ckx; have hz27 : w26.heap.size ≤ w27.heap.size := (Nat.le_of_eq hO27.1.symm); have hy27 : w27.heap.size ≤ w26.heap.size := (Nat.le_of_eq hO27.1); replace oR := oR.only hO27 ck (by decide) (by decide); replace ox := ox.only hO27 ck (by decide) (by decide); replace oq := oq.only hO27 ck (by decide) (by decide); replace ol := ol.only hO27 ck (by decide) (by decide); replace ok := ok.only hO27 ck (by decide) (by decide); replace cr := vblk_only cr hO27 (by omega); replace cx := vblk_only cx hO27 (by omega); replace cq := vblk_only cq hO27 (by omega); replace cl := vblk_only cl hO27 (by omega); replace hB := hB.trans (hO27.2.2 _ (by omega)); replace hzw := hB.size; clear cr0 cr1 cr2; obtain ⟨cr0, cr1, cr2⟩ := cells3 cr; clear cx0 cx1 cx2; obtain ⟨cx0, cx1, cx2⟩ := cells3 cx; clear cq0 cq1 cq2; obtain ⟨cq0, cq1, cq2⟩ := cells3 cq; clear cl0 cl1 cl2; obtain ⟨cl0, cl1, cl2⟩ := cells3 cl; clear ck; have ck := ckx; clear ckx; obtain ⟨ck0, ck1, ck2⟩ := cells3 ck) | (clear mk31; go_at_call 32; refine (likeRing_any Q _ _ _ _ _ ol.n.rd ol.u.rd ok.n.rd ok.u.rd).mono ?_; rintro er w28 ⟨rfl, hB28⟩; have hz28 : w27.heap.size ≤ w28.heap.size := hB28.size; replace oR := oR.grow hB28; replace ox := ox.grow hB28; replace oq := oq.grow hB28; replace ol := ol.grow hB28; replace ok := ok.grow hB28; replace cr := vblk_grow cr hB28; replace cx := vblk_grow cx hB28; replace cq := vblk_grow cq hB28; replace cl := vblk_grow cl hB28; replace ck := vblk_grow ck hB28; replace hB := hB.trans (hB28.mono (by omega)); replace hzw := hB.size; clear cr0 cr1 cr2; obtain ⟨cr0, cr1, cr2⟩ := cells3 cr; clear cx0 cx1 cx2; obtain ⟨cx0, cx1, cx2⟩ := cells3 cx; clear cq0 cq1 cq2; obtain ⟨cq0, cq1, cq2⟩ := cells3 cq; clear cl0 cl1 cl2; obtain ⟨cl0, cl1, cl2⟩ := cells3 cl; clear ck0 ck1 ck2; obtain ⟨ck0, ck1, ck2⟩ := cells3 ck) | (fail))
  clear ck0 ck1 ck2 ok ck
  have hlq : Hid (Nq = q.N.length) := oq.n.rd.cap.1
  have hll : Hid (Nl = Q.N.length) := ol.n.rd.cap.1
  have hlr : Hid (Nr = r.N.length) := oR.n.rd.cap.1
  go_cut [] from 100 to 152 (fun wc => Below w28.heap.size w28 wc)
  case first =>
    cases y with
    | true =>
      obtain ⟨rok, i, hi, ei, e1⟩ := lv_yes hy.out
      rw [hQ.out] at e1
      have hok : ringB Q = true := by rw [e1]; exact ringB_iff.2 (left_ok rok hi)
      have hno : Hid (wh ∉ Q.N) := by unfold Hid; rw [← ei, e1]; exact left_gone rok hi
      have hQl : Q.N.length + 1 = q.N.length := by rw [e1]; simp [left]; omega
      have hlQ := oq.n.rd.len
      have hwr : IntKind.i64.wrap ((Nq : Int) - 1) = (Nl : Int) := by rw [IntKind.wrap_i64]; have h1 := hll.out; have h2 := hlq.out; omega
      have hNN : ((Nl : Int) != (Nl : Int)) = false := by simp
      obtain ⟨kq, hkq⟩ : ∃ kq : Nat, q.A = kq := ⟨q.A.toNat, by have := rok.a0; omega⟩
      have hkl : kq < q.N.length := by have := rok.a1; omega
      have hSQ : Hid (∀ s ∈ Q.N, s.size ≤ 9223372036854775807) := by unfold Hid; rw [e1]; exact fun s hs => HSq.out s ((cut_sub q.N i).mem hs)
      obtain ⟨gq, rfl, -, dq, -⟩ := ownS_cell oq.n kq hkl
      have hk1 : (kq : Int) < (Nq : Int) := by have := hlq.out; omega
      have hk2 : ¬ (kq : Int) < 0 := by omega
      obtain ⟨sk, hsk⟩ := hid_ex (q.N[kq])
      rw [hsk.out] at dq
      rw [hkq] at cq cq2
      have hss : (sk.toList == sk.toList) = true := by simp
      have hC : Below w28.heap.size w28 w28 := Below.refl _ _
      by_cases hki : kq = i
      · have e3 : sk = wh := by rw [← hsk.out, ← ei]; simp only [hki]
        rw [e3] at dq
        have hse : (wh.toList == wh.toList) = true := by simp
        clear hki ei hkq e1 hQl hsk hkl hlQ e3
        go_upto_region 15 with (fail)
        have hBd : Below w28.heap.size w28 w28.drew := (Below.refl _ _).drew
        have hzd : w28.drew.heap.size ≤ w28.heap.size := Nat.le_refl _
        have hzd2 : w28.heap.size ≤ w28.drew.heap.size := Nat.le_refl _
        replace oR := oR.grow hBd
        replace ox := ox.grow hBd
        replace oq := oq.grow hBd
        replace ol := ol.grow hBd
        replace cr := vblk_grow cr hBd
        clear cr0 cr1 cr2
        obtain ⟨cr0, cr1, cr2⟩ := cells3 cr
        replace cx := vblk_grow cx hBd
        clear cx0 cx1 cx2
        obtain ⟨cx0, cx1, cx2⟩ := cells3 cx
        replace cq := vblk_grow cq hBd
        clear cq0 cq1 cq2
        obtain ⟨cq0, cq1, cq2⟩ := cells3 cq
        replace cl := vblk_grow cl hBd
        clear cl0 cl1 cl2
        obtain ⟨cl0, cl1, cl2⟩ := cells3 cl
        replace hB := hB.trans (hBd.mono (by omega))
        replace hzw := hB.size
        replace hC := hC.trans (hBd.mono (by omega))
        replace dq := (hBd.cell (World.block_lt_of_cell? _ _ dq)).trans dq
        have S1 : (w28.drew.cell? ⟨bl, 0, none⟩ = some (.slice Al Nl Kl) ∧ w28.drew.cell? ⟨bl, 1, none⟩ = some (.slice Bl Ml Ll) ∧ w28.drew.cell? ⟨bl, 2, none⟩ = some (.int .i64 Q.A) ∧ w28.drew.cell? ⟨bq, 0, none⟩ = some (.slice (some ⟨gq, 0, none⟩) Nq Kq) ∧ w28.drew.cell? ⟨bq, 1, none⟩ = some (.slice Bq Mq Lq) ∧ w28.drew.cell? ⟨bq, 2, none⟩ = some (.int .i64 kq) ∧ w28.drew.cell? ⟨gq, kq, none⟩ = some (.string wh)) := ⟨cl0, cl1, cl2, cq0, cq1, cq2, dq⟩
        refine wp_region_held_drew (S := fun w' => (w'.cell? ⟨bl, 0, none⟩ = some (.slice Al Nl Kl) ∧ w'.cell? ⟨bl, 1, none⟩ = some (.slice Bl Ml Ll) ∧ w'.cell? ⟨bl, 2, none⟩ = some (.int .i64 Q.A) ∧ w'.cell? ⟨bq, 0, none⟩ = some (.slice (some ⟨gq, 0, none⟩) Nq Kq) ∧ w'.cell? ⟨bq, 1, none⟩ = some (.slice Bq Mq Lq) ∧ w'.cell? ⟨bq, 2, none⟩ = some (.int .i64 kq) ∧ w'.cell? ⟨gq, kq, none⟩ = some (.string wh))) (by kernel_rfl) S1 (fun hHeld => ?_)
        refine wpAnyH_take (i := 0) (oi := { dst := some 101, op := Op.load 29 (Operand.tmp 9), type := 29, pos := "laws.go:675", after := #[], guard := none }) (v := ?_) rfl (by kernel_rfl) (by kernel_rfl) (by kernel_rfl) (fun _ _ _ h => h) (Or.inl ⟨by rfl, ?_⟩) (by assumption) ?_
        rotate_left 1
        · intro w' hSw
          (try dsimp only at hSw)
          go_simp
          (try with_reducible rfl)
        (try simp only [Act.put, List.setIfInBounds_toArray, List.set_cons_zero, List.set_cons_succ])
        refine wpAnyH_ready (rs := [1]) (by kernel_rfl) (by simp) ?_
        refine AllReadyH.cons (o := { dst := some 102, op := Op.call { callee := Callee.value (Operand.func 16), args := #[Operand.tmp 101], argTypes := #[29] }, type := 4, pos := "laws.go:675", after := #[{ on := 0, ground := Ground.data }], guard := none }) rfl (fun K hK => ?_) AllReadyH.nil
        go_simp
        have mk32 : Hid True := trivial
        (clear mk32; go_at_call 16; refine (implRingOk_any Q _ _ _ (⟨ol.n.rd, ol.u.rd, hSQ.out⟩)).mono ?_; rintro er w29 ⟨he, hB29⟩; have hz29 : w28.drew.heap.size ≤ w29.heap.size := hB29.size; replace oR := oR.grow hB29; replace ox := ox.grow hB29; replace oq := oq.grow hB29; replace ol := ol.grow hB29; replace cr := vblk_grow cr hB29; replace cx := vblk_grow cx hB29; replace cq := vblk_grow cq hB29; replace cl := vblk_grow cl hB29; replace hB := hB.trans (hB29.mono (by omega)); replace hzw := hB.size; clear cr0 cr1 cr2; obtain ⟨cr0, cr1, cr2⟩ := cells3 cr; clear cx0 cx1 cx2; obtain ⟨cx0, cx1, cx2⟩ := cells3 cx; clear cq0 cq1 cq2; obtain ⟨cq0, cq1, cq2⟩ := cells3 cq; clear cl0 cl1 cl2; obtain ⟨cl0, cl1, cl2⟩ := cells3 cl; replace dq := (hB29.cell (World.block_lt_of_cell? _ _ dq)).trans dq; replace hC := hC.trans (hB29.mono (by omega)); rw [hok] at he; subst he)
        refine hK.out _ _ ⟨cl0, cl1, cl2, cq0, cq1, cq2, dq⟩ (fun hHeld2 => ?_)
        clear hK K
        (try simp only [Act.put, List.setIfInBounds_toArray, List.set_cons_zero, List.set_cons_succ])
        clear hHeld
        have hHeld := hHeld2
        clear hHeld2
        refine wpAnyH_take (i := 2) (oi := { dst := some 103, op := Op.unOp UnOp.not 4 (Operand.tmp 102), type := 4, pos := "laws.go:675", after := #[{ on := 1, ground := Ground.data }], guard := none }) (v := ?_) rfl (by kernel_rfl) (by kernel_rfl) (by kernel_rfl) (fun _ _ _ h => h) (Or.inl ⟨by rfl, ?_⟩) (by assumption) ?_
        rotate_left 1
        · intro w' hSw
          (try dsimp only at hSw)
          go_simp
          (try with_reducible rfl)
        (try simp only [Act.put, List.setIfInBounds_toArray, List.set_cons_zero, List.set_cons_succ])
        refine wpAnyH_take (i := 3) (oi := { dst := some 104, op := Op.move (Operand.tmp 103), type := 4, pos := "laws.go:675", after := #[{ on := 2, ground := Ground.data }, { on := 1, ground := Ground.chain }], guard := none }) (v := ?_) rfl (by kernel_rfl) (by kernel_rfl) (by kernel_rfl) (fun _ _ _ h => h) (Or.inl ⟨by rfl, ?_⟩) (by assumption) ?_
        rotate_left 1
        · intro w' hSw
          (try dsimp only at hSw)
          go_simp
          (try with_reducible rfl)
        (try simp only [Act.put, List.setIfInBounds_toArray, List.set_cons_zero, List.set_cons_succ])
        refine wpAnyH_take (i := 4) (oi := { dst := some 105, op := Op.fieldAddr 29 (Operand.tmp 9) 0, type := 0, pos := "laws.go:675", after := #[{ on := 3, ground := Ground.guard }], guard := some (3, false) }) (v := ?_) rfl (by kernel_rfl) (by kernel_rfl) (by kernel_rfl) (fun _ _ _ h => h) (Or.inl ⟨by rfl, ?_⟩) (by assumption) ?_
        rotate_left 1
        · intro w' hSw
          (try dsimp only at hSw)
          go_simp
          (try with_reducible rfl)
        (try simp only [Act.put, List.setIfInBounds_toArray, List.set_cons_zero, List.set_cons_succ])
        refine wpAnyH_take (i := 5) (oi := { dst := some 106, op := Op.load 23 (Operand.tmp 105), type := 23, pos := "laws.go:675", after := #[{ on := 4, ground := Ground.data }, { on := 3, ground := Ground.guard }], guard := some (3, false) }) (v := ?_) rfl (by kernel_rfl) (by kernel_rfl) (by kernel_rfl) (fun _ _ _ h => h) (Or.inl ⟨by rfl, ?_⟩) (by assumption) ?_
        rotate_left 1
        · intro w' hSw
          (try dsimp only at hSw)
          go_simp
          (try with_reducible rfl)
        (try simp only [Act.put, List.setIfInBounds_toArray, List.set_cons_zero, List.set_cons_succ])
        refine wpAnyH_take (i := 6) (oi := { dst := some 107, op := Op.move (Operand.tmp 8), type := 9, pos := "laws.go:675", after := #[{ on := 3, ground := Ground.guard }], guard := some (3, false) }) (v := ?_) rfl (by kernel_rfl) (by kernel_rfl) (by kernel_rfl) (fun _ _ _ h => h) (Or.inl ⟨by rfl, ?_⟩) (by assumption) ?_
        rotate_left 1
        · intro w' hSw
          (try dsimp only at hSw)
          go_simp
          (try with_reducible rfl)
        (try simp only [Act.put, List.setIfInBounds_toArray, List.set_cons_zero, List.set_cons_succ])
        refine wpAnyH_ready (rs := [7]) (by kernel_rfl) (by simp) ?_
        refine AllReadyH.cons (o := { dst := some 108, op := Op.call { callee := Callee.value (Operand.func 33), args := #[Operand.tmp 106, Operand.tmp 107], argTypes := #[23, 9] }, type := 4, pos := "laws.go:675", after := #[{ on := 5, ground := Ground.data }, { on := 6, ground := Ground.data }, { on := 3, ground := Ground.chain }, { on := 3, ground := Ground.guard }], guard := some (3, false) }) rfl (fun K hK => ?_) AllReadyH.nil
        go_simp
        have mk33 : Hid True := trivial
        (clear mk33; go_at_call 33; refine (hasText_no Q.N wh _ _ ol.n.rd hno.out).mono ?_; rintro er wq ⟨rfl, hq⟩; subst wq)
        refine hK.out _ _ ⟨cl0, cl1, cl2, cq0, cq1, cq2, dq⟩ (fun hHeld2 => ?_)
        clear hK K
        (try simp only [Act.put, List.setIfInBounds_toArray, List.set_cons_zero, List.set_cons_succ])
        refine wpAnyH_take (i := 8) (oi := { dst := some 109, op := Op.pick (Operand.tmp 104) (Operand.const (Value.bool true)) (Operand.tmp 108), type := 4, pos := "laws.go:675", after := #[{ on := 3, ground := Ground.data }, { on := 7, ground := Ground.data }], guard := none }) (v := ?_) rfl (by kernel_rfl) (by kernel_rfl) (by kernel_rfl) (fun _ _ _ h => h) (Or.inl ⟨by rfl, ?_⟩) (by assumption) ?_
        rotate_left 1
        · intro w' hSw
          (try dsimp only at hSw)
          go_simp
          (try with_reducible rfl)
        (try simp only [Act.put, List.setIfInBounds_toArray, List.set_cons_zero, List.set_cons_succ])
        refine wpAnyH_take (i := 9) (oi := { dst := some 110, op := Op.move (Operand.tmp 109), type := 4, pos := "laws.go:675", after := #[{ on := 8, ground := Ground.data }, { on := 7, ground := Ground.chain }], guard := none }) (v := ?_) rfl (by kernel_rfl) (by kernel_rfl) (by kernel_rfl) (fun _ _ _ h => h) (Or.inl ⟨by rfl, ?_⟩) (by assumption) ?_
        rotate_left 1
        · intro w' hSw
          (try dsimp only at hSw)
          go_simp
          (try with_reducible rfl)
        (try simp only [Act.put, List.setIfInBounds_toArray, List.set_cons_zero, List.set_cons_succ])
        refine wpAnyH_take (i := 10) (oi := { dst := some 111, op := Op.fieldAddr 29 (Operand.tmp 9) 0, type := 0, pos := "laws.go:675", after := #[{ on := 9, ground := Ground.guard }], guard := some (9, false) }) (v := ?_) rfl (by kernel_rfl) (by kernel_rfl) (by kernel_rfl) (fun _ _ _ h => h) (Or.inl ⟨by rfl, ?_⟩) (by assumption) ?_
        rotate_left 1
        · intro w' hSw
          (try dsimp only at hSw)
          go_simp
          (try with_reducible rfl)
        (try simp only [Act.put, List.setIfInBounds_toArray, List.set_cons_zero, List.set_cons_succ])
        refine wpAnyH_take (i := 11) (oi := { dst := some 112, op := Op.load 23 (Operand.tmp 111), type := 23, pos := "laws.go:675", after := #[{ on := 10, ground := Ground.data }, { on := 9, ground := Ground.guard }], guard := some (9, false) }) (v := ?_) rfl (by kernel_rfl) (by kernel_rfl) (by kernel_rfl) (fun _ _ _ h => h) (Or.inl ⟨by rfl, ?_⟩) (by assumption) ?_
        rotate_left 1
        · intro w' hSw
          (try dsimp only at hSw)
          go_simp
          (try with_reducible rfl)
        (try simp only [Act.put, List.setIfInBounds_toArray, List.set_cons_zero, List.set_cons_succ])
        refine wpAnyH_take (i := 12) (oi := { dst := some 113, op := Op.call { callee := Callee.builtin Builtin.len, args := #[Operand.tmp 112], argTypes := #[23] }, type := 3, pos := "laws.go:675", after := #[{ on := 11, ground := Ground.data }, { on := 9, ground := Ground.guard }], guard := some (9, false) }) (v := ?_) rfl (by kernel_rfl) (by kernel_rfl) (by kernel_rfl) (fun _ _ _ h => h) (Or.inl ⟨by rfl, ?_⟩) (by assumption) ?_
        rotate_left 1
        · intro w' hSw
          (try dsimp only at hSw)
          go_simp
          (try with_reducible rfl)
        (try simp only [Act.put, List.setIfInBounds_toArray, List.set_cons_zero, List.set_cons_succ])
        refine wpAnyH_take (i := 13) (oi := { dst := some 114, op := Op.fieldAddr 29 (Operand.tmp 7) 0, type := 0, pos := "laws.go:675", after := #[{ on := 9, ground := Ground.guard }], guard := some (9, false) }) (v := ?_) rfl (by kernel_rfl) (by kernel_rfl) (by kernel_rfl) (fun _ _ _ h => h) (Or.inl ⟨by rfl, ?_⟩) (by assumption) ?_
        rotate_left 1
        · intro w' hSw
          (try dsimp only at hSw)
          go_simp
          (try with_reducible rfl)
        (try simp only [Act.put, List.setIfInBounds_toArray, List.set_cons_zero, List.set_cons_succ])
        refine wpAnyH_take (i := 14) (oi := { dst := some 115, op := Op.load 23 (Operand.tmp 114), type := 23, pos := "laws.go:675", after := #[{ on := 13, ground := Ground.data }, { on := 9, ground := Ground.guard }], guard := some (9, false) }) (v := ?_) rfl (by kernel_rfl) (by kernel_rfl) (by kernel_rfl) (fun _ _ _ h => h) (Or.inl ⟨by rfl, ?_⟩) (by assumption) ?_
        rotate_left 1
        · intro w' hSw
          (try dsimp only at hSw)
          go_simp
          (try with_reducible rfl)
        (try simp only [Act.put, List.setIfInBounds_toArray, List.set_cons_zero, List.set_cons_succ])
        refine wpAnyH_take (i := 15) (oi := { dst := some 116, op := Op.call { callee := Callee.builtin Builtin.len, args := #[Operand.tmp 115], argTypes := #[23] }, type := 3, pos := "laws.go:675", after := #[{ on := 14, ground := Ground.data }, { on := 9, ground := Ground.guard }], guard := some (9, false) }) (v := ?_) rfl (by kernel_rfl) (by kernel_rfl) (by kernel_rfl) (fun _ _ _ h => h) (Or.inl ⟨by rfl, ?_⟩) (by assumption) ?_
        rotate_left 1
        · intro w' hSw
          (try dsimp only at hSw)
          go_simp
          (try with_reducible rfl)
        (try simp only [Act.put, List.setIfInBounds_toArray, List.set_cons_zero, List.set_cons_succ])
        refine wpAnyH_take (i := 16) (oi := { dst := some 117, op := Op.binOp BinOp.sub 3 (Operand.tmp 116) (Operand.const (Value.int IntKind.i64 1)) 3, type := 3, pos := "laws.go:675", after := #[{ on := 15, ground := Ground.data }, { on := 9, ground := Ground.guard }], guard := some (9, false) }) (v := ?_) rfl (by kernel_rfl) (by kernel_rfl) (by kernel_rfl) (fun _ _ _ h => h) (Or.inl ⟨by rfl, ?_⟩) (by assumption) ?_
        rotate_left 1
        · intro w' hSw
          (try dsimp only at hSw)
          go_simp
          (try with_reducible rfl)
        (try simp only [Act.put, List.setIfInBounds_toArray, List.set_cons_zero, List.set_cons_succ])
        refine wpAnyH_take (i := 17) (oi := { dst := some 118, op := Op.binOp BinOp.neq 3 (Operand.tmp 113) (Operand.tmp 117) 3, type := 4, pos := "laws.go:675", after := #[{ on := 12, ground := Ground.data }, { on := 16, ground := Ground.data }, { on := 9, ground := Ground.guard }], guard := some (9, false) }) (v := ?_) rfl (by kernel_rfl) (by kernel_rfl) (by kernel_rfl) (fun _ _ _ h => h) (Or.inl ⟨by rfl, ?_⟩) (by assumption) ?_
        rotate_left 1
        · intro w' hSw
          (try dsimp only at hSw)
          go_simp
          (try with_reducible rfl)
        (try simp only [Act.put, List.setIfInBounds_toArray, List.set_cons_zero, List.set_cons_succ])
        refine wpAnyH_take (i := 18) (oi := { dst := some 119, op := Op.pick (Operand.tmp 110) (Operand.const (Value.bool true)) (Operand.tmp 118), type := 4, pos := "laws.go:675", after := #[{ on := 9, ground := Ground.data }, { on := 17, ground := Ground.data }], guard := none }) (v := ?_) rfl (by kernel_rfl) (by kernel_rfl) (by kernel_rfl) (fun _ _ _ h => h) (Or.inl ⟨by rfl, ?_⟩) (by assumption) ?_
        rotate_left 1
        · intro w' hSw
          (try dsimp only at hSw)
          go_simp
          (try with_reducible rfl)
        (try simp only [Act.put, List.setIfInBounds_toArray, List.set_cons_zero, List.set_cons_succ])
        refine wpAnyH_take (i := 19) (oi := { dst := some 120, op := Op.move (Operand.tmp 119), type := 4, pos := "laws.go:675", after := #[{ on := 18, ground := Ground.data }, { on := 9, ground := Ground.chain }], guard := none }) (v := ?_) rfl (by kernel_rfl) (by kernel_rfl) (by kernel_rfl) (fun _ _ _ h => h) (Or.inl ⟨by rfl, ?_⟩) (by assumption) ?_
        rotate_left 1
        · intro w' hSw
          (try dsimp only at hSw)
          go_simp
          (try with_reducible rfl)
        (try simp only [Act.put, List.setIfInBounds_toArray, List.set_cons_zero, List.set_cons_succ])
        refine wpAnyH_take (i := 20) (oi := { dst := some 121, op := Op.fieldAddr 29 (Operand.tmp 7) 0, type := 0, pos := "laws.go:675", after := #[{ on := 19, ground := Ground.guard }], guard := some (19, false) }) (v := ?_) rfl (by kernel_rfl) (by kernel_rfl) (by kernel_rfl) (fun _ _ _ h => h) (Or.inl ⟨by rfl, ?_⟩) (by assumption) ?_
        rotate_left 1
        · intro w' hSw
          (try dsimp only at hSw)
          go_simp
          (try with_reducible rfl)
        (try simp only [Act.put, List.setIfInBounds_toArray, List.set_cons_zero, List.set_cons_succ])
        refine wpAnyH_take (i := 21) (oi := { dst := some 122, op := Op.load 23 (Operand.tmp 121), type := 23, pos := "laws.go:675", after := #[{ on := 20, ground := Ground.data }, { on := 19, ground := Ground.guard }], guard := some (19, false) }) (v := ?_) rfl (by kernel_rfl) (by kernel_rfl) (by kernel_rfl) (fun _ _ _ h => h) (Or.inl ⟨by rfl, ?_⟩) (by assumption) ?_
        rotate_left 1
        · intro w' hSw
          (try dsimp only at hSw)
          go_simp
          (try with_reducible rfl)
        (try simp only [Act.put, List.setIfInBounds_toArray, List.set_cons_zero, List.set_cons_succ])
        refine wpAnyH_take (i := 22) (oi := { dst := some 123, op := Op.fieldAddr 29 (Operand.tmp 7) 2, type := 0, pos := "laws.go:675", after := #[{ on := 19, ground := Ground.guard }], guard := some (19, false) }) (v := ?_) rfl (by kernel_rfl) (by kernel_rfl) (by kernel_rfl) (fun _ _ _ h => h) (Or.inl ⟨by rfl, ?_⟩) (by assumption) ?_
        rotate_left 1
        · intro w' hSw
          (try dsimp only at hSw)
          go_simp
          (try with_reducible rfl)
        (try simp only [Act.put, List.setIfInBounds_toArray, List.set_cons_zero, List.set_cons_succ])
        refine wpAnyH_take (i := 23) (oi := { dst := some 124, op := Op.load 2 (Operand.tmp 123), type := 2, pos := "laws.go:675", after := #[{ on := 22, ground := Ground.data }, { on := 19, ground := Ground.guard }], guard := some (19, false) }) (v := ?_) rfl (by kernel_rfl) (by kernel_rfl) (by kernel_rfl) (fun _ _ _ h => h) (Or.inl ⟨by rfl, ?_⟩) (by assumption) ?_
        rotate_left 1
        · intro w' hSw
          (try dsimp only at hSw)
          go_simp
          (try with_reducible rfl)
        (try simp only [Act.put, List.setIfInBounds_toArray, List.set_cons_zero, List.set_cons_succ])
        refine wpAnyH_take (i := 24) (oi := { dst := some 125, op := Op.indexAddr 23 (Operand.tmp 122) (Operand.tmp 124), type := 0, pos := "laws.go:675", after := #[{ on := 21, ground := Ground.data }, { on := 23, ground := Ground.data }, { on := 19, ground := Ground.guard }], guard := some (19, false) }) (v := ?_) rfl (by kernel_rfl) (by kernel_rfl) (by kernel_rfl) (fun _ _ _ h => h) (Or.inl ⟨by rfl, ?_⟩) (by assumption) ?_
        rotate_left 1
        · intro w' hSw
          (try dsimp only at hSw)
          go_simp
          (try with_reducible rfl)
        (try simp only [Act.put, List.setIfInBounds_toArray, List.set_cons_zero, List.set_cons_succ])
        refine wpAnyH_take (i := 25) (oi := { dst := some 126, op := Op.load 9 (Operand.tmp 125), type := 9, pos := "laws.go:675", after := #[{ on := 24, ground := Ground.data }, { on := 19, ground := Ground.guard }], guard := some (19, false) }) (v := ?_) rfl (by kernel_rfl) (by kernel_rfl) (by kernel_rfl) (fun _ _ _ h => h) (Or.inl ⟨by rfl, ?_⟩) (by assumption) ?_
        rotate_left 1
        · intro w' hSw
          (try dsimp only at hSw)
          go_simp
          (try with_reducible rfl)
        (try simp only [Act.put, List.setIfInBounds_toArray, List.set_cons_zero, List.set_cons_succ])
        refine wpAnyH_take (i := 26) (oi := { dst := some 127, op := Op.move (Operand.tmp 8), type := 9, pos := "laws.go:675", after := #[{ on := 19, ground := Ground.guard }], guard := some (19, false) }) (v := ?_) rfl (by kernel_rfl) (by kernel_rfl) (by kernel_rfl) (fun _ _ _ h => h) (Or.inl ⟨by rfl, ?_⟩) (by assumption) ?_
        rotate_left 1
        · intro w' hSw
          (try dsimp only at hSw)
          go_simp
          (try with_reducible rfl)
        (try simp only [Act.put, List.setIfInBounds_toArray, List.set_cons_zero, List.set_cons_succ])
        refine wpAnyH_take (i := 27) (oi := { dst := some 128, op := Op.binOp BinOp.neq 9 (Operand.tmp 126) (Operand.tmp 127) 9, type := 4, pos := "laws.go:675", after := #[{ on := 25, ground := Ground.data }, { on := 26, ground := Ground.data }, { on := 19, ground := Ground.guard }], guard := some (19, false) }) (v := ?_) rfl (by kernel_rfl) (by kernel_rfl) (by kernel_rfl) (fun _ _ _ h => h) (Or.inl ⟨by rfl, ?_⟩) (by assumption) ?_
        rotate_left 1
        · intro w' hSw
          (try dsimp only at hSw)
          go_simp
          (try with_reducible rfl)
        (try simp only [Act.put, List.setIfInBounds_toArray, List.set_cons_zero, List.set_cons_succ])
        refine wpAnyH_take (i := 28) (oi := { dst := some 129, op := Op.move (Operand.tmp 128), type := 4, pos := "laws.go:675", after := #[{ on := 27, ground := Ground.data }, { on := 19, ground := Ground.chain }, { on := 19, ground := Ground.guard }], guard := some (19, false) }) (v := ?_) rfl (by kernel_rfl) (by kernel_rfl) (by kernel_rfl) (fun _ _ _ h => h) (Or.inl ⟨by rfl, ?_⟩) (by assumption) ?_
        rotate_left 1
        · intro w' hSw
          (try dsimp only at hSw)
          go_simp
          (try with_reducible rfl)
        (try simp only [Act.put, List.setIfInBounds_toArray, List.set_cons_zero, List.set_cons_succ])
        refine wpAnyH_take (i := 29) (oi := { dst := some 130, op := Op.fieldAddr 29 (Operand.tmp 9) 0, type := 0, pos := "laws.go:675", after := #[{ on := 28, ground := Ground.guard }], guard := some (28, true) }) (v := undef) rfl (by kernel_rfl) (by kernel_rfl) (by kernel_rfl) (fun _ _ _ h => h) (Or.inr ⟨by rfl, rfl⟩) (by assumption) ?_
        (try simp only [Act.put, List.setIfInBounds_toArray, List.set_cons_zero, List.set_cons_succ])
        refine wpAnyH_take (i := 30) (oi := { dst := some 131, op := Op.load 23 (Operand.tmp 130), type := 23, pos := "laws.go:675", after := #[{ on := 29, ground := Ground.data }, { on := 28, ground := Ground.guard }], guard := some (28, true) }) (v := undef) rfl (by kernel_rfl) (by kernel_rfl) (by kernel_rfl) (fun _ _ _ h => h) (Or.inr ⟨by rfl, rfl⟩) (by assumption) ?_
        (try simp only [Act.put, List.setIfInBounds_toArray, List.set_cons_zero, List.set_cons_succ])
        refine wpAnyH_take (i := 31) (oi := { dst := some 132, op := Op.fieldAddr 29 (Operand.tmp 9) 2, type := 0, pos := "laws.go:675", after := #[{ on := 28, ground := Ground.guard }], guard := some (28, true) }) (v := undef) rfl (by kernel_rfl) (by kernel_rfl) (by kernel_rfl) (fun _ _ _ h => h) (Or.inr ⟨by rfl, rfl⟩) (by assumption) ?_
        (try simp only [Act.put, List.setIfInBounds_toArray, List.set_cons_zero, List.set_cons_succ])
        refine wpAnyH_take (i := 32) (oi := { dst := some 133, op := Op.load 2 (Operand.tmp 132), type := 2, pos := "laws.go:675", after := #[{ on := 31, ground := Ground.data }, { on := 28, ground := Ground.guard }], guard := some (28, true) }) (v := undef) rfl (by kernel_rfl) (by kernel_rfl) (by kernel_rfl) (fun _ _ _ h => h) (Or.inr ⟨by rfl, rfl⟩) (by assumption) ?_
        (try simp only [Act.put, List.setIfInBounds_toArray, List.set_cons_zero, List.set_cons_succ])
        refine wpAnyH_take (i := 33) (oi := { dst := some 134, op := Op.indexAddr 23 (Operand.tmp 131) (Operand.tmp 133), type := 0, pos := "laws.go:675", after := #[{ on := 30, ground := Ground.data }, { on := 32, ground := Ground.data }, { on := 28, ground := Ground.guard }], guard := some (28, true) }) (v := undef) rfl (by kernel_rfl) (by kernel_rfl) (by kernel_rfl) (fun _ _ _ h => h) (Or.inr ⟨by rfl, rfl⟩) (by assumption) ?_
        (try simp only [Act.put, List.setIfInBounds_toArray, List.set_cons_zero, List.set_cons_succ])
        refine wpAnyH_take (i := 34) (oi := { dst := some 135, op := Op.load 9 (Operand.tmp 134), type := 9, pos := "laws.go:675", after := #[{ on := 33, ground := Ground.data }, { on := 28, ground := Ground.guard }], guard := some (28, true) }) (v := undef) rfl (by kernel_rfl) (by kernel_rfl) (by kernel_rfl) (fun _ _ _ h => h) (Or.inr ⟨by rfl, rfl⟩) (by assumption) ?_
        (try simp only [Act.put, List.setIfInBounds_toArray, List.set_cons_zero, List.set_cons_succ])
        refine wpAnyH_take (i := 35) (oi := { dst := some 136, op := Op.fieldAddr 29 (Operand.tmp 7) 0, type := 0, pos := "laws.go:675", after := #[{ on := 28, ground := Ground.guard }], guard := some (28, true) }) (v := undef) rfl (by kernel_rfl) (by kernel_rfl) (by kernel_rfl) (fun _ _ _ h => h) (Or.inr ⟨by rfl, rfl⟩) (by assumption) ?_
        (try simp only [Act.put, List.setIfInBounds_toArray, List.set_cons_zero, List.set_cons_succ])
        refine wpAnyH_take (i := 36) (oi := { dst := some 137, op := Op.load 23 (Operand.tmp 136), type := 23, pos := "laws.go:675", after := #[{ on := 35, ground := Ground.data }, { on := 28, ground := Ground.guard }], guard := some (28, true) }) (v := undef) rfl (by kernel_rfl) (by kernel_rfl) (by kernel_rfl) (fun _ _ _ h => h) (Or.inr ⟨by rfl, rfl⟩) (by assumption) ?_
        (try simp only [Act.put, List.setIfInBounds_toArray, List.set_cons_zero, List.set_cons_succ])
        refine wpAnyH_take (i := 37) (oi := { dst := some 138, op := Op.fieldAddr 29 (Operand.tmp 7) 2, type := 0, pos := "laws.go:675", after := #[{ on := 28, ground := Ground.guard }], guard := some (28, true) }) (v := undef) rfl (by kernel_rfl) (by kernel_rfl) (by kernel_rfl) (fun _ _ _ h => h) (Or.inr ⟨by rfl, rfl⟩) (by assumption) ?_
        (try simp only [Act.put, List.setIfInBounds_toArray, List.set_cons_zero, List.set_cons_succ])
        refine wpAnyH_take (i := 38) (oi := { dst := some 139, op := Op.load 2 (Operand.tmp 138), type := 2, pos := "laws.go:675", after := #[{ on := 37, ground := Ground.data }, { on := 28, ground := Ground.guard }], guard := some (28, true) }) (v := undef) rfl (by kernel_rfl) (by kernel_rfl) (by kernel_rfl) (fun _ _ _ h => h) (Or.inr ⟨by rfl, rfl⟩) (by assumption) ?_
        (try simp only [Act.put, List.setIfInBounds_toArray, List.set_cons_zero, List.set_cons_succ])
        refine wpAnyH_take (i := 39) (oi := { dst := some 140, op := Op.indexAddr 23 (Operand.tmp 137) (Operand.tmp 139), type := 0, pos := "laws.go:675", after := #[{ on := 36, ground := Ground.data }, { on := 38, ground := Ground.data }, { on := 28, ground := Ground.guard }], guard := some (28, true) }) (v := undef) rfl (by kernel_rfl) (by kernel_rfl) (by kernel_rfl) (fun _ _ _ h => h) (Or.inr ⟨by rfl, rfl⟩) (by assumption) ?_
        (try simp only [Act.put, List.setIfInBounds_toArray, List.set_cons_zero, List.set_cons_succ])
        refine wpAnyH_take (i := 40) (oi := { dst := some 141, op := Op.load 9 (Operand.tmp 140), type := 9, pos := "laws.go:675", after := #[{ on := 39, ground := Ground.data }, { on := 28, ground := Ground.guard }], guard := some (28, true) }) (v := undef) rfl (by kernel_rfl) (by kernel_rfl) (by kernel_rfl) (fun _ _ _ h => h) (Or.inr ⟨by rfl, rfl⟩) (by assumption) ?_
        (try simp only [Act.put, List.setIfInBounds_toArray, List.set_cons_zero, List.set_cons_succ])
        refine wpAnyH_take (i := 41) (oi := { dst := some 142, op := Op.binOp BinOp.neq 9 (Operand.tmp 135) (Operand.tmp 141) 9, type := 4, pos := "laws.go:675", after := #[{ on := 34, ground := Ground.data }, { on := 40, ground := Ground.data }, { on := 28, ground := Ground.guard }], guard := some (28, true) }) (v := undef) rfl (by kernel_rfl) (by kernel_rfl) (by kernel_rfl) (fun _ _ _ h => h) (Or.inr ⟨by rfl, rfl⟩) (by assumption) ?_
        (try simp only [Act.put, List.setIfInBounds_toArray, List.set_cons_zero, List.set_cons_succ])
        refine wpAnyH_take (i := 42) (oi := { dst := some 143, op := Op.pick (Operand.tmp 129) (Operand.tmp 142) (Operand.const (Value.bool false)), type := 4, pos := "laws.go:675", after := #[{ on := 28, ground := Ground.data }, { on := 41, ground := Ground.data }, { on := 19, ground := Ground.guard }], guard := some (19, false) }) (v := ?_) rfl (by kernel_rfl) (by kernel_rfl) (by kernel_rfl) (fun _ _ _ h => h) (Or.inl ⟨by rfl, ?_⟩) (by assumption) ?_
        rotate_left 1
        · intro w' hSw
          (try dsimp only at hSw)
          go_simp
          (try with_reducible rfl)
        (try simp only [Act.put, List.setIfInBounds_toArray, List.set_cons_zero, List.set_cons_succ])
        refine wpAnyH_take (i := 43) (oi := { dst := some 144, op := Op.pick (Operand.tmp 120) (Operand.const (Value.bool true)) (Operand.tmp 143), type := 4, pos := "laws.go:675", after := #[{ on := 19, ground := Ground.data }, { on := 42, ground := Ground.data }], guard := none }) (v := ?_) rfl (by kernel_rfl) (by kernel_rfl) (by kernel_rfl) (fun _ _ _ h => h) (Or.inl ⟨by rfl, ?_⟩) (by assumption) ?_
        rotate_left 1
        · intro w' hSw
          (try dsimp only at hSw)
          go_simp
          (try with_reducible rfl)
        (try simp only [Act.put, List.setIfInBounds_toArray, List.set_cons_zero, List.set_cons_succ])
        refine wpAnyH_done (by kernel_rfl) ?_ _
        go_wp2
        go_meet
        case rel => exact hC
      · have hne : sk ≠ wh := fun e => hki (nd_inj rok.nd hkl hi (by rw [hsk.out, e, ei]))
        have hse : (sk.toList == wh.toList) = false := by simpa using fun e => hne (str_eq e)
        obtain ⟨kl, f1, f2, f3⟩ := left_hand rok hi hkq hki
        rw [← e1] at f1 f2 f3
        obtain ⟨gl, rfl, -, dl, -⟩ := ownS_cell ol.n kl f2
        have hdl : Q.N[kl] = sk := by rw [List.getElem?_eq_getElem f2, List.getElem?_eq_getElem hkl, hsk.out] at f3; exact Option.some.inj f3
        rw [hdl] at dl
        rw [f1] at cl cl2
        have hok2 : ringB ⟨Q.N, Q.U, (kl : Int)⟩ = true := by rw [← f1]; exact hok
        have hk3 : (kl : Int) < (Nl : Int) := by have := hll.out; omega
        have hk4 : ¬ (kl : Int) < 0 := by omega
        clear hok
        have hok := hok2
        clear hki ei hkq e1 hQl hsk hkl hlQ f1 f2 f3 hdl hne hok2
        go_upto_region 15 with (fail)
        have hBd : Below w28.heap.size w28 w28.drew := (Below.refl _ _).drew
        have hzd : w28.drew.heap.size ≤ w28.heap.size := Nat.le_refl _
        have hzd2 : w28.heap.size ≤ w28.drew.heap.size := Nat.le_refl _
        replace oR := oR.grow hBd
        replace ox := ox.grow hBd
        replace oq := oq.grow hBd
        replace ol := ol.grow hBd
        replace cr := vblk_grow cr hBd
        clear cr0 cr1 cr2
        obtain ⟨cr0, cr1, cr2⟩ := cells3 cr
        replace cx := vblk_grow cx hBd
        clear cx0 cx1 cx2
        obtain ⟨cx0, cx1, cx2⟩ := cells3 cx
        replace cq := vblk_grow cq hBd
        clear cq0 cq1 cq2
        obtain ⟨cq0, cq1, cq2⟩ := cells3 cq
        replace cl := vblk_grow cl hBd
        clear cl0 cl1 cl2
        obtain ⟨cl0, cl1, cl2⟩ := cells3 cl
        replace hB := hB.trans (hBd.mono (by omega))
        replace hzw := hB.size
        replace hC := hC.trans (hBd.mono (by omega))
        replace dq := (hBd.cell (World.block_lt_of_cell? _ _ dq)).trans dq
        replace dl := (hBd.cell (World.block_lt_of_cell? _ _ dl)).trans dl
        have S1 : (w28.drew.cell? ⟨bl, 0, none⟩ = some (.slice (some ⟨gl, 0, none⟩) Nl Kl) ∧ w28.drew.cell? ⟨bl, 1, none⟩ = some (.slice Bl Ml Ll) ∧ w28.drew.cell? ⟨bl, 2, none⟩ = some (.int .i64 kl) ∧ w28.drew.cell? ⟨bq, 0, none⟩ = some (.slice (some ⟨gq, 0, none⟩) Nq Kq) ∧ w28.drew.cell? ⟨bq, 1, none⟩ = some (.slice Bq Mq Lq) ∧ w28.drew.cell? ⟨bq, 2, none⟩ = some (.int .i64 kq) ∧ w28.drew.cell? ⟨gq, kq, none⟩ = some (.string sk) ∧ w28.drew.cell? ⟨gl, kl, none⟩ = some (.string sk)) := ⟨cl0, cl1, cl2, cq0, cq1, cq2, dq, dl⟩
        have mk32 : Hid True := trivial
        have mk33 : Hid True := trivial
        go_region_held3 (fun w' => (w'.cell? ⟨bl, 0, none⟩ = some (.slice (some ⟨gl, 0, none⟩) Nl Kl) ∧ w'.cell? ⟨bl, 1, none⟩ = some (.slice Bl Ml Ll) ∧ w'.cell? ⟨bl, 2, none⟩ = some (.int .i64 kl) ∧ w'.cell? ⟨bq, 0, none⟩ = some (.slice (some ⟨gq, 0, none⟩) Nq Kq) ∧ w'.cell? ⟨bq, 1, none⟩ = some (.slice Bq Mq Lq) ∧ w'.cell? ⟨bq, 2, none⟩ = some (.int .i64 kq) ∧ w'.cell? ⟨gq, kq, none⟩ = some (.string sk) ∧ w'.cell? ⟨gl, kl, none⟩ = some (.string sk))) (first | assumption | exact S1) (first | (clear mk32; go_at_call 16; refine (implRingOk_any ⟨Q.N, Q.U, (kl : Int)⟩ _ _ _ (⟨ol.n.rd, ol.u.rd, hSQ.out⟩)).mono ?_; rintro er w29 ⟨he, hB29⟩; have hz29 : w28.drew.heap.size ≤ w29.heap.size := hB29.size; replace oR := oR.grow hB29; replace ox := ox.grow hB29; replace oq := oq.grow hB29; replace ol := ol.grow hB29; replace cr := vblk_grow cr hB29; replace cx := vblk_grow cx hB29; replace cq := vblk_grow cq hB29; replace cl := vblk_grow cl hB29; replace hB := hB.trans (hB29.mono (by omega)); replace hzw := hB.size; clear cr0 cr1 cr2; obtain ⟨cr0, cr1, cr2⟩ := cells3 cr; clear cx0 cx1 cx2; obtain ⟨cx0, cx1, cx2⟩ := cells3 cx; clear cq0 cq1 cq2; obtain ⟨cq0, cq1, cq2⟩ := cells3 cq; clear cl0 cl1 cl2; obtain ⟨cl0, cl1, cl2⟩ := cells3 cl; replace dq := (hB29.cell (World.block_lt_of_cell? _ _ dq)).trans dq; replace dl := (hB29.cell (World.block_lt_of_cell? _ _ dl)).trans dl; replace hC := hC.trans (hB29.mono (by omega)); rw [hok] at he; subst he; have S2 : (w29.cell? ⟨bl, 0, none⟩ = some (.slice (some ⟨gl, 0, none⟩) Nl Kl) ∧ w29.cell? ⟨bl, 1, none⟩ = some (.slice Bl Ml Ll) ∧ w29.cell? ⟨bl, 2, none⟩ = some (.int .i64 kl) ∧ w29.cell? ⟨bq, 0, none⟩ = some (.slice (some ⟨gq, 0, none⟩) Nq Kq) ∧ w29.cell? ⟨bq, 1, none⟩ = some (.slice Bq Mq Lq) ∧ w29.cell? ⟨bq, 2, none⟩ = some (.int .i64 kq) ∧ w29.cell? ⟨gq, kq, none⟩ = some (.string sk) ∧ w29.cell? ⟨gl, kl, none⟩ = some (.string sk)) := ⟨cl0, cl1, cl2, cq0, cq1, cq2, dq, dl⟩) | (clear mk33; go_at_call 33; refine (hasText_no Q.N wh _ _ ol.n.rd hno.out).mono ?_; rintro er wq ⟨rfl, hq⟩; subst wq) | (fail))
        clear S1 hBd
        go_wp2
        go_meet
        case rel => exact hC
    | false =>
      have hC : Below w28.heap.size w28 w28 := Below.refl _ _
      cases hgq : ringB q with
      | false =>
        have mk32 : Hid True := trivial
        go_wp2_with (first | (clear mk32; go_at_call 14; refine (specRingOk_any q _ _ _ (oq.rd HSq.out)).mono ?_; rintro er w29 ⟨he, hB29⟩; have hz29 : w28.heap.size ≤ w29.heap.size := hB29.size; replace oR := oR.grow hB29; replace ox := ox.grow hB29; replace oq := oq.grow hB29; replace ol := ol.grow hB29; replace cr := vblk_grow cr hB29; replace cx := vblk_grow cx hB29; replace cq := vblk_grow cq hB29; replace cl := vblk_grow cl hB29; replace hB := hB.trans (hB29.mono (by omega)); replace hzw := hB.size; clear cr0 cr1 cr2; obtain ⟨cr0, cr1, cr2⟩ := cells3 cr; clear cx0 cx1 cx2; obtain ⟨cx0, cx1, cx2⟩ := cells3 cx; clear cq0 cq1 cq2; obtain ⟨cq0, cq1, cq2⟩ := cells3 cq; clear cl0 cl1 cl2; obtain ⟨cl0, cl1, cl2⟩ := cells3 cl; replace hC := hC.trans (hB29.mono (by omega)); rw [hgq] at he; subst he) | (fail))
        go_meet
        case rel => exact hC
      | true =>
        have e1 := lv_no hy.out hgq
        rw [hQ.out] at e1
        rw [e1] at ol cl cl2
        clear e1
        have mk32 : Hid True := trivial
        have mk33 : Hid True := trivial
        go_wp2_with (first | (clear mk32; go_at_call 14; refine (specRingOk_any q _ _ _ (oq.rd HSq.out)).mono ?_; rintro er w29 ⟨he, hB29⟩; have hz29 : w28.heap.size ≤ w29.heap.size := hB29.size; replace oR := oR.grow hB29; replace ox := ox.grow hB29; replace oq := oq.grow hB29; replace ol := ol.grow hB29; replace cr := vblk_grow cr hB29; replace cx := vblk_grow cx hB29; replace cq := vblk_grow cq hB29; replace cl := vblk_grow cl hB29; replace hB := hB.trans (hB29.mono (by omega)); replace hzw := hB.size; clear cr0 cr1 cr2; obtain ⟨cr0, cr1, cr2⟩ := cells3 cr; clear cx0 cx1 cx2; obtain ⟨cx0, cx1, cx2⟩ := cells3 cx; clear cq0 cq1 cq2; obtain ⟨cq0, cq1, cq2⟩ := cells3 cq; clear cl0 cl1 cl2; obtain ⟨cl0, cl1, cl2⟩ := cells3 cl; replace hC := hC.trans (hB29.mono (by omega)); rw [hgq] at he; subst he) | (clear mk33; go_at_call 32; refine (likeRing_any q _ _ _ _ _ ol.n.rd ol.u.rd oq.n.rd oq.u.rd).mono ?_; rintro er w30 ⟨rfl, hB30⟩; have hz30 : w29.heap.size ≤ w30.heap.size := hB30.size; replace oR := oR.grow hB30; replace ox := ox.grow hB30; replace oq := oq.grow hB30; replace ol := ol.grow hB30; replace cr := vblk_grow cr hB30; replace cx := vblk_grow cx hB30; replace cq := vblk_grow cq hB30; replace cl := vblk_grow cl hB30; replace hB := hB.trans (hB30.mono (by omega)); replace hzw := hB.size; clear cr0 cr1 cr2; obtain ⟨cr0, cr1, cr2⟩ := cells3 cr; clear cx0 cx1 cx2; obtain ⟨cx0, cx1, cx2⟩ := cells3 cx; clear cq0 cq1 cq2; obtain ⟨cq0, cq1, cq2⟩ := cells3 cq; clear cl0 cl1 cl2; obtain ⟨cl0, cl1, cl2⟩ := cells3 cl; replace hC := hC.trans (hB30.mono (by omega))) | (fail))
        go_meet
        case rel => exact hC
  case rest =>
    obtain ⟨w29, hwn⟩ : ∃ x, x = wc := ⟨_, rfl⟩
    subst hwn
    have hB29 := hcut
    clear hcut
    have hz29 : w28.heap.size ≤ w29.heap.size := hB29.size
    replace oR := oR.grow hB29
    replace ox := ox.grow hB29
    replace oq := oq.grow hB29
    replace ol := ol.grow hB29
    replace cr := vblk_grow cr hB29
    replace cx := vblk_grow cx hB29
    replace cq := vblk_grow cq hB29
    replace cl := vblk_grow cl hB29
    replace hB := hB.trans (hB29.mono (by omega))
    replace hzw := hB.size
    clear cr0 cr1 cr2
    obtain ⟨cr0, cr1, cr2⟩ := cells3 cr
    clear cx0 cx1 cx2
    obtain ⟨cx0, cx1, cx2⟩ := cells3 cx
    clear cq0 cq1 cq2
    obtain ⟨cq0, cq1, cq2⟩ := cells3 cq
    clear cl0 cl1 cl2
    obtain ⟨cl0, cl1, cl2⟩ := cells3 cl
    clear cq0 cq1 cq2 oq cq
    clear cl0 cl1 cl2 ol cl
    cases z with
    | false =>
      cases g with
      | false =>
        have e1 := jn_zero (s := nm) hg.out
        rw [hJ.out] at e1
        rw [e1] at ox cx cx2
        clear e1
        have mk32 : Hid True := trivial
        have mk33 : Hid True := trivial
        go_wp2_with (first | (clear mk32; go_at_call 14; refine (specRingOk_any r _ _ _ (oR.rd HSr.out)).mono ?_; rintro er w30 ⟨he, hB30⟩; have hz30 : w29.heap.size ≤ w30.heap.size := hB30.size; replace oR := oR.grow hB30; replace ox := ox.grow hB30; replace cr := vblk_grow cr hB30; replace cx := vblk_grow cx hB30; replace hB := hB.trans (hB30.mono (by omega)); replace hzw := hB.size; clear cr0 cr1 cr2; obtain ⟨cr0, cr1, cr2⟩ := cells3 cr; clear cx0 cx1 cx2; obtain ⟨cx0, cx1, cx2⟩ := cells3 cx; rw [hg.out] at he; subst he) | (clear mk33; go_at_call 32; refine (likeRing_any Rg.zero _ _ _ _ _ ox.n.rd ox.u.rd (rd_zero encS _ none 0 (Nat.zero_le _)) (rd_zero encB _ none 0 (Nat.zero_le _))).mono ?_; rintro er w31 ⟨rfl, hB31⟩; have hz31 : w30.heap.size ≤ w31.heap.size := hB31.size; replace oR := oR.grow hB31; replace ox := ox.grow hB31; replace cr := vblk_grow cr hB31; replace cx := vblk_grow cx hB31; replace hB := hB.trans (hB31.mono (by omega)); replace hzw := hB.size; clear cr0 cr1 cr2; obtain ⟨cr0, cr1, cr2⟩ := cells3 cr; clear cx0 cx1 cx2; obtain ⟨cx0, cx1, cx2⟩ := cells3 cx) | (fail))
        go_ret
        exact ⟨rfl, hB⟩
      | true =>
        have e1 := jn_no hz.out hg.out
        rw [hJ.out] at e1
        rw [e1] at ox cx cx2
        clear e1
        have mk32 : Hid True := trivial
        have mk33 : Hid True := trivial
        go_wp2_with (first | (clear mk32; go_at_call 14; refine (specRingOk_any r _ _ _ (oR.rd HSr.out)).mono ?_; rintro er w30 ⟨he, hB30⟩; have hz30 : w29.heap.size ≤ w30.heap.size := hB30.size; replace oR := oR.grow hB30; replace ox := ox.grow hB30; replace cr := vblk_grow cr hB30; replace cx := vblk_grow cx hB30; replace hB := hB.trans (hB30.mono (by omega)); replace hzw := hB.size; clear cr0 cr1 cr2; obtain ⟨cr0, cr1, cr2⟩ := cells3 cr; clear cx0 cx1 cx2; obtain ⟨cx0, cx1, cx2⟩ := cells3 cx; rw [hg.out] at he; subst he) | (clear mk33; go_at_call 32; refine (likeRing_any r _ _ _ _ _ ox.n.rd ox.u.rd oR.n.rd oR.u.rd).mono ?_; rintro er w31 ⟨rfl, hB31⟩; have hz31 : w30.heap.size ≤ w31.heap.size := hB31.size; replace oR := oR.grow hB31; replace ox := ox.grow hB31; replace cr := vblk_grow cr hB31; replace cx := vblk_grow cx hB31; replace hB := hB.trans (hB31.mono (by omega)); replace hzw := hB.size; clear cr0 cr1 cr2; obtain ⟨cr0, cr1, cr2⟩ := cells3 cr; clear cx0 cx1 cx2; obtain ⟨cx0, cx1, cx2⟩ := cells3 cx) | (fail))
        go_ret
        exact ⟨rfl, hB⟩
    | true =>
      obtain ⟨rok, hg1, hok, e1⟩ := jn_yes hz.out
      rw [hJ.out] at e1
      rw [← e1] at hok
      have eN : J.N = r.N ++ [nm] := by rw [e1]; rfl
      have eU : J.U = r.U ++ [false] := by rw [e1]; rfl
      have hus := rok.us
      have hNr := hlr.out
      have hlx := ox.n.rd.cap
      have hlxu := ox.u.rd.cap.1
      have hxN : J.N.length = Nr + 1 := by rw [eN]; simp; omega
      have hxU : J.U.length = Nr + 1 := by rw [eU]; simp; omega
      have hSJ : Hid (∀ s ∈ J.N, s.size ≤ 9223372036854775807) := by
        unfold Hid
        rw [eN]
        intro s hs
        rcases List.mem_append.1 hs with q | q
        · exact HSr.out s q
        · rw [List.mem_singleton.1 q]; exact hnm
      obtain ⟨gx, rfl, -, dx, -⟩ := ownS_cell ox.n Nr (by omega)
      obtain ⟨hx, rfl, -, dv, -⟩ := ownB_cell ox.u Nr (by omega)
      have f1 : J.N[Nr]'(by omega) = nm := by simp only [eN]; rw [List.getElem_append_right (by omega)]; simp
      have f2 : J.U[Nr]'(by omega) = false := by simp only [eU]; rw [List.getElem_append_right (by omega)]; simp
      rw [f1] at dx
      rw [f2] at dv
      have rT : Hid (∀ W, Rd encS W (.slice (some ⟨gx, 0, none⟩) Nx Kx) J.N → Rd encS W (.slice (some ⟨gx, 0, none⟩) Nr Kx) r.N) := fun W hW => by
        have h := hW.take Nr (by omega)
        have e : J.N.take Nr = r.N := by rw [eN, hNr, List.take_left]
        rw [e] at h
        exact h
      have hi1 : (Nr : Int) < (Nx : Int) := by omega
      have hi2 : (Nr : Int) < (Mx : Int) := by omega
      have hi3 : ¬ (Nr : Int) < 0 := by omega
      have hi4 : (Nr : Int) ≤ (Kx : Int) := by omega
      have hi5 : Nr ≤ Kx := by omega
      have hnn2 : (nm.toList == nm.toList) = true := by simp
      clear f1 f2 e1 eN eU hus hNr hlx hlxu hxN hxU
      go_upto_region 21 with (fail)
      have hBd : Below w29.heap.size w29 w29.drew := (Below.refl _ _).drew
      have hzd : w29.drew.heap.size ≤ w29.heap.size := Nat.le_refl _
      have hzd2 : w29.heap.size ≤ w29.drew.heap.size := Nat.le_refl _
      replace oR := oR.grow hBd
      replace ox := ox.grow hBd
      replace cr := vblk_grow cr hBd
      clear cr0 cr1 cr2
      obtain ⟨cr0, cr1, cr2⟩ := cells3 cr
      replace cx := vblk_grow cx hBd
      clear cx0 cx1 cx2
      obtain ⟨cx0, cx1, cx2⟩ := cells3 cx
      replace hB := hB.trans (hBd.mono (by omega))
      replace hzw := hB.size
      replace dx := (hBd.cell (World.block_lt_of_cell? _ _ dx)).trans dx
      replace dv := (hBd.cell (World.block_lt_of_cell? _ _ dv)).trans dv
      have S1 : (w29.drew.cell? ⟨bx, 0, none⟩ = some (.slice (some ⟨gx, 0, none⟩) Nx Kx) ∧ w29.drew.cell? ⟨bx, 1, none⟩ = some (.slice (some ⟨hx, 0, none⟩) Mx Lx) ∧ w29.drew.cell? ⟨bx, 2, none⟩ = some (.int .i64 J.A) ∧ w29.drew.cell? ⟨br, 0, none⟩ = some (.slice Ar Nr Kr) ∧ w29.drew.cell? ⟨br, 1, none⟩ = some (.slice Br Mr Lr) ∧ w29.drew.cell? ⟨br, 2, none⟩ = some (.int .i64 r.A) ∧ w29.drew.cell? ⟨gx, Nr, none⟩ = some (.string nm) ∧ w29.drew.cell? ⟨hx, Nr, none⟩ = some (.bool false)) := ⟨cx0, cx1, cx2, cr0, cr1, cr2, dx, dv⟩
      have mk32 : Hid True := trivial
      have mk33 : Hid True := trivial
      go_region_held3 (fun w' => (w'.cell? ⟨bx, 0, none⟩ = some (.slice (some ⟨gx, 0, none⟩) Nx Kx) ∧ w'.cell? ⟨bx, 1, none⟩ = some (.slice (some ⟨hx, 0, none⟩) Mx Lx) ∧ w'.cell? ⟨bx, 2, none⟩ = some (.int .i64 J.A) ∧ w'.cell? ⟨br, 0, none⟩ = some (.slice Ar Nr Kr) ∧ w'.cell? ⟨br, 1, none⟩ = some (.slice Br Mr Lr) ∧ w'.cell? ⟨br, 2, none⟩ = some (.int .i64 r.A) ∧ w'.cell? ⟨gx, Nr, none⟩ = some (.string nm) ∧ w'.cell? ⟨hx, Nr, none⟩ = some (.bool false))) (first | assumption | exact S1) (first | (clear mk32; go_at_call 16; refine (implRingOk_any J _ _ _ (ox.rd hSJ.out)).mono ?_; rintro er w30 ⟨he, hB30⟩; have hz30 : w29.drew.heap.size ≤ w30.heap.size := hB30.size; replace oR := oR.grow hB30; replace ox := ox.grow hB30; replace cr := vblk_grow cr hB30; replace cx := vblk_grow cx hB30; replace hB := hB.trans (hB30.mono (by omega)); replace hzw := hB.size; clear cr0 cr1 cr2; obtain ⟨cr0, cr1, cr2⟩ := cells3 cr; clear cx0 cx1 cx2; obtain ⟨cx0, cx1, cx2⟩ := cells3 cx; replace dx := (hB30.cell (World.block_lt_of_cell? _ _ dx)).trans dx; replace dv := (hB30.cell (World.block_lt_of_cell? _ _ dv)).trans dv; rw [hok] at he; subst he; have S2 : (w30.cell? ⟨bx, 0, none⟩ = some (.slice (some ⟨gx, 0, none⟩) Nx Kx) ∧ w30.cell? ⟨bx, 1, none⟩ = some (.slice (some ⟨hx, 0, none⟩) Mx Lx) ∧ w30.cell? ⟨bx, 2, none⟩ = some (.int .i64 J.A) ∧ w30.cell? ⟨br, 0, none⟩ = some (.slice Ar Nr Kr) ∧ w30.cell? ⟨br, 1, none⟩ = some (.slice Br Mr Lr) ∧ w30.cell? ⟨br, 2, none⟩ = some (.int .i64 r.A) ∧ w30.cell? ⟨gx, Nr, none⟩ = some (.string nm) ∧ w30.cell? ⟨hx, Nr, none⟩ = some (.bool false)) := ⟨cx0, cx1, cx2, cr0, cr1, cr2, dx, dv⟩) | (clear mk33; go_at_call 34; refine (likeTexts_any r.N _ _ _ (rT.out _ ox.n.rd) oR.n.rd).mono ?_; rintro er w31 ⟨rfl, hB31⟩; have hz31 : w30.heap.size ≤ w31.heap.size := hB31.size; replace oR := oR.grow hB31; replace ox := ox.grow hB31; replace cr := vblk_grow cr hB31; replace cx := vblk_grow cx hB31; replace hB := hB.trans (hB31.mono (by omega)); replace hzw := hB.size; clear cr0 cr1 cr2; obtain ⟨cr0, cr1, cr2⟩ := cells3 cr; clear cx0 cx1 cx2; obtain ⟨cx0, cx1, cx2⟩ := cells3 cx; replace dx := (hB31.cell (World.block_lt_of_cell? _ _ dx)).trans dx; replace dv := (hB31.cell (World.block_lt_of_cell? _ _ dv)).trans dv; have S3 : (w31.cell? ⟨bx, 0, none⟩ = some (.slice (some ⟨gx, 0, none⟩) Nx Kx) ∧ w31.cell? ⟨bx, 1, none⟩ = some (.slice (some ⟨hx, 0, none⟩) Mx Lx) ∧ w31.cell? ⟨bx, 2, none⟩ = some (.int .i64 J.A) ∧ w31.cell? ⟨br, 0, none⟩ = some (.slice Ar Nr Kr) ∧ w31.cell? ⟨br, 1, none⟩ = some (.slice Br Mr Lr) ∧ w31.cell? ⟨br, 2, none⟩ = some (.int .i64 r.A) ∧ w31.cell? ⟨gx, Nr, none⟩ = some (.string nm) ∧ w31.cell? ⟨hx, Nr, none⟩ = some (.bool false)) := ⟨cx0, cx1, cx2, cr0, cr1, cr2, dx, dv⟩) | (fail))
      clear S1 hBd
      go_wp2
      go_ret
      exact ⟨rfl, hB⟩
end Go.Proofs.Ytgcgofnjaipndaa.lawRi
