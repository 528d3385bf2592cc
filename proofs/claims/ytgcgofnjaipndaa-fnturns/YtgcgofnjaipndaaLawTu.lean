/- The walk of the law FnTurns. -/
import Derived.Test.YtgcgofnjaipndaaRt0
import Derived.Test.YtgcgofnjaipndaaRt1
import Derived.Test.YtgcgofnjaipndaaRe4
namespace Go.Proofs.Ytgcgofnjaipndaa.lawTu
open Go.ChangeShapes Go.WideShapes Go.ChangeAt Go.RowKit
open Go.Proofs.Ytgcgofnjaipndaa.ce Go.Proofs.Ytgcgofnjaipndaa.ro Go.Proofs.Ytgcgofnjaipndaa.rg Go.Proofs.Ytgcgofnjaipndaa.draw
set_option linter.unusedVariables false

theorem tu_no {r : Rg} (h : ringB r = false) : tuR r = Rg.zero ∧ tuS r = ⟨#[]⟩ := by unfold tuR tuS; rw [h]; exact ⟨rfl, rfl⟩
theorem tu_nil {r : Rg} (h : ringB r = true) (h0 : r.N.length = 0) : tuR r = r ∧ tuS r = ⟨#[]⟩ := by unfold tuR tuS; rw [if_pos h, if_pos h, if_pos h0, if_pos h0]; exact ⟨rfl, rfl⟩
theorem tu_yes {r : Rg} (h : ringB r = true) (h0 : r.N.length ≠ 0) : ∃ V b, Stop r V b ∧ tuR r = ⟨r.N, V, (b : Int)⟩ ∧ ∃ hb : b < r.N.length, tuS r = r.N[b] := by
  have st := turned_stop (ringB_iff.1 h) h0
  refine ⟨_, _, st, by unfold tuR; rw [if_pos h, if_neg h0], st.lt, ?_⟩
  unfold tuS
  rw [if_pos h, if_neg h0, List.getElem?_eq_getElem st.lt]
  rfl

set_option maxRecDepth 100000 in
set_option maxHeartbeats 6000000 in
theorem walk (a0 : Option Addr) (len cap : Nat) (w : World) (hl : len ≤ 4096) (hcode0 : CodeAt w a0 len) :
    Calls Try.prog 10 #[.slice a0 len cap] w fun e w' => e = .returned (.bool true) ∧ Below w.heap.size w w' := by
  have HC : Hid (CodeAt w a0 len) := hcode0
  clear hcode0
  have hl' : ¬ (4096 : Int) < (len : Int) := by omega
  go_enter Try.func10, Try.ntmps10
  have mk1 : Hid True := trivial
  have mk2 : Hid True := trivial
  have mk3 : Hid True := trivial
  have mk4 : Hid True := trivial
  have mk5 : Hid True := trivial
  have mk6 : Hid True := trivial
  have mk7 : Hid True := trivial
  have mk8 : Hid True := trivial
  have mk9 : Hid True := trivial
  have mk10 : Hid True := trivial
  have mk11 : Hid True := trivial
  go_upto_region 8 with (first | (clear mk1; go_at_call 28; go_in) | (clear mk2; go_at_call 35; refine (drawTurns_any w _ _ _ HC.out).mono ?_; rintro er w1 ⟨vr, ur, r, rfl, ⟨oR, hsm, hB1⟩⟩; have hz1 : w.heap.size ≤ w1.heap.size := hB1.size; have hB := hB1; have hzw := hB.size; obtain ⟨Ar, Nr, Kr, rfl⟩ := oR.n.slice; obtain ⟨Br, Mr, Lr, rfl⟩ := oR.u.slice; obtain ⟨J, hJ⟩ := hid_ex (tuR r); obtain ⟨z, hZ⟩ := hid_ex (tuS r); have hzz : (z.toList == z.toList) = true := (by simp); have HS : Hid (∀ s ∈ r.N, s.size ≤ 9223372036854775807) := fun s hs => (by have := hsm.s s hs; omega); clear hsm) | (clear mk3; refine wpList_alloc_v rfl 29 rfl _ zeroRg ?_; intro br w2 hbr hwbr hB2 cr; have hz2 : w1.heap.size ≤ w2.heap.size := hB2.size; replace oR := oR.grow hB2; replace hB := hB.trans (hB2.mono (by omega)); replace hzw := hB.size) | (clear mk4; refine wpList_store_v rfl 29 _ _ rfl br [.slice Ar Nr Kr, .slice Br Mr Lr, .int .i64 r.A] rfl rfl sizeRg cr rfl (by simp [Value.oneCell']) ?_; intro w3 hO3 crx; have hz3 : w2.heap.size ≤ w3.heap.size := (Nat.le_of_eq hO3.1.symm); have hy3 : w3.heap.size ≤ w2.heap.size := (Nat.le_of_eq hO3.1); replace oR := oR.only hO3 cr (by decide) (by decide); replace hB := hB.trans (hO3.2.2 _ (by omega)); replace hzw := hB.size; clear cr; have cr := crx; clear crx; obtain ⟨cr0, cr1, cr2⟩ := cells3 cr) | (clear mk5; go_at_call 27; refine (implTurns_all r _ _ _ (oR.rd HS.out)).mono ?_; rintro er w4 ⟨vx, ux, he, ox, hB4⟩; have hz4 : w3.heap.size ≤ w4.heap.size := hB4.size; replace oR := oR.grow hB4; replace cr := vblk_grow cr hB4; replace hB := hB.trans (hB4.mono (by omega)); replace hzw := hB.size; clear cr0 cr1 cr2; obtain ⟨cr0, cr1, cr2⟩ := cells3 cr; rw [hJ.out, hZ.out] at he; subst he; rw [hJ.out] at ox; obtain ⟨Ax, Nx, Kx, rfl⟩ := ox.n.slice; obtain ⟨Bx, Mx, Lx, rfl⟩ := ox.u.slice) | (clear mk6; refine wpList_alloc_v rfl 29 rfl _ zeroRg ?_; intro bx w5 hbx hwbx hB5 cx; have hz5 : w4.heap.size ≤ w5.heap.size := hB5.size; replace oR := oR.grow hB5; replace ox := ox.grow hB5; replace cr := vblk_grow cr hB5; replace hB := hB.trans (hB5.mono (by omega)); replace hzw := hB.size; clear cr0 cr1 cr2; obtain ⟨cr0, cr1, cr2⟩ := cells3 cr) | (clear mk7; refine wpList_store_v rfl 29 _ _ rfl bx [.slice Ax Nx Kx, .slice Bx Mx Lx, .int .i64 J.A] rfl rfl sizeRg cx rfl (by simp [Value.oneCell']) ?_; intro w6 hO6 cxx; have hz6 : w5.heap.size ≤ w6.heap.size := (Nat.le_of_eq hO6.1.symm); have hy6 : w6.heap.size ≤ w5.heap.size := (Nat.le_of_eq hO6.1); replace oR := oR.only hO6 cx (by decide) (by decide); replace ox := ox.only hO6 cx (by decide) (by decide); replace cr := vblk_only cr hO6 (by omega); replace hB := hB.trans (hO6.2.2 _ (by omega)); replace hzw := hB.size; clear cr0 cr1 cr2; obtain ⟨cr0, cr1, cr2⟩ := cells3 cr; clear cx; have cx := cxx; clear cxx; obtain ⟨cx0, cx1, cx2⟩ := cells3 cx) | (clear mk8; go_at_call 26; refine (specTurns_all r _ _ _ (oR.rd HS.out)).mono ?_; rintro er w7 ⟨vt, ut, he, ot, hB7⟩; have hz7 : w6.heap.size ≤ w7.heap.size := hB7.size; replace oR := oR.grow hB7; replace ox := ox.grow hB7; replace cr := vblk_grow cr hB7; replace cx := vblk_grow cx hB7; replace hB := hB.trans (hB7.mono (by omega)); replace hzw := hB.size; clear cr0 cr1 cr2; obtain ⟨cr0, cr1, cr2⟩ := cells3 cr; clear cx0 cx1 cx2; obtain ⟨cx0, cx1, cx2⟩ := cells3 cx; rw [hJ.out, hZ.out] at he; subst he; rw [hJ.out] at ot; obtain ⟨At, Nt, Kt, rfl⟩ := ot.n.slice; obtain ⟨Bt, Mt, Lt, rfl⟩ := ot.u.slice) | (clear mk9; refine wpList_alloc_v rfl 29 rfl _ zeroRg ?_; intro bt w8 hbt hwbt hB8 ct; have hz8 : w7.heap.size ≤ w8.heap.size := hB8.size; replace oR := oR.grow hB8; replace ox := ox.grow hB8; replace ot := ot.grow hB8; replace cr := vblk_grow cr hB8; replace cx := vblk_grow cx hB8; replace hB := hB.trans (hB8.mono (by omega)); replace hzw := hB.size; clear cr0 cr1 cr2; obtain ⟨cr0, cr1, cr2⟩ := cells3 cr; clear cx0 cx1 cx2; obtain ⟨cx0, cx1, cx2⟩ := cells3 cx) | (clear mk10; refine wpList_store_v rfl 29 _ _ rfl bt [.slice At Nt Kt, .slice Bt Mt Lt, .int .i64 J.A] rfl rfl sizeRg ct rfl (by simp [Value.oneCell']) ?_; intro w9 hO9 ctx; have hz9 : w8.heap.size ≤ w9.heap.size := (Nat.le_of_eq hO9.1.symm); have hy9 : w9.heap.size ≤ w8.heap.size := (Nat.le_of_eq hO9.1); replace oR := oR.only hO9 ct (by decide) (by decide); replace ox := ox.only hO9 ct (by decide) (by decide); replace ot := ot.only hO9 ct (by decide) (by decide); replace cr := vblk_only cr hO9 (by omega); replace cx := vblk_only cx hO9 (by omega); replace hB := hB.trans (hO9.2.2 _ (by omega)); replace hzw := hB.size; clear cr0 cr1 cr2; obtain ⟨cr0, cr1, cr2⟩ := cells3 cr; clear cx0 cx1 cx2; obtain ⟨cx0, cx1, cx2⟩ := cells3 cx; clear ct; have ct := ctx; clear ctx; obtain ⟨ct0, ct1, ct2⟩ := cells3 ct) | (clear mk11; go_at_call 32; refine (likeRing_any J _ _ _ _ _ ox.n.rd ox.u.rd ot.n.rd ot.u.rd).mono ?_; rintro er w10 ⟨rfl, hB10⟩; have hz10 : w9.heap.size ≤ w10.heap.size := hB10.size; replace oR := oR.grow hB10; replace ox := ox.grow hB10; replace ot := ot.grow hB10; replace cr := vblk_grow cr hB10; replace cx := vblk_grow cx hB10; replace ct := vblk_grow ct hB10; replace hB := hB.trans (hB10.mono (by omega)); replace hzw := hB.size; clear cr0 cr1 cr2; obtain ⟨cr0, cr1, cr2⟩ := cells3 cr; clear cx0 cx1 cx2; obtain ⟨cx0, cx1, cx2⟩ := cells3 cx; clear ct0 ct1 ct2; obtain ⟨ct0, ct1, ct2⟩ := cells3 ct) | (fail))
  have hlr : Hid (Nr = r.N.length) := oR.n.rd.cap.1
  have hlu : Hid (Mr = r.U.length) := oR.u.rd.cap.1
  clear ct0 ct1 ct2 ot ct
  cases hg : ringB r with
  | false =>
    obtain ⟨e1, e2⟩ := tu_no hg
    rw [hJ.out] at e1
    rw [hZ.out] at e2
    subst e1 e2
    have mk12 : Hid True := trivial
    have mk13 : Hid True := trivial
    have mk14 : Hid True := trivial
    go_wp2_with (first | (clear mk12; go_at_call 14; refine (specRingOk_any r _ _ _ (oR.rd HS.out)).mono ?_; rintro er w11 ⟨he, hB11⟩; have hz11 : w10.heap.size ≤ w11.heap.size := hB11.size; replace oR := oR.grow hB11; replace ox := ox.grow hB11; replace cr := vblk_grow cr hB11; replace cx := vblk_grow cx hB11; replace hB := hB.trans (hB11.mono (by omega)); replace hzw := hB.size; clear cr0 cr1 cr2; obtain ⟨cr0, cr1, cr2⟩ := cells3 cr; clear cx0 cx1 cx2; obtain ⟨cx0, cx1, cx2⟩ := cells3 cx; rw [hg] at he; subst he) | (clear mk13; go_at_call 14; refine (specRingOk_any r _ _ _ (oR.rd HS.out)).mono ?_; rintro er w12 ⟨he, hB12⟩; have hz12 : w11.heap.size ≤ w12.heap.size := hB12.size; replace oR := oR.grow hB12; replace ox := ox.grow hB12; replace cr := vblk_grow cr hB12; replace cx := vblk_grow cx hB12; replace hB := hB.trans (hB12.mono (by omega)); replace hzw := hB.size; clear cr0 cr1 cr2; obtain ⟨cr0, cr1, cr2⟩ := cells3 cr; clear cx0 cx1 cx2; obtain ⟨cx0, cx1, cx2⟩ := cells3 cx; rw [hg] at he; subst he) | (clear mk14; go_at_call 32; refine (likeRing_any Rg.zero _ _ _ _ _ ox.n.rd ox.u.rd (rd_zero encS _ none 0 (Nat.zero_le _)) (rd_zero encB _ none 0 (Nat.zero_le _))).mono ?_; rintro er w13 ⟨rfl, hB13⟩; have hz13 : w12.heap.size ≤ w13.heap.size := hB13.size; replace oR := oR.grow hB13; replace ox := ox.grow hB13; replace cr := vblk_grow cr hB13; replace cx := vblk_grow cx hB13; replace hB := hB.trans (hB13.mono (by omega)); replace hzw := hB.size; clear cr0 cr1 cr2; obtain ⟨cr0, cr1, cr2⟩ := cells3 cr; clear cx0 cx1 cx2; obtain ⟨cx0, cx1, cx2⟩ := cells3 cx) | (fail))
    go_ret
    exact ⟨rfl, hB⟩
  | true =>
    by_cases h0 : r.N.length = 0
    · obtain ⟨e1, e2⟩ := tu_nil hg h0
      rw [hJ.out] at e1
      rw [hZ.out] at e2
      subst e1 e2
      have hN0 : ((Nr : Int) == 0) = true := by rw [hlr.out, h0]; rfl
      have mk12 : Hid True := trivial
      have mk13 : Hid True := trivial
      go_wp2_with (first | (clear mk12; go_at_call 14; refine (specRingOk_any J _ _ _ (oR.rd HS.out)).mono ?_; rintro er w11 ⟨he, hB11⟩; have hz11 : w10.heap.size ≤ w11.heap.size := hB11.size; replace oR := oR.grow hB11; replace ox := ox.grow hB11; replace cr := vblk_grow cr hB11; replace cx := vblk_grow cx hB11; replace hB := hB.trans (hB11.mono (by omega)); replace hzw := hB.size; clear cr0 cr1 cr2; obtain ⟨cr0, cr1, cr2⟩ := cells3 cr; clear cx0 cx1 cx2; obtain ⟨cx0, cx1, cx2⟩ := cells3 cx; rw [hg] at he; subst he) | (clear mk13; go_at_call 14; refine (specRingOk_any J _ _ _ (oR.rd HS.out)).mono ?_; rintro er w12 ⟨he, hB12⟩; have hz12 : w11.heap.size ≤ w12.heap.size := hB12.size; replace oR := oR.grow hB12; replace ox := ox.grow hB12; replace cr := vblk_grow cr hB12; replace cx := vblk_grow cx hB12; replace hB := hB.trans (hB12.mono (by omega)); replace hzw := hB.size; clear cr0 cr1 cr2; obtain ⟨cr0, cr1, cr2⟩ := cells3 cr; clear cx0 cx1 cx2; obtain ⟨cx0, cx1, cx2⟩ := cells3 cx; rw [hg] at he; subst he) | (fail))
      go_ret
      exact ⟨rfl, hB⟩
    · have rok := ringB_iff.1 hg
      obtain ⟨V, b, st, e1, hb, e2⟩ := tu_yes hg h0
      rw [hJ.out] at e1
      rw [hZ.out] at e2
      subst e1
      have hok : ringB ⟨r.N, V, (b : Int)⟩ = true := ringB_iff.2 (turned_ok rok st)
      have hN0 : ((Nr : Int) == 0) = false := by have := hlr.out; simp; omega
      have ST : Hid (Stop r V b) := st
      have hVl : Hid (V.length = r.N.length) := st.len
      have hus : Hid (r.U.length = r.N.length) := rok.us
      have hbV : b < V.length := by have := hVl.out; omega
      have hbU : b < r.U.length := by have := hus.out; omega
      have hoff := st.off
      clear st
      have hlx : Hid (Nx = r.N.length) := ox.n.rd.cap.1
      have hlxu : Hid (Mx = V.length) := ox.u.rd.cap.1
      obtain ⟨gx, rfl, -, dx, -⟩ := ownS_cell ox.n b hb
      obtain ⟨hx, rfl, -, dv, -⟩ := ownB_cell ox.u b hbV
      have hvb : V[b] = false := by rw [List.getElem?_eq_getElem hbV] at hoff; exact Option.some.inj hoff
      have dx' : w10.cell? ⟨gx, b, none⟩ = some (Value.string z) := by rw [e2]; exact dx
      have dv' : w10.cell? ⟨hx, b, none⟩ = some (Value.bool false) := by rw [← hvb]; exact dv
      clear dx dv
      have dx := dx'
      have dv := dv'
      clear dx' dv' e2 hvb hoff
      have hbx : (b : Int) < (Nx : Int) := by have := hlx.out; omega
      have hbu : (b : Int) < (Mx : Int) := by have := hlxu.out; omega
      have hbz : ¬ (b : Int) < 0 := by omega
      have mk12 : Hid True := trivial
      have mk13 : Hid True := trivial
      have mk14 : Hid True := trivial
      go_upto_region 14 with (first | (clear mk12; go_at_call 14; refine (specRingOk_any r _ _ _ (oR.rd HS.out)).mono ?_; rintro er w11 ⟨he, hB11⟩; have hz11 : w10.heap.size ≤ w11.heap.size := hB11.size; replace oR := oR.grow hB11; replace ox := ox.grow hB11; replace cr := vblk_grow cr hB11; replace cx := vblk_grow cx hB11; replace hB := hB.trans (hB11.mono (by omega)); replace hzw := hB.size; clear cr0 cr1 cr2; obtain ⟨cr0, cr1, cr2⟩ := cells3 cr; clear cx0 cx1 cx2; obtain ⟨cx0, cx1, cx2⟩ := cells3 cx; replace dx := (hB11.cell (World.block_lt_of_cell? _ _ dx)).trans dx; replace dv := (hB11.cell (World.block_lt_of_cell? _ _ dv)).trans dv; rw [hg] at he; subst he) | (clear mk13; go_at_call 16; refine (implRingOk_any ⟨r.N, V, (b : Int)⟩ _ _ _ (ox.rd HS.out)).mono ?_; rintro er w12 ⟨he, hB12⟩; have hz12 : w11.heap.size ≤ w12.heap.size := hB12.size; replace oR := oR.grow hB12; replace ox := ox.grow hB12; replace cr := vblk_grow cr hB12; replace cx := vblk_grow cx hB12; replace hB := hB.trans (hB12.mono (by omega)); replace hzw := hB.size; clear cr0 cr1 cr2; obtain ⟨cr0, cr1, cr2⟩ := cells3 cr; clear cx0 cx1 cx2; obtain ⟨cx0, cx1, cx2⟩ := cells3 cx; replace dx := (hB12.cell (World.block_lt_of_cell? _ _ dx)).trans dx; replace dv := (hB12.cell (World.block_lt_of_cell? _ _ dv)).trans dv; rw [hok] at he; subst he) | (clear mk14; go_at_call 34; refine (likeTexts_any r.N _ _ _ ox.n.rd oR.n.rd).mono ?_; rintro er w13 ⟨rfl, hB13⟩; have hz13 : w12.heap.size ≤ w13.heap.size := hB13.size; replace oR := oR.grow hB13; replace ox := ox.grow hB13; replace cr := vblk_grow cr hB13; replace cx := vblk_grow cx hB13; replace hB := hB.trans (hB13.mono (by omega)); replace hzw := hB.size; clear cr0 cr1 cr2; obtain ⟨cr0, cr1, cr2⟩ := cells3 cr; clear cx0 cx1 cx2; obtain ⟨cx0, cx1, cx2⟩ := cells3 cx; replace dx := (hB13.cell (World.block_lt_of_cell? _ _ dx)).trans dx; replace dv := (hB13.cell (World.block_lt_of_cell? _ _ dv)).trans dv) | (fail))
      clear dx dv
      obtain ⟨q, hq⟩ := hid_ex (r.U[b])
      obtain ⟨hr, rfl, -, du, -⟩ := ownB_cell oR.u b hbU
      rw [hq.out] at du
      have hq? : r.U[b]? = some q := by rw [List.getElem?_eq_getElem hbU, hq.out]
      have hall : Hid (r.U.all id = q) := all_end rok ST.out hq?
      have hAt : Hid (q = true → (b : Int) = r.A) := fun e => ST.out.at' (by rw [hq?, e])
      have hbr : (b : Int) < (Mr : Int) := by have := hlu.out; omega
      have hMr : Mr ≤ r.U.length := Nat.le_of_eq hlu.out
      have hMr2 : r.U.length ≤ Mr := Nat.le_of_eq hlu.out.symm
      have hMx : r.U.length ≤ Mx := by have := hlxu.out; have := hVl.out; have := hus.out; omega
      have hUV : r.U.length ≤ V.length := by have := hVl.out; have := hus.out; omega
      clear hq?
      go_loop [8, 9] (fun p v => ∃ (i : Nat) (y : Bool), i ≤ r.U.length ∧ p = .bool y ∧ v = .int .i64 i ∧ Hid ((r.U.take i).all id = y)) (fun _ v => r.U.length - (intOf v).toNat)
      case atStart => exact ⟨0, true, by omega, rfl, rfl, (rfl : (r.U.take 0).all id = true)⟩
      case round =>
        obtain ⟨i, y, hi1, rfl, rfl, hy⟩ := hrel
        by_cases hlt : i < r.U.length
        · have HLT : Hid (i < r.U.length) := hlt
          have hlU := oR.u.rd.len
          have hlt' : (i : Int) < (Mr : Int) := by omega
          have hltx : (i : Int) < (Mx : Int) := by omega
          have hiz : ¬ (i : Int) < 0 := by omega
          obtain ⟨g1, e1, -, f1, -⟩ := ownB_cell oR.u i hlt
          cases e1
          obtain ⟨g2, e2, -, f2, -⟩ := ownB_cell ox.u i (by show i < V.length; omega)
          cases e2
          have hn := all_next hlt
          have hle := ST.out.le i
          rw [List.getElem?_eq_getElem (by omega), List.getElem?_eq_getElem (by omega)] at hle
          dsimp only at f2
          obtain ⟨u, hu⟩ := hid_ex (r.U[i]'hlt)
          obtain ⟨v, hv⟩ := hid_ex (V[i]'(Nat.lt_of_lt_of_le hlt hUV))
          rw [hu.out] at f1 hn hle
          rw [hv.out] at f2 hle
          rw [hy.out] at hn
          have HN : Hid ((r.U.take (i + 1)).all id = (y && u)) := hn
          have HL : Hid (v = true → u = true) := fun e => Option.some.inj (hle (by rw [e]))
          clear hn hle
          cases y <;> cases v <;> cases u <;> first
            | exact absurd (HL.out rfl) (by decide)
            | (go_wp2
               go_round
               case rel => exact ⟨i + 1, _, HLT.out, rfl, by go_num, HN⟩
               case measure => have := HLT.out; simp [intOf]; omega)
        · have hlt' : ¬ (i : Int) < (Mr : Int) := by omega
          have hyq : y = q := by
            have h := hy.out
            rw [List.take_of_length_le (by omega), hall.out] at h
            exact h.symm
          subst hyq
          cases y with
          | false =>
            go_wp2
            go_ret
            exact ⟨rfl, hB⟩
          | true =>
            have hA := hAt.out rfl
            have hAA : ((b : Int) == r.A) = true := by simpa using hA
            clear hA
            go_wp2
            go_ret
            exact ⟨rfl, hB⟩
end Go.Proofs.Ytgcgofnjaipndaa.lawTu
