/- Texts laid together: Wi3 Ro9 Is1 Ro10. -/
import Derived.Test.YtmnjmghlkiljhaaWi2
import Derived.Test.YtmnjmghlkiljhaaMg10
import Derived.Test.YtmnjmghlkiljhaaMg00
import Derived.Test.YtmnjmghlkiljhaaMg03
import Derived.Deep.Slices
import Derived.Lib.SmallJoins
import Derived.ShutString
import Derived.ChangeOld
/- The model's DueBy. -/
namespace Go.Proofs.Ytmnjmghlkiljhaa.rg
open Go.ChangeShapes Go.WideShapes Go.ChangeAt Go.RowKit
open Go.Deep Go.Joins
open Go.Proofs.Ytmnjmghlkiljhaa.ce Go.Proofs.Ytmnjmghlkiljhaa.ro
set_option linter.unusedVariables false
set_option linter.unusedSimpArgs false

/-- while those that are due are sorted -/
structure Sq (w : World) (g n k : Nat) (D : List It) (wr : World) : Prop where
  o : Own encIt wr w.heap.size wr.heap.size (.slice (some ⟨g, 0, none⟩) n k) D
  low : Below w.heap.size w wr
theorem Sq.grow {w wr w' : World} {g n k : Nat} {D : List It} (S : Sq w g n k D wr) (hB : Below wr.heap.size wr w') : Sq w g n k D w' := ⟨(S.o.grow hB).wide (Nat.le_refl _) hB.size, S.low.trans (hB.mono S.low.size)⟩
set_option maxRecDepth 100000 in
set_option maxHeartbeats 8000000 in
theorem specDueBy_any (b : List It) (now : Int) (v : Value) (w : World) (r : Rd encIt w v b) (hs : SmK b) :
    Calls Try.prog 31 #[v, .int .i64 now] w fun e w' => ∃ v', e = .returned v' ∧ Own encS w' w.heap.size w'.heap.size v' (duR b now) ∧ Below w.heap.size w w' := by
  obtain ⟨a, cap, rfl⟩ := r.form
  have R : Hid (Rd encIt w (.slice a b.length cap) b) := r
  have HS : Hid (SmK b) := hs
  clear r hs
  obtain ⟨iT, hiT⟩ := infoItEi
  obtain ⟨iS, hiS⟩ := infoStEi
  obtain ⟨Z, hZ⟩ := hid_ex (duR b now)
  rw [hZ.out]
  have ma : Hid True := trivial
  cases hbk : bookB b with
  | false =>
    have hz0 : Hid (Z = []) := by unfold Hid; rw [← hZ.out]; unfold duR; rw [hbk]; rfl
    go_enter Try.func31, Try.ntmps31
    go_wp2_with (first | (clear ma; refine wpList_build0i rfl 24 _ iS rfl Try.underlying24 hiS ?_; intro b1 w1 hB1; have hz1 := hB1.size) | (go_at_call 36; refine (specBookOk_any b _ w1 (R.out.grow hB1) HS.out).mono ?_; rintro e w2 ⟨rfl, hB2⟩; rw [hbk]) | (fail))
    go_ret
    exact ⟨_, rfl, by rw [hz0.out]; exact own_zero _ _ _ _ _, hB1.trans (hB2.mono hz1)⟩
  | true =>
    have hz0 : Hid (Z = (dueL b now).map (·.N)) := by unfold Hid; rw [← hZ.out]; unfold duR; rw [if_pos hbk]
    have hb20 : b.length ≤ 20 := (bookB_iff.1 hbk).2.2
    have mb : Hid True := trivial
    go_enter Try.func31, Try.ntmps31
    go_wp2_with (first | (clear ma; refine wpList_build0i rfl 24 _ iS rfl Try.underlying24 hiS ?_; intro b1 w1 hB1; have hz1 := hB1.size) | (go_at_call 36; refine (specBookOk_any b _ w1 (R.out.grow hB1) HS.out).mono ?_; rintro e w2 ⟨rfl, hB2⟩; rw [hbk]; have hB12 := hB1.trans (hB2.mono hz1)) | (clear mb; refine wpList_build0i rfl 47 _ iT rfl Try.underlying47 hiT ?_; intro b3 w3 hB3; have S0 : Hid (Sq w b3 0 0 [] w3) := ⟨own_zero _ _ _ _ _, hB12.trans (hB3.mono hB12.size)⟩) | (fail))
    clear hB12 hB1 hB2 hB3 hz1
    go_loopw [6, 7] (fun dv iv wr => ∃ (i : Nat) (D : List It) (g n k : Nat), dv = .slice (some ⟨g, 0, none⟩) n k ∧ iv = .int .i64 i ∧ i ≤ b.length ∧ Hid (dueF ((b.take i).filter fun z => overB z now) = D) ∧ Hid (Sq w g n k D wr) ∧ D.length ≤ i) (fun _ iv _ => b.length - (intOf iv).toNat)
    case atStart => exact ⟨0, [], b3, 0, 0, rfl, rfl, by omega, rfl, S0, by simp⟩
    case round =>
      clear S0
      obtain ⟨i, D, g, n, k, rfl, rfl, hi, HF, SD, hDi⟩ := hrel
      by_cases hlt : i < b.length
      · have hlt' : (i : Int) < (b.length : Int) := by omega
        obtain ⟨bk, off, rfl, hbk2, hrng⟩ := rd_item (E := encIt) rfl rfl R.out i hlt
        obtain ⟨⟨N, F, B, C, U⟩, hx⟩ := hid_ex (b[i])
        rw [hx.out] at hrng
        have HR : Hid (∀ w', Below w.heap.size w w' → w'.cell? ⟨bk, off + i * 5, none⟩ = some (.string N) ∧ w'.cell? ⟨bk, off + i * 5 + 1, none⟩ = some (.int .i64 F) ∧ w'.cell? ⟨bk, off + i * 5 + 2, none⟩ = some (.string B) ∧ w'.cell? ⟨bk, off + i * 5 + 3, none⟩ = some (.int .i64 C) ∧ w'.cell? ⟨bk, off + i * 5 + 4, none⟩ = some (.int .i64 U)) := fun w' hB => by
          obtain ⟨p0, p1, p2, p3, p4⟩ := rng5 hrng
          exact ⟨by rw [hB.cell (by exact hbk2)]; exact p0, by rw [hB.cell (by exact hbk2)]; exact p1, by rw [hB.cell (by exact hbk2)]; exact p2, by rw [hB.cell (by exact hbk2)]; exact p3, by rw [hB.cell (by exact hbk2)]; exact p4⟩
        obtain ⟨q0, q1, q2, q3, q4⟩ := HR.out wr SD.out.low
        obtain ⟨y, hy⟩ := hid_ex (overB ⟨N, F, B, C, U⟩ now)
        have hf := dueF_take hlt now
        rw [hx.out, hy.out, HF.out] at hf
        have HF2 : Hid _ := hf
        clear hf hrng
        cases y with
        | false =>
          go_wp2_with (first | (go_at_call 37; refine (specOverAt_any N B F C U now false hy _).mono ?_; rintro e w5 ⟨rfl, hB5⟩) | (fail))
          go_roundw
          case rel => exact ⟨i + 1, D, g, n, k, rfl, by go_num, by omega, HF2.out.trans (if_neg (by decide)), SD.out.grow hB5, by omega⟩
          case measure => simp [intOf]; omega
        | true =>
          have HF3 : Hid (dueF ((b.take (i + 1)).filter fun z => overB z now) = insU D ⟨N, F, B, C, U⟩) := HF2.out.trans (if_pos rfl)
          clear HF2
          go_wp2_with (first | (go_at_call 37; refine (specOverAt_any N B F C U now true hy _).mono ?_; rintro e w5 ⟨rfl, hB5⟩; have S5 : Hid (Sq w g n k D w5) := SD.out.grow hB5) | (fail))
          clear q0 q1 q2 q3 q4 SD hB5
          have hn : Hid (n = D.length) := S5.out.o.rd.cap.1
          have hnk : n ≤ k := S5.out.o.rd.cap.2.1
          go_loopw [8] (fun kv wq => ∃ m : Nat, kv = .int .i64 m ∧ m ≤ n ∧ Hid (∀ j (h : j < D.length), j < m → D[j].U ≤ U) ∧ Hid (Sq w g n k D wq)) (fun kv _ => n - (intOf kv).toNat)
          case atStart => exact ⟨0, rfl, by omega, fun j h hj => by omega, S5⟩
          case round =>
            obtain ⟨m, rfl, hm, HM, S6⟩ := hrel
            obtain ⟨-, -, -, -, q4⟩ := HR.out wr S6.out.low
            by_cases hmn : m < n
            · have hmn' : (m : Int) < (n : Int) := by omega
              have hmD : m < D.length := by have := hn.out; omega
              obtain ⟨g2, e2, -, d4, -⟩ := S6.out.o.cell m 4 hmD (by decide)
              cases e2
              have d4 : wr.cell? ⟨g, m * 5 + 4, none⟩ = some (.int .i64 D[m].U) := d4
              obtain ⟨u, hu⟩ := hid_ex (D[m].U)
              rw [hu.out] at d4
              have S1 : wr.drew.cell? ⟨g, m * 5 + 4, none⟩ = some (.int .i64 u) ∧ wr.drew.cell? ⟨bk, off + i * 5 + 4, none⟩ = some (.int .i64 U) := ⟨d4, q4⟩
              go_upto_region 10 with (fail)
              go_region_held3 (fun w' => w'.cell? ⟨g, m * 5 + 4, none⟩ = some (.int .i64 u) ∧ w'.cell? ⟨bk, off + i * 5 + 4, none⟩ = some (.int .i64 U)) (first | with_reducible assumption | with_reducible exact S1 | (fail)) (fail)
              have S7 : Hid (Sq w g n k D wr.drew) := S6.out.grow (Below.refl _ _).drew
              by_cases huU : u ≤ U
              · go_wp2
                go_roundw
                case rel => exact ⟨m + 1, by go_num, by omega, fun j h hj => by
                  by_cases e : j = m
                  · subst e; rw [hu.out]; exact huU
                  · exact HM.out j h (by omega), S7⟩
                case measure => simp [intOf]; omega
              · have HE : Hid (∀ h : m < D.length, ¬ D[m].U ≤ U) := fun _ => by rw [hu.out]; exact huU
                clear d4 q4 S1 S6
                have hdl : Hid (insU D ⟨N, F, B, C, U⟩ = D.take m ++ [⟨N, F, B, C, U⟩] ++ D.drop m) := ins_at _ D m (by have := hn.out; omega) HM.out HE.out
                have hml : m ≤ D.length := by have := hn.out; omega
                have RT : Hid (Rd encIt wr.drew (.slice (some ⟨g, 0, none⟩) m k) (D.take m)) := S7.out.o.rd.take m hml
                have hd20 : D.length ≤ 20 := by omega
                have mc : Hid True := trivial
                have hmk : (m : Int) ≤ (k : Int) := by omega
                have hmn3 : (m : Int) ≤ (n : Int) := by omega
                rcases S7.out.o.rd.rest m hml with ⟨hmc, RD⟩ | ⟨hmc0, hnm0, -, RD⟩
                · have hmc' : (m : Int) < (k : Int) := by omega
                  have RD2 : Hid (Rd encIt wr.drew (.slice (some ⟨g, m * 5, none⟩) (n - m) (k - m)) (D.drop m)) := (by have h := RD; rw [Nat.zero_add] at h; exact h)
                  clear RD
                  go_upto_region 13 with (first | (clear mc; refine wpList_build0i rfl 47 _ iT rfl Try.underlying47 hiT ?_; intro b8 w8 hB8; have hz8 := hB8.size) | (at_builtin; refine wpList_append_g infoIt rfl _ _ 47 rfl Try.underlying47 w8.heap.size _ _ [] rfl (own_zero _ _ _ 0 _) (Nat.le_refl _) _ (D.drop m) rfl (RD2.out.grow hB8) (by simp; omega) ?_; intro v9 w9 o9 hT9; rw [List.nil_append] at o9; obtain ⟨a9, n9, k9, rfl⟩ := o9.slice; have hB9 : Below wr.drew.heap.size wr.drew w9 := hB8.trans (hT9.low.mono hz8)) | (fail))
                  have hz9 : w.heap.size ≤ w9.heap.size := Nat.le_trans S7.out.low.size hB9.size
                  have hlow9 : Below w.heap.size w w9 := S7.out.low.trans (hB9.mono S7.out.low.size)
                  have RT9 : Hid (Rd encIt w9 (.slice (some ⟨g, 0, none⟩) m k) (D.take m)) := RT.out.grow hB9
                  have hC : Below w9.heap.size w9 w9.drew := (Below.refl _ _).drew
                  (try simp only [Act.put])
                  (try simp only [List.setIfInBounds_toArray, List.set_cons_zero, List.set_cons_succ])
                  refine wp_region_held_drew (S := fun w' => w'.cell? ⟨bk, off + i * 5, none⟩ = some (.string N) ∧ w'.cell? ⟨bk, off + i * 5 + 1, none⟩ = some (.int .i64 F) ∧ w'.cell? ⟨bk, off + i * 5 + 2, none⟩ = some (.string B) ∧ w'.cell? ⟨bk, off + i * 5 + 3, none⟩ = some (.int .i64 C) ∧ w'.cell? ⟨bk, off + i * 5 + 4, none⟩ = some (.int .i64 U)) (by kernel_rfl) (HR.out _ (hlow9.trans (hC.mono hz9))) (fun hHeld => ?_)
                  refine wpAnyH_take (i := 1) (oi := { dst := some 55, op := Op.move (Operand.tmp 6), type := 47, pos := "l14_age.go:20", after := #[], guard := none }) (v := ?_) rfl (by kernel_rfl) (by kernel_rfl) (by kernel_rfl) (fun _ _ _ h => h) (Or.inl ⟨by rfl, ?_⟩) (by assumption) ?_
                  rotate_left 1
                  · intro w' hSw; (try dsimp only at hSw); go_simp; (try with_reducible rfl)
                  (try simp only [Act.put, List.setIfInBounds_toArray, List.set_cons_zero, List.set_cons_succ])
                  refine wpAnyH_take (i := 2) (oi := { dst := some 56, op := Op.move (Operand.tmp 8), type := 3, pos := "l14_age.go:20", after := #[], guard := none }) (v := ?_) rfl (by kernel_rfl) (by kernel_rfl) (by kernel_rfl) (fun _ _ _ h => h) (Or.inl ⟨by rfl, ?_⟩) (by assumption) ?_
                  rotate_left 1
                  · intro w' hSw; (try dsimp only at hSw); go_simp; (try with_reducible rfl)
                  (try simp only [Act.put, List.setIfInBounds_toArray, List.set_cons_zero, List.set_cons_succ])
                  refine wpAnyH_take (i := 3) (oi := { dst := some 57, op := Op.slice 47 (Operand.tmp 55) none (some (Operand.tmp 56)) none, type := 47, pos := "l14_age.go:20", after := #[{ on := 1, ground := Ground.data }, { on := 2, ground := Ground.data }], guard := none }) (v := ?_) rfl (by kernel_rfl) (by kernel_rfl) (by kernel_rfl) (fun _ _ _ h => h) (Or.inl ⟨by rfl, ?_⟩) (by assumption) ?_
                  rotate_left 1
                  · intro w' hSw; (try dsimp only at hSw); go_simp; (try with_reducible rfl)
                  (try simp only [Act.put, List.setIfInBounds_toArray, List.set_cons_zero, List.set_cons_succ])
                  refine wpAnyH_take (i := 5) (oi := { dst := some 59, op := Op.move (Operand.tmp 0), type := 47, pos := "l14_age.go:20", after := #[], guard := none }) (v := ?_) rfl (by kernel_rfl) (by kernel_rfl) (by kernel_rfl) (fun _ _ _ h => h) (Or.inl ⟨by rfl, ?_⟩) (by assumption) ?_
                  rotate_left 1
                  · intro w' hSw; (try dsimp only at hSw); go_simp; (try with_reducible rfl)
                  (try simp only [Act.put, List.setIfInBounds_toArray, List.set_cons_zero, List.set_cons_succ])
                  refine wpAnyH_take (i := 6) (oi := { dst := some 60, op := Op.move (Operand.tmp 7), type := 3, pos := "l14_age.go:20", after := #[], guard := none }) (v := ?_) rfl (by kernel_rfl) (by kernel_rfl) (by kernel_rfl) (fun _ _ _ h => h) (Or.inl ⟨by rfl, ?_⟩) (by assumption) ?_
                  rotate_left 1
                  · intro w' hSw; (try dsimp only at hSw); go_simp; (try with_reducible rfl)
                  (try simp only [Act.put, List.setIfInBounds_toArray, List.set_cons_zero, List.set_cons_succ])
                  refine wpAnyH_take (i := 7) (oi := { dst := some 61, op := Op.indexAddr 47 (Operand.tmp 59) (Operand.tmp 60), type := 0, pos := "l14_age.go:20", after := #[{ on := 5, ground := Ground.data }, { on := 6, ground := Ground.data }], guard := none }) (v := ?_) rfl (by kernel_rfl) (by kernel_rfl) (by kernel_rfl) (fun _ _ _ h => h) (Or.inl ⟨by rfl, ?_⟩) (by assumption) ?_
                  rotate_left 1
                  · intro w' hSw; (try dsimp only at hSw); go_simp; (try with_reducible rfl)
                  (try simp only [Act.put, List.setIfInBounds_toArray, List.set_cons_zero, List.set_cons_succ])
                  refine wpAnyH_take (i := 8) (oi := { dst := some 62, op := Op.load 53 (Operand.tmp 61), type := 53, pos := "l14_age.go:20", after := #[{ on := 7, ground := Ground.data }], guard := none }) (v := ?_) rfl (by kernel_rfl) (by kernel_rfl) (by kernel_rfl) (fun _ _ _ h => h) (Or.inl ⟨by rfl, ?_⟩) (by assumption) ?_
                  rotate_left 1
                  · intro w' hSw; (try dsimp only at hSw); go_simp; (try with_reducible rfl)
                  (try simp only [Act.put, List.setIfInBounds_toArray, List.set_cons_zero, List.set_cons_succ])
                  refine wpAnyH_take (i := 11) (oi := { dst := some 65, op := Op.move (Operand.tmp 9), type := 47, pos := "l14_age.go:20", after := #[], guard := none }) (v := ?_) rfl (by kernel_rfl) (by kernel_rfl) (by kernel_rfl) (fun _ _ _ h => h) (Or.inl ⟨by rfl, ?_⟩) (by assumption) ?_
                  rotate_left 1
                  · intro w' hSw; (try dsimp only at hSw); go_simp; (try with_reducible rfl)
                  (try simp only [Act.put, List.setIfInBounds_toArray, List.set_cons_zero, List.set_cons_succ])
                  refine wpAnyH_ready (rs := [0, 9]) (by kernel_rfl) (by simp) ?_
                  refine AllReadyH.cons (o := { dst := some 54, op := Op.buildSlice 47 0 #[], type := 47, pos := "l14_age.go:20", after := #[], guard := none }) rfl (fun KC hKC => ?_) (AllReadyH.cons (o := { dst := some 63, op := Op.buildSlice 47 1 #[(0, Operand.tmp 62)], type := 47, pos := "l14_age.go:20", after := #[{ on := 8, ground := Ground.data }], guard := none }) rfl (fun KC hKC => ?_) AllReadyH.nil)
                  · refine step_build0i rfl 47 _ iT rfl Try.underlying47 hiT ?_
                    intro b0 wr0 hBr0
                    replace hC := hC.trans (hBr0.mono hC.size)
                    (try replace rd9 := rd9.grow hBr0)
                    refine hKC.out _ _ (HR.out _ (hlow9.trans (hC.mono hz9))) (fun hHeld2 => ?_)
                    clear hKC KC hHeld
                    have hHeld := hHeld2
                    clear hHeld2
                    (try simp only [Act.put, List.setIfInBounds_toArray, List.set_cons_zero, List.set_cons_succ])
                    refine wpAnyH_ready (rs := [4, 9]) (by kernel_rfl) (by simp) ?_
                    refine AllReadyH.cons (o := { dst := some 58, op := Op.call { callee := Callee.builtin Builtin.append, args := #[Operand.tmp 54, Operand.tmp 57], argTypes := #[47, 47] }, type := 47, pos := "l14_age.go:20", after := #[{ on := 0, ground := Ground.data }, { on := 3, ground := Ground.data }], guard := none }) rfl (fun KC hKC => ?_) (AllReadyH.cons (o := { dst := some 63, op := Op.buildSlice 47 1 #[(0, Operand.tmp 62)], type := 47, pos := "l14_age.go:20", after := #[{ on := 8, ground := Ground.data }], guard := none }) rfl (fun KC hKC => ?_) AllReadyH.nil)
                    · refine step_append_g infoIt rfl _ _ 47 rfl Try.underlying47 wr0.heap.size _ _ [] rfl (own_zero _ _ _ 0 _) (Nat.le_refl _) _ (D.take m) rfl (RT9.out.grow hC) (by simp; omega) ?_
                      intro v4 wr4 o4 hT4
                      rw [List.nil_append] at o4
                      obtain ⟨a4, n4, k4, rfl⟩ := o4.slice
                      have hBr4 := hT4.low
                      have hl4 : w9.heap.size ≤ wr0.heap.size := hC.size
                      replace hC := hC.trans (hBr4.mono hC.size)
                      (try replace rd9 := rd9.grow hBr4)
                      replace o4 := o4.wide hl4 (Nat.le_refl _)
                      refine hKC.out _ _ (HR.out _ (hlow9.trans (hC.mono hz9))) (fun hHeld2 => ?_)
                      clear hKC KC hHeld
                      have hHeld := hHeld2
                      clear hHeld2
                      (try simp only [Act.put, List.setIfInBounds_toArray, List.set_cons_zero, List.set_cons_succ])
                      refine wpAnyH_ready (rs := [9]) (by kernel_rfl) (by simp) ?_
                      refine AllReadyH.cons (o := { dst := some 63, op := Op.buildSlice 47 1 #[(0, Operand.tmp 62)], type := 47, pos := "l14_age.go:20", after := #[{ on := 8, ground := Ground.data }], guard := none }) rfl (fun KC hKC => ?_) AllReadyH.nil
                      go_simp
                      have hBr9 := bAi wr4 (.cells #[.string N, .int .i64 F, .string B, .int .i64 C, .int .i64 U] 53)
                      have rd9 := rd_new (E := encIt) wr4 ⟨N, F, B, C, U⟩ #[.string N, .int .i64 F, .string B, .int .i64 C, .int .i64 U] rfl
                      replace hC := hC.trans (hBr9.mono hC.size)
                      (try replace o4 := (o4.grow hBr9).wide (Nat.le_refl _) hBr9.size)
                      refine hKC.out _ _ (HR.out _ (hlow9.trans (hC.mono hz9))) (fun hHeld2 => ?_)
                      clear hKC KC hHeld
                      have hHeld := hHeld2
                      clear hHeld2
                      (try simp only [Act.put, List.setIfInBounds_toArray, List.set_cons_zero, List.set_cons_succ])
                      refine wpAnyH_ready (rs := [10]) (by kernel_rfl) (by simp) ?_
                      refine AllReadyH.cons (o := { dst := some 64, op := Op.call { callee := Callee.builtin Builtin.append, args := #[Operand.tmp 58, Operand.tmp 63], argTypes := #[47, 47] }, type := 47, pos := "l14_age.go:20", after := #[{ on := 4, ground := Ground.data }, { on := 9, ground := Ground.data }, { on := 4, ground := Ground.chain }], guard := none }) rfl (fun KC hKC => ?_) AllReadyH.nil
                      refine step_append_g infoIt rfl _ _ 47 rfl Try.underlying47 w9.heap.size _ _ (D.take m) rfl o4 hC.size _ [⟨N, F, B, C, U⟩] rfl rd9 (by simp; omega) ?_
                      intro v10 wr10 o10 hT10
                      obtain ⟨a10, n10, k10, rfl⟩ := o10.slice
                      replace hC := hC.trans hT10.low
                      refine hKC.out _ _ (HR.out _ (hlow9.trans (hC.mono hz9))) (fun hHeld2 => ?_)
                      clear hKC KC hHeld
                      have hHeld := hHeld2
                      clear hHeld2
                      (try simp only [Act.put, List.setIfInBounds_toArray, List.set_cons_zero, List.set_cons_succ])
                      refine wpAnyH_ready (rs := [12]) (by kernel_rfl) (by simp) ?_
                      refine AllReadyH.cons (o := { dst := some 66, op := Op.call { callee := Callee.builtin Builtin.append, args := #[Operand.tmp 64, Operand.tmp 65], argTypes := #[47, 47] }, type := 47, pos := "l14_age.go:20", after := #[{ on := 10, ground := Ground.data }, { on := 11, ground := Ground.data }, { on := 10, ground := Ground.chain }], guard := none }) rfl (fun KC hKC => ?_) AllReadyH.nil
                      refine step_append_g infoIt rfl _ _ 47 rfl Try.underlying47 w9.heap.size _ _ (D.take m ++ [⟨N, F, B, C, U⟩]) rfl o10 hC.size _ (D.drop m) rfl (o9.rd.grow hC) (by simp; omega) ?_
                      intro v12 wr12 o12 hT12
                      obtain ⟨g12, k12, e12, hg12, -, -⟩ := o12.form (by simp; omega)
                      obtain ⟨n12, hn12⟩ := hid_ex ((D.take m ++ [(⟨N, F, B, C, U⟩ : It)] ++ D.drop m).length)
                      rw [hn12.out] at e12
                      replace hC := hC.trans hT12.low
                      subst e12
                      refine hKC.out _ _ (HR.out _ (hlow9.trans (hC.mono hz9))) (fun hHeld2 => ?_)
                      clear hKC KC hHeld
                      have hHeld := hHeld2
                      clear hHeld2
                      (try simp only [Act.put, List.setIfInBounds_toArray, List.set_cons_zero, List.set_cons_succ])
                      refine wpAnyH_take (i := 13) (oi := { dst := some 6, op := Op.assign (Operand.tmp 66), type := 47, pos := "l14_age.go:20", after := #[{ on := 12, ground := Ground.data }, { on := 12, ground := Ground.chain }, { on := 0, ground := Ground.phase }, { on := 1, ground := Ground.phase }, { on := 2, ground := Ground.phase }, { on := 3, ground := Ground.phase }, { on := 4, ground := Ground.phase }, { on := 5, ground := Ground.phase }, { on := 6, ground := Ground.phase }, { on := 7, ground := Ground.phase }, { on := 8, ground := Ground.phase }, { on := 9, ground := Ground.phase }, { on := 10, ground := Ground.phase }, { on := 11, ground := Ground.phase }, { on := 12, ground := Ground.phase }], guard := none }) (v := ?_) rfl (by kernel_rfl) (by kernel_rfl) (by kernel_rfl) (fun _ _ _ h => h) (Or.inl ⟨by rfl, ?_⟩) (by assumption) ?_
                      rotate_left 1
                      · intro w' hSw; (try dsimp only at hSw); go_simp; (try with_reducible rfl)
                      (try simp only [Act.put, List.setIfInBounds_toArray, List.set_cons_zero, List.set_cons_succ])
                      refine wpAnyH_done (by kernel_rfl) ?_ _
                      go_wp2
                      go_roundw
                      case rel => exact ⟨i + 1, insU D ⟨N, F, B, C, U⟩, g12, _, k12, rfl, by go_num, by omega, HF3, ⟨by rw [hdl.out]; exact o12.wide (by omega) (Nat.le_refl _), hlow9.trans (hC.mono hz9)⟩, by rw [ins_len]; omega⟩
                      case measure => simp [intOf]; omega
                    go_simp
                    have hBr9 := bAi wr0 (.cells #[.string N, .int .i64 F, .string B, .int .i64 C, .int .i64 U] 53)
                    have rd9 := rd_new (E := encIt) wr0 ⟨N, F, B, C, U⟩ #[.string N, .int .i64 F, .string B, .int .i64 C, .int .i64 U] rfl
                    replace hC := hC.trans (hBr9.mono hC.size)
                    (try replace o4 := (o4.grow hBr9).wide (Nat.le_refl _) hBr9.size)
                    refine hKC.out _ _ (HR.out _ (hlow9.trans (hC.mono hz9))) (fun hHeld2 => ?_)
                    clear hKC KC hHeld
                    have hHeld := hHeld2
                    clear hHeld2
                    (try simp only [Act.put, List.setIfInBounds_toArray, List.set_cons_zero, List.set_cons_succ])
                    refine wpAnyH_ready (rs := [4]) (by kernel_rfl) (by simp) ?_
                    refine AllReadyH.cons (o := { dst := some 58, op := Op.call { callee := Callee.builtin Builtin.append, args := #[Operand.tmp 54, Operand.tmp 57], argTypes := #[47, 47] }, type := 47, pos := "l14_age.go:20", after := #[{ on := 0, ground := Ground.data }, { on := 3, ground := Ground.data }], guard := none }) rfl (fun KC hKC => ?_) AllReadyH.nil
                    refine step_append_g infoIt rfl _ _ 47 rfl Try.underlying47 (wr0.alloc (.cells #[.string N, .int .i64 F, .string B, .int .i64 C, .int .i64 U] 53)).heap.size _ _ [] rfl (own_zero _ _ _ 0 _) (Nat.le_refl _) _ (D.take m) rfl (RT9.out.grow hC) (by simp; omega) ?_
                    intro v4 wr4 o4 hT4
                    rw [List.nil_append] at o4
                    obtain ⟨a4, n4, k4, rfl⟩ := o4.slice
                    have hBr4 := hT4.low
                    have hl4 : w9.heap.size ≤ (wr0.alloc (.cells #[.string N, .int .i64 F, .string B, .int .i64 C, .int .i64 U] 53)).heap.size := hC.size
                    replace hC := hC.trans (hBr4.mono hC.size)
                    (try replace rd9 := rd9.grow hBr4)
                    replace o4 := o4.wide hl4 (Nat.le_refl _)
                    refine hKC.out _ _ (HR.out _ (hlow9.trans (hC.mono hz9))) (fun hHeld2 => ?_)
                    clear hKC KC hHeld
                    have hHeld := hHeld2
                    clear hHeld2
                    (try simp only [Act.put, List.setIfInBounds_toArray, List.set_cons_zero, List.set_cons_succ])
                    refine wpAnyH_ready (rs := [10]) (by kernel_rfl) (by simp) ?_
                    refine AllReadyH.cons (o := { dst := some 64, op := Op.call { callee := Callee.builtin Builtin.append, args := #[Operand.tmp 58, Operand.tmp 63], argTypes := #[47, 47] }, type := 47, pos := "l14_age.go:20", after := #[{ on := 4, ground := Ground.data }, { on := 9, ground := Ground.data }, { on := 4, ground := Ground.chain }], guard := none }) rfl (fun KC hKC => ?_) AllReadyH.nil
                    refine step_append_g infoIt rfl _ _ 47 rfl Try.underlying47 w9.heap.size _ _ (D.take m) rfl o4 hC.size _ [⟨N, F, B, C, U⟩] rfl rd9 (by simp; omega) ?_
                    intro v10 wr10 o10 hT10
                    obtain ⟨a10, n10, k10, rfl⟩ := o10.slice
                    replace hC := hC.trans hT10.low
                    refine hKC.out _ _ (HR.out _ (hlow9.trans (hC.mono hz9))) (fun hHeld2 => ?_)
                    clear hKC KC hHeld
                    have hHeld := hHeld2
                    clear hHeld2
                    (try simp only [Act.put, List.setIfInBounds_toArray, List.set_cons_zero, List.set_cons_succ])
                    refine wpAnyH_ready (rs := [12]) (by kernel_rfl) (by simp) ?_
                    refine AllReadyH.cons (o := { dst := some 66, op := Op.call { callee := Callee.builtin Builtin.append, args := #[Operand.tmp 64, Operand.tmp 65], argTypes := #[47, 47] }, type := 47, pos := "l14_age.go:20", after := #[{ on := 10, ground := Ground.data }, { on := 11, ground := Ground.data }, { on := 10, ground := Ground.chain }], guard := none }) rfl (fun KC hKC => ?_) AllReadyH.nil
                    refine step_append_g infoIt rfl _ _ 47 rfl Try.underlying47 w9.heap.size _ _ (D.take m ++ [⟨N, F, B, C, U⟩]) rfl o10 hC.size _ (D.drop m) rfl (o9.rd.grow hC) (by simp; omega) ?_
                    intro v12 wr12 o12 hT12
                    obtain ⟨g12, k12, e12, hg12, -, -⟩ := o12.form (by simp; omega)
                    obtain ⟨n12, hn12⟩ := hid_ex ((D.take m ++ [(⟨N, F, B, C, U⟩ : It)] ++ D.drop m).length)
                    rw [hn12.out] at e12
                    replace hC := hC.trans hT12.low
                    subst e12
                    refine hKC.out _ _ (HR.out _ (hlow9.trans (hC.mono hz9))) (fun hHeld2 => ?_)
                    clear hKC KC hHeld
                    have hHeld := hHeld2
                    clear hHeld2
                    (try simp only [Act.put, List.setIfInBounds_toArray, List.set_cons_zero, List.set_cons_succ])
                    refine wpAnyH_take (i := 13) (oi := { dst := some 6, op := Op.assign (Operand.tmp 66), type := 47, pos := "l14_age.go:20", after := #[{ on := 12, ground := Ground.data }, { on := 12, ground := Ground.chain }, { on := 0, ground := Ground.phase }, { on := 1, ground := Ground.phase }, { on := 2, ground := Ground.phase }, { on := 3, ground := Ground.phase }, { on := 4, ground := Ground.phase }, { on := 5, ground := Ground.phase }, { on := 6, ground := Ground.phase }, { on := 7, ground := Ground.phase }, { on := 8, ground := Ground.phase }, { on := 9, ground := Ground.phase }, { on := 10, ground := Ground.phase }, { on := 11, ground := Ground.phase }, { on := 12, ground := Ground.phase }], guard := none }) (v := ?_) rfl (by kernel_rfl) (by kernel_rfl) (by kernel_rfl) (fun _ _ _ h => h) (Or.inl ⟨by rfl, ?_⟩) (by assumption) ?_
                    rotate_left 1
                    · intro w' hSw; (try dsimp only at hSw); go_simp; (try with_reducible rfl)
                    (try simp only [Act.put, List.setIfInBounds_toArray, List.set_cons_zero, List.set_cons_succ])
                    refine wpAnyH_done (by kernel_rfl) ?_ _
                    go_wp2
                    go_roundw
                    case rel => exact ⟨i + 1, insU D ⟨N, F, B, C, U⟩, g12, _, k12, rfl, by go_num, by omega, HF3, ⟨by rw [hdl.out]; exact o12.wide (by omega) (Nat.le_refl _), hlow9.trans (hC.mono hz9)⟩, by rw [ins_len]; omega⟩
                    case measure => simp [intOf]; omega
                  go_simp
                  have hBr9 := bAi w9.drew (.cells #[.string N, .int .i64 F, .string B, .int .i64 C, .int .i64 U] 53)
                  have rd9 := rd_new (E := encIt) w9.drew ⟨N, F, B, C, U⟩ #[.string N, .int .i64 F, .string B, .int .i64 C, .int .i64 U] rfl
                  replace hC := hC.trans (hBr9.mono hC.size)
                  (try replace o4 := (o4.grow hBr9).wide (Nat.le_refl _) hBr9.size)
                  refine hKC.out _ _ (HR.out _ (hlow9.trans (hC.mono hz9))) (fun hHeld2 => ?_)
                  clear hKC KC hHeld
                  have hHeld := hHeld2
                  clear hHeld2
                  (try simp only [Act.put, List.setIfInBounds_toArray, List.set_cons_zero, List.set_cons_succ])
                  refine wpAnyH_ready (rs := [0]) (by kernel_rfl) (by simp) ?_
                  refine AllReadyH.cons (o := { dst := some 54, op := Op.buildSlice 47 0 #[], type := 47, pos := "l14_age.go:20", after := #[], guard := none }) rfl (fun KC hKC => ?_) AllReadyH.nil
                  refine step_build0i rfl 47 _ iT rfl Try.underlying47 hiT ?_
                  intro b0 wr0 hBr0
                  replace hC := hC.trans (hBr0.mono hC.size)
                  (try replace rd9 := rd9.grow hBr0)
                  refine hKC.out _ _ (HR.out _ (hlow9.trans (hC.mono hz9))) (fun hHeld2 => ?_)
                  clear hKC KC hHeld
                  have hHeld := hHeld2
                  clear hHeld2
                  (try simp only [Act.put, List.setIfInBounds_toArray, List.set_cons_zero, List.set_cons_succ])
                  refine wpAnyH_ready (rs := [4]) (by kernel_rfl) (by simp) ?_
                  refine AllReadyH.cons (o := { dst := some 58, op := Op.call { callee := Callee.builtin Builtin.append, args := #[Operand.tmp 54, Operand.tmp 57], argTypes := #[47, 47] }, type := 47, pos := "l14_age.go:20", after := #[{ on := 0, ground := Ground.data }, { on := 3, ground := Ground.data }], guard := none }) rfl (fun KC hKC => ?_) AllReadyH.nil
                  refine step_append_g infoIt rfl _ _ 47 rfl Try.underlying47 wr0.heap.size _ _ [] rfl (own_zero _ _ _ 0 _) (Nat.le_refl _) _ (D.take m) rfl (RT9.out.grow hC) (by simp; omega) ?_
                  intro v4 wr4 o4 hT4
                  rw [List.nil_append] at o4
                  obtain ⟨a4, n4, k4, rfl⟩ := o4.slice
                  have hBr4 := hT4.low
                  have hl4 : w9.heap.size ≤ wr0.heap.size := hC.size
                  replace hC := hC.trans (hBr4.mono hC.size)
                  (try replace rd9 := rd9.grow hBr4)
                  replace o4 := o4.wide hl4 (Nat.le_refl _)
                  refine hKC.out _ _ (HR.out _ (hlow9.trans (hC.mono hz9))) (fun hHeld2 => ?_)
                  clear hKC KC hHeld
                  have hHeld := hHeld2
                  clear hHeld2
                  (try simp only [Act.put, List.setIfInBounds_toArray, List.set_cons_zero, List.set_cons_succ])
                  refine wpAnyH_ready (rs := [10]) (by kernel_rfl) (by simp) ?_
                  refine AllReadyH.cons (o := { dst := some 64, op := Op.call { callee := Callee.builtin Builtin.append, args := #[Operand.tmp 58, Operand.tmp 63], argTypes := #[47, 47] }, type := 47, pos := "l14_age.go:20", after := #[{ on := 4, ground := Ground.data }, { on := 9, ground := Ground.data }, { on := 4, ground := Ground.chain }], guard := none }) rfl (fun KC hKC => ?_) AllReadyH.nil
                  refine step_append_g infoIt rfl _ _ 47 rfl Try.underlying47 w9.heap.size _ _ (D.take m) rfl o4 hC.size _ [⟨N, F, B, C, U⟩] rfl rd9 (by simp; omega) ?_
                  intro v10 wr10 o10 hT10
                  obtain ⟨a10, n10, k10, rfl⟩ := o10.slice
                  replace hC := hC.trans hT10.low
                  refine hKC.out _ _ (HR.out _ (hlow9.trans (hC.mono hz9))) (fun hHeld2 => ?_)
                  clear hKC KC hHeld
                  have hHeld := hHeld2
                  clear hHeld2
                  (try simp only [Act.put, List.setIfInBounds_toArray, List.set_cons_zero, List.set_cons_succ])
                  refine wpAnyH_ready (rs := [12]) (by kernel_rfl) (by simp) ?_
                  refine AllReadyH.cons (o := { dst := some 66, op := Op.call { callee := Callee.builtin Builtin.append, args := #[Operand.tmp 64, Operand.tmp 65], argTypes := #[47, 47] }, type := 47, pos := "l14_age.go:20", after := #[{ on := 10, ground := Ground.data }, { on := 11, ground := Ground.data }, { on := 10, ground := Ground.chain }], guard := none }) rfl (fun KC hKC => ?_) AllReadyH.nil
                  refine step_append_g infoIt rfl _ _ 47 rfl Try.underlying47 w9.heap.size _ _ (D.take m ++ [⟨N, F, B, C, U⟩]) rfl o10 hC.size _ (D.drop m) rfl (o9.rd.grow hC) (by simp; omega) ?_
                  intro v12 wr12 o12 hT12
                  obtain ⟨g12, k12, e12, hg12, -, -⟩ := o12.form (by simp; omega)
                  obtain ⟨n12, hn12⟩ := hid_ex ((D.take m ++ [(⟨N, F, B, C, U⟩ : It)] ++ D.drop m).length)
                  rw [hn12.out] at e12
                  replace hC := hC.trans hT12.low
                  subst e12
                  refine hKC.out _ _ (HR.out _ (hlow9.trans (hC.mono hz9))) (fun hHeld2 => ?_)
                  clear hKC KC hHeld
                  have hHeld := hHeld2
                  clear hHeld2
                  (try simp only [Act.put, List.setIfInBounds_toArray, List.set_cons_zero, List.set_cons_succ])
                  refine wpAnyH_take (i := 13) (oi := { dst := some 6, op := Op.assign (Operand.tmp 66), type := 47, pos := "l14_age.go:20", after := #[{ on := 12, ground := Ground.data }, { on := 12, ground := Ground.chain }, { on := 0, ground := Ground.phase }, { on := 1, ground := Ground.phase }, { on := 2, ground := Ground.phase }, { on := 3, ground := Ground.phase }, { on := 4, ground := Ground.phase }, { on := 5, ground := Ground.phase }, { on := 6, ground := Ground.phase }, { on := 7, ground := Ground.phase }, { on := 8, ground := Ground.phase }, { on := 9, ground := Ground.phase }, { on := 10, ground := Ground.phase }, { on := 11, ground := Ground.phase }, { on := 12, ground := Ground.phase }], guard := none }) (v := ?_) rfl (by kernel_rfl) (by kernel_rfl) (by kernel_rfl) (fun _ _ _ h => h) (Or.inl ⟨by rfl, ?_⟩) (by assumption) ?_
                  rotate_left 1
                  · intro w' hSw; (try dsimp only at hSw); go_simp; (try with_reducible rfl)
                  (try simp only [Act.put, List.setIfInBounds_toArray, List.set_cons_zero, List.set_cons_succ])
                  refine wpAnyH_done (by kernel_rfl) ?_ _
                  go_wp2
                  go_roundw
                  case rel => exact ⟨i + 1, insU D ⟨N, F, B, C, U⟩, g12, _, k12, rfl, by go_num, by omega, HF3, ⟨by rw [hdl.out]; exact o12.wide (by omega) (Nat.le_refl _), hlow9.trans (hC.mono hz9)⟩, by rw [ins_len]; omega⟩
                  case measure => simp [intOf]; omega
                · have HMC : Hid (m = k ∧ n = m) := ⟨hmc0, hnm0⟩
                  have hmc' : ¬ (m : Int) < (k : Int) := by omega
                  clear hmc0 hnm0
                  exfalso
                  have := HMC.out
                  omega
            · have hmn' : ¬ (m : Int) < (n : Int) := by omega
              have HE : Hid (∀ h : m < D.length, ¬ D[m].U ≤ U) := fun h => absurd h (by have := hn.out; omega)
              go_upto_region 10 with (fail)
              go_quiet (fail)
              have S7 : Hid (Sq w g n k D (wr.drewN nq)) := S6.out.grow (ce.below_drewN _ _)
              clear q4 S6
              have hdl : Hid (insU D ⟨N, F, B, C, U⟩ = D.take m ++ [⟨N, F, B, C, U⟩] ++ D.drop m) := ins_at _ D m (by have := hn.out; omega) HM.out HE.out
              have hml : m ≤ D.length := by have := hn.out; omega
              have RT : Hid (Rd encIt (wr.drewN nq) (.slice (some ⟨g, 0, none⟩) m k) (D.take m)) := S7.out.o.rd.take m hml
              have hd20 : D.length ≤ 20 := by omega
              have mc : Hid True := trivial
              have hmk : (m : Int) ≤ (k : Int) := by omega
              have hmn3 : (m : Int) ≤ (n : Int) := by omega
              rcases S7.out.o.rd.rest m hml with ⟨hmc, RD⟩ | ⟨hmc0, hnm0, -, RD⟩
              · have hmc' : (m : Int) < (k : Int) := by omega
                have RD2 : Hid (Rd encIt (wr.drewN nq) (.slice (some ⟨g, m * 5, none⟩) (n - m) (k - m)) (D.drop m)) := (by have h := RD; rw [Nat.zero_add] at h; exact h)
                clear RD
                go_upto_region 13 with (first | (clear mc; refine wpList_build0i rfl 47 _ iT rfl Try.underlying47 hiT ?_; intro b8 w8 hB8; have hz8 := hB8.size) | (at_builtin; refine wpList_append_g infoIt rfl _ _ 47 rfl Try.underlying47 w8.heap.size _ _ [] rfl (own_zero _ _ _ 0 _) (Nat.le_refl _) _ (D.drop m) rfl (RD2.out.grow hB8) (by simp; omega) ?_; intro v9 w9 o9 hT9; rw [List.nil_append] at o9; obtain ⟨a9, n9, k9, rfl⟩ := o9.slice; have hB9 : Below (wr.drewN nq).heap.size (wr.drewN nq) w9 := hB8.trans (hT9.low.mono hz8)) | (fail))
                have hz9 : w.heap.size ≤ w9.heap.size := Nat.le_trans S7.out.low.size hB9.size
                have hlow9 : Below w.heap.size w w9 := S7.out.low.trans (hB9.mono S7.out.low.size)
                have RT9 : Hid (Rd encIt w9 (.slice (some ⟨g, 0, none⟩) m k) (D.take m)) := RT.out.grow hB9
                have hC : Below w9.heap.size w9 w9.drew := (Below.refl _ _).drew
                (try simp only [Act.put])
                (try simp only [List.setIfInBounds_toArray, List.set_cons_zero, List.set_cons_succ])
                refine wp_region_held_drew (S := fun w' => w'.cell? ⟨bk, off + i * 5, none⟩ = some (.string N) ∧ w'.cell? ⟨bk, off + i * 5 + 1, none⟩ = some (.int .i64 F) ∧ w'.cell? ⟨bk, off + i * 5 + 2, none⟩ = some (.string B) ∧ w'.cell? ⟨bk, off + i * 5 + 3, none⟩ = some (.int .i64 C) ∧ w'.cell? ⟨bk, off + i * 5 + 4, none⟩ = some (.int .i64 U)) (by kernel_rfl) (HR.out _ (hlow9.trans (hC.mono hz9))) (fun hHeld => ?_)
                refine wpAnyH_take (i := 1) (oi := { dst := some 55, op := Op.move (Operand.tmp 6), type := 47, pos := "l14_age.go:20", after := #[], guard := none }) (v := ?_) rfl (by kernel_rfl) (by kernel_rfl) (by kernel_rfl) (fun _ _ _ h => h) (Or.inl ⟨by rfl, ?_⟩) (by assumption) ?_
                rotate_left 1
                · intro w' hSw; (try dsimp only at hSw); go_simp; (try with_reducible rfl)
                (try simp only [Act.put, List.setIfInBounds_toArray, List.set_cons_zero, List.set_cons_succ])
                refine wpAnyH_take (i := 2) (oi := { dst := some 56, op := Op.move (Operand.tmp 8), type := 3, pos := "l14_age.go:20", after := #[], guard := none }) (v := ?_) rfl (by kernel_rfl) (by kernel_rfl) (by kernel_rfl) (fun _ _ _ h => h) (Or.inl ⟨by rfl, ?_⟩) (by assumption) ?_
                rotate_left 1
                · intro w' hSw; (try dsimp only at hSw); go_simp; (try with_reducible rfl)
                (try simp only [Act.put, List.setIfInBounds_toArray, List.set_cons_zero, List.set_cons_succ])
                refine wpAnyH_take (i := 3) (oi := { dst := some 57, op := Op.slice 47 (Operand.tmp 55) none (some (Operand.tmp 56)) none, type := 47, pos := "l14_age.go:20", after := #[{ on := 1, ground := Ground.data }, { on := 2, ground := Ground.data }], guard := none }) (v := ?_) rfl (by kernel_rfl) (by kernel_rfl) (by kernel_rfl) (fun _ _ _ h => h) (Or.inl ⟨by rfl, ?_⟩) (by assumption) ?_
                rotate_left 1
                · intro w' hSw; (try dsimp only at hSw); go_simp; (try with_reducible rfl)
                (try simp only [Act.put, List.setIfInBounds_toArray, List.set_cons_zero, List.set_cons_succ])
                refine wpAnyH_take (i := 5) (oi := { dst := some 59, op := Op.move (Operand.tmp 0), type := 47, pos := "l14_age.go:20", after := #[], guard := none }) (v := ?_) rfl (by kernel_rfl) (by kernel_rfl) (by kernel_rfl) (fun _ _ _ h => h) (Or.inl ⟨by rfl, ?_⟩) (by assumption) ?_
                rotate_left 1
                · intro w' hSw; (try dsimp only at hSw); go_simp; (try with_reducible rfl)
                (try simp only [Act.put, List.setIfInBounds_toArray, List.set_cons_zero, List.set_cons_succ])
                refine wpAnyH_take (i := 6) (oi := { dst := some 60, op := Op.move (Operand.tmp 7), type := 3, pos := "l14_age.go:20", after := #[], guard := none }) (v := ?_) rfl (by kernel_rfl) (by kernel_rfl) (by kernel_rfl) (fun _ _ _ h => h) (Or.inl ⟨by rfl, ?_⟩) (by assumption) ?_
                rotate_left 1
                · intro w' hSw; (try dsimp only at hSw); go_simp; (try with_reducible rfl)
                (try simp only [Act.put, List.setIfInBounds_toArray, List.set_cons_zero, List.set_cons_succ])
                refine wpAnyH_take (i := 7) (oi := { dst := some 61, op := Op.indexAddr 47 (Operand.tmp 59) (Operand.tmp 60), type := 0, pos := "l14_age.go:20", after := #[{ on := 5, ground := Ground.data }, { on := 6, ground := Ground.data }], guard := none }) (v := ?_) rfl (by kernel_rfl) (by kernel_rfl) (by kernel_rfl) (fun _ _ _ h => h) (Or.inl ⟨by rfl, ?_⟩) (by assumption) ?_
                rotate_left 1
                · intro w' hSw; (try dsimp only at hSw); go_simp; (try with_reducible rfl)
                (try simp only [Act.put, List.setIfInBounds_toArray, List.set_cons_zero, List.set_cons_succ])
                refine wpAnyH_take (i := 8) (oi := { dst := some 62, op := Op.load 53 (Operand.tmp 61), type := 53, pos := "l14_age.go:20", after := #[{ on := 7, ground := Ground.data }], guard := none }) (v := ?_) rfl (by kernel_rfl) (by kernel_rfl) (by kernel_rfl) (fun _ _ _ h => h) (Or.inl ⟨by rfl, ?_⟩) (by assumption) ?_
                rotate_left 1
                · intro w' hSw; (try dsimp only at hSw); go_simp; (try with_reducible rfl)
                (try simp only [Act.put, List.setIfInBounds_toArray, List.set_cons_zero, List.set_cons_succ])
                refine wpAnyH_take (i := 11) (oi := { dst := some 65, op := Op.move (Operand.tmp 9), type := 47, pos := "l14_age.go:20", after := #[], guard := none }) (v := ?_) rfl (by kernel_rfl) (by kernel_rfl) (by kernel_rfl) (fun _ _ _ h => h) (Or.inl ⟨by rfl, ?_⟩) (by assumption) ?_
                rotate_left 1
                · intro w' hSw; (try dsimp only at hSw); go_simp; (try with_reducible rfl)
                (try simp only [Act.put, List.setIfInBounds_toArray, List.set_cons_zero, List.set_cons_succ])
                refine wpAnyH_ready (rs := [0, 9]) (by kernel_rfl) (by simp) ?_
                refine AllReadyH.cons (o := { dst := some 54, op := Op.buildSlice 47 0 #[], type := 47, pos := "l14_age.go:20", after := #[], guard := none }) rfl (fun KC hKC => ?_) (AllReadyH.cons (o := { dst := some 63, op := Op.buildSlice 47 1 #[(0, Operand.tmp 62)], type := 47, pos := "l14_age.go:20", after := #[{ on := 8, ground := Ground.data }], guard := none }) rfl (fun KC hKC => ?_) AllReadyH.nil)
                · refine step_build0i rfl 47 _ iT rfl Try.underlying47 hiT ?_
                  intro b0 wr0 hBr0
                  replace hC := hC.trans (hBr0.mono hC.size)
                  (try replace rd9 := rd9.grow hBr0)
                  refine hKC.out _ _ (HR.out _ (hlow9.trans (hC.mono hz9))) (fun hHeld2 => ?_)
                  clear hKC KC hHeld
                  have hHeld := hHeld2
                  clear hHeld2
                  (try simp only [Act.put, List.setIfInBounds_toArray, List.set_cons_zero, List.set_cons_succ])
                  refine wpAnyH_ready (rs := [4, 9]) (by kernel_rfl) (by simp) ?_
                  refine AllReadyH.cons (o := { dst := some 58, op := Op.call { callee := Callee.builtin Builtin.append, args := #[Operand.tmp 54, Operand.tmp 57], argTypes := #[47, 47] }, type := 47, pos := "l14_age.go:20", after := #[{ on := 0, ground := Ground.data }, { on := 3, ground := Ground.data }], guard := none }) rfl (fun KC hKC => ?_) (AllReadyH.cons (o := { dst := some 63, op := Op.buildSlice 47 1 #[(0, Operand.tmp 62)], type := 47, pos := "l14_age.go:20", after := #[{ on := 8, ground := Ground.data }], guard := none }) rfl (fun KC hKC => ?_) AllReadyH.nil)
                  · refine step_append_g infoIt rfl _ _ 47 rfl Try.underlying47 wr0.heap.size _ _ [] rfl (own_zero _ _ _ 0 _) (Nat.le_refl _) _ (D.take m) rfl (RT9.out.grow hC) (by simp; omega) ?_
                    intro v4 wr4 o4 hT4
                    rw [List.nil_append] at o4
                    obtain ⟨a4, n4, k4, rfl⟩ := o4.slice
                    have hBr4 := hT4.low
                    have hl4 : w9.heap.size ≤ wr0.heap.size := hC.size
                    replace hC := hC.trans (hBr4.mono hC.size)
                    (try replace rd9 := rd9.grow hBr4)
                    replace o4 := o4.wide hl4 (Nat.le_refl _)
                    refine hKC.out _ _ (HR.out _ (hlow9.trans (hC.mono hz9))) (fun hHeld2 => ?_)
                    clear hKC KC hHeld
                    have hHeld := hHeld2
                    clear hHeld2
                    (try simp only [Act.put, List.setIfInBounds_toArray, List.set_cons_zero, List.set_cons_succ])
                    refine wpAnyH_ready (rs := [9]) (by kernel_rfl) (by simp) ?_
                    refine AllReadyH.cons (o := { dst := some 63, op := Op.buildSlice 47 1 #[(0, Operand.tmp 62)], type := 47, pos := "l14_age.go:20", after := #[{ on := 8, ground := Ground.data }], guard := none }) rfl (fun KC hKC => ?_) AllReadyH.nil
                    go_simp
                    have hBr9 := bAi wr4 (.cells #[.string N, .int .i64 F, .string B, .int .i64 C, .int .i64 U] 53)
                    have rd9 := rd_new (E := encIt) wr4 ⟨N, F, B, C, U⟩ #[.string N, .int .i64 F, .string B, .int .i64 C, .int .i64 U] rfl
                    replace hC := hC.trans (hBr9.mono hC.size)
                    (try replace o4 := (o4.grow hBr9).wide (Nat.le_refl _) hBr9.size)
                    refine hKC.out _ _ (HR.out _ (hlow9.trans (hC.mono hz9))) (fun hHeld2 => ?_)
                    clear hKC KC hHeld
                    have hHeld := hHeld2
                    clear hHeld2
                    (try simp only [Act.put, List.setIfInBounds_toArray, List.set_cons_zero, List.set_cons_succ])
                    refine wpAnyH_ready (rs := [10]) (by kernel_rfl) (by simp) ?_
                    refine AllReadyH.cons (o := { dst := some 64, op := Op.call { callee := Callee.builtin Builtin.append, args := #[Operand.tmp 58, Operand.tmp 63], argTypes := #[47, 47] }, type := 47, pos := "l14_age.go:20", after := #[{ on := 4, ground := Ground.data }, { on := 9, ground := Ground.data }, { on := 4, ground := Ground.chain }], guard := none }) rfl (fun KC hKC => ?_) AllReadyH.nil
                    refine step_append_g infoIt rfl _ _ 47 rfl Try.underlying47 w9.heap.size _ _ (D.take m) rfl o4 hC.size _ [⟨N, F, B, C, U⟩] rfl rd9 (by simp; omega) ?_
                    intro v10 wr10 o10 hT10
                    obtain ⟨a10, n10, k10, rfl⟩ := o10.slice
                    replace hC := hC.trans hT10.low
                    refine hKC.out _ _ (HR.out _ (hlow9.trans (hC.mono hz9))) (fun hHeld2 => ?_)
                    clear hKC KC hHeld
                    have hHeld := hHeld2
                    clear hHeld2
                    (try simp only [Act.put, List.setIfInBounds_toArray, List.set_cons_zero, List.set_cons_succ])
                    refine wpAnyH_ready (rs := [12]) (by kernel_rfl) (by simp) ?_
                    refine AllReadyH.cons (o := { dst := some 66, op := Op.call { callee := Callee.builtin Builtin.append, args := #[Operand.tmp 64, Operand.tmp 65], argTypes := #[47, 47] }, type := 47, pos := "l14_age.go:20", after := #[{ on := 10, ground := Ground.data }, { on := 11, ground := Ground.data }, { on := 10, ground := Ground.chain }], guard := none }) rfl (fun KC hKC => ?_) AllReadyH.nil
                    refine step_append_g infoIt rfl _ _ 47 rfl Try.underlying47 w9.heap.size _ _ (D.take m ++ [⟨N, F, B, C, U⟩]) rfl o10 hC.size _ (D.drop m) rfl (o9.rd.grow hC) (by simp; omega) ?_
                    intro v12 wr12 o12 hT12
                    obtain ⟨g12, k12, e12, hg12, -, -⟩ := o12.form (by simp; omega)
                    obtain ⟨n12, hn12⟩ := hid_ex ((D.take m ++ [(⟨N, F, B, C, U⟩ : It)] ++ D.drop m).length)
                    rw [hn12.out] at e12
                    replace hC := hC.trans hT12.low
                    subst e12
                    refine hKC.out _ _ (HR.out _ (hlow9.trans (hC.mono hz9))) (fun hHeld2 => ?_)
                    clear hKC KC hHeld
                    have hHeld := hHeld2
                    clear hHeld2
                    (try simp only [Act.put, List.setIfInBounds_toArray, List.set_cons_zero, List.set_cons_succ])
                    refine wpAnyH_take (i := 13) (oi := { dst := some 6, op := Op.assign (Operand.tmp 66), type := 47, pos := "l14_age.go:20", after := #[{ on := 12, ground := Ground.data }, { on := 12, ground := Ground.chain }, { on := 0, ground := Ground.phase }, { on := 1, ground := Ground.phase }, { on := 2, ground := Ground.phase }, { on := 3, ground := Ground.phase }, { on := 4, ground := Ground.phase }, { on := 5, ground := Ground.phase }, { on := 6, ground := Ground.phase }, { on := 7, ground := Ground.phase }, { on := 8, ground := Ground.phase }, { on := 9, ground := Ground.phase }, { on := 10, ground := Ground.phase }, { on := 11, ground := Ground.phase }, { on := 12, ground := Ground.phase }], guard := none }) (v := ?_) rfl (by kernel_rfl) (by kernel_rfl) (by kernel_rfl) (fun _ _ _ h => h) (Or.inl ⟨by rfl, ?_⟩) (by assumption) ?_
                    rotate_left 1
                    · intro w' hSw; (try dsimp only at hSw); go_simp; (try with_reducible rfl)
                    (try simp only [Act.put, List.setIfInBounds_toArray, List.set_cons_zero, List.set_cons_succ])
                    refine wpAnyH_done (by kernel_rfl) ?_ _
                    go_wp2
                    go_roundw
                    case rel => exact ⟨i + 1, insU D ⟨N, F, B, C, U⟩, g12, _, k12, rfl, by go_num, by omega, HF3, ⟨by rw [hdl.out]; exact o12.wide (by omega) (Nat.le_refl _), hlow9.trans (hC.mono hz9)⟩, by rw [ins_len]; omega⟩
                    case measure => simp [intOf]; omega
                  go_simp
                  have hBr9 := bAi wr0 (.cells #[.string N, .int .i64 F, .string B, .int .i64 C, .int .i64 U] 53)
                  have rd9 := rd_new (E := encIt) wr0 ⟨N, F, B, C, U⟩ #[.string N, .int .i64 F, .string B, .int .i64 C, .int .i64 U] rfl
                  replace hC := hC.trans (hBr9.mono hC.size)
                  (try replace o4 := (o4.grow hBr9).wide (Nat.le_refl _) hBr9.size)
                  refine hKC.out _ _ (HR.out _ (hlow9.trans (hC.mono hz9))) (fun hHeld2 => ?_)
                  clear hKC KC hHeld
                  have hHeld := hHeld2
                  clear hHeld2
                  (try simp only [Act.put, List.setIfInBounds_toArray, List.set_cons_zero, List.set_cons_succ])
                  refine wpAnyH_ready (rs := [4]) (by kernel_rfl) (by simp) ?_
                  refine AllReadyH.cons (o := { dst := some 58, op := Op.call { callee := Callee.builtin Builtin.append, args := #[Operand.tmp 54, Operand.tmp 57], argTypes := #[47, 47] }, type := 47, pos := "l14_age.go:20", after := #[{ on := 0, ground := Ground.data }, { on := 3, ground := Ground.data }], guard := none }) rfl (fun KC hKC => ?_) AllReadyH.nil
                  refine step_append_g infoIt rfl _ _ 47 rfl Try.underlying47 (wr0.alloc (.cells #[.string N, .int .i64 F, .string B, .int .i64 C, .int .i64 U] 53)).heap.size _ _ [] rfl (own_zero _ _ _ 0 _) (Nat.le_refl _) _ (D.take m) rfl (RT9.out.grow hC) (by simp; omega) ?_
                  intro v4 wr4 o4 hT4
                  rw [List.nil_append] at o4
                  obtain ⟨a4, n4, k4, rfl⟩ := o4.slice
                  have hBr4 := hT4.low
                  have hl4 : w9.heap.size ≤ (wr0.alloc (.cells #[.string N, .int .i64 F, .string B, .int .i64 C, .int .i64 U] 53)).heap.size := hC.size
                  replace hC := hC.trans (hBr4.mono hC.size)
                  (try replace rd9 := rd9.grow hBr4)
                  replace o4 := o4.wide hl4 (Nat.le_refl _)
                  refine hKC.out _ _ (HR.out _ (hlow9.trans (hC.mono hz9))) (fun hHeld2 => ?_)
                  clear hKC KC hHeld
                  have hHeld := hHeld2
                  clear hHeld2
                  (try simp only [Act.put, List.setIfInBounds_toArray, List.set_cons_zero, List.set_cons_succ])
                  refine wpAnyH_ready (rs := [10]) (by kernel_rfl) (by simp) ?_
                  refine AllReadyH.cons (o := { dst := some 64, op := Op.call { callee := Callee.builtin Builtin.append, args := #[Operand.tmp 58, Operand.tmp 63], argTypes := #[47, 47] }, type := 47, pos := "l14_age.go:20", after := #[{ on := 4, ground := Ground.data }, { on := 9, ground := Ground.data }, { on := 4, ground := Ground.chain }], guard := none }) rfl (fun KC hKC => ?_) AllReadyH.nil
                  refine step_append_g infoIt rfl _ _ 47 rfl Try.underlying47 w9.heap.size _ _ (D.take m) rfl o4 hC.size _ [⟨N, F, B, C, U⟩] rfl rd9 (by simp; omega) ?_
                  intro v10 wr10 o10 hT10
                  obtain ⟨a10, n10, k10, rfl⟩ := o10.slice
                  replace hC := hC.trans hT10.low
                  refine hKC.out _ _ (HR.out _ (hlow9.trans (hC.mono hz9))) (fun hHeld2 => ?_)
                  clear hKC KC hHeld
                  have hHeld := hHeld2
                  clear hHeld2
                  (try simp only [Act.put, List.setIfInBounds_toArray, List.set_cons_zero, List.set_cons_succ])
                  refine wpAnyH_ready (rs := [12]) (by kernel_rfl) (by simp) ?_
                  refine AllReadyH.cons (o := { dst := some 66, op := Op.call { callee := Callee.builtin Builtin.append, args := #[Operand.tmp 64, Operand.tmp 65], argTypes := #[47, 47] }, type := 47, pos := "l14_age.go:20", after := #[{ on := 10, ground := Ground.data }, { on := 11, ground := Ground.data }, { on := 10, ground := Ground.chain }], guard := none }) rfl (fun KC hKC => ?_) AllReadyH.nil
                  refine step_append_g infoIt rfl _ _ 47 rfl Try.underlying47 w9.heap.size _ _ (D.take m ++ [⟨N, F, B, C, U⟩]) rfl o10 hC.size _ (D.drop m) rfl (o9.rd.grow hC) (by simp; omega) ?_
                  intro v12 wr12 o12 hT12
                  obtain ⟨g12, k12, e12, hg12, -, -⟩ := o12.form (by simp; omega)
                  obtain ⟨n12, hn12⟩ := hid_ex ((D.take m ++ [(⟨N, F, B, C, U⟩ : It)] ++ D.drop m).length)
                  rw [hn12.out] at e12
                  replace hC := hC.trans hT12.low
                  subst e12
                  refine hKC.out _ _ (HR.out _ (hlow9.trans (hC.mono hz9))) (fun hHeld2 => ?_)
                  clear hKC KC hHeld
                  have hHeld := hHeld2
                  clear hHeld2
                  (try simp only [Act.put, List.setIfInBounds_toArray, List.set_cons_zero, List.set_cons_succ])
                  refine wpAnyH_take (i := 13) (oi := { dst := some 6, op := Op.assign (Operand.tmp 66), type := 47, pos := "l14_age.go:20", after := #[{ on := 12, ground := Ground.data }, { on := 12, ground := Ground.chain }, { on := 0, ground := Ground.phase }, { on := 1, ground := Ground.phase }, { on := 2, ground := Ground.phase }, { on := 3, ground := Ground.phase }, { on := 4, ground := Ground.phase }, { on := 5, ground := Ground.phase }, { on := 6, ground := Ground.phase }, { on := 7, ground := Ground.phase }, { on := 8, ground := Ground.phase }, { on := 9, ground := Ground.phase }, { on := 10, ground := Ground.phase }, { on := 11, ground := Ground.phase }, { on := 12, ground := Ground.phase }], guard := none }) (v := ?_) rfl (by kernel_rfl) (by kernel_rfl) (by kernel_rfl) (fun _ _ _ h => h) (Or.inl ⟨by rfl, ?_⟩) (by assumption) ?_
                  rotate_left 1
                  · intro w' hSw; (try dsimp only at hSw); go_simp; (try with_reducible rfl)
                  (try simp only [Act.put, List.setIfInBounds_toArray, List.set_cons_zero, List.set_cons_succ])
                  refine wpAnyH_done (by kernel_rfl) ?_ _
                  go_wp2
                  go_roundw
                  case rel => exact ⟨i + 1, insU D ⟨N, F, B, C, U⟩, g12, _, k12, rfl, by go_num, by omega, HF3, ⟨by rw [hdl.out]; exact o12.wide (by omega) (Nat.le_refl _), hlow9.trans (hC.mono hz9)⟩, by rw [ins_len]; omega⟩
                  case measure => simp [intOf]; omega
                go_simp
                have hBr9 := bAi w9.drew (.cells #[.string N, .int .i64 F, .string B, .int .i64 C, .int .i64 U] 53)
                have rd9 := rd_new (E := encIt) w9.drew ⟨N, F, B, C, U⟩ #[.string N, .int .i64 F, .string B, .int .i64 C, .int .i64 U] rfl
                replace hC := hC.trans (hBr9.mono hC.size)
                (try replace o4 := (o4.grow hBr9).wide (Nat.le_refl _) hBr9.size)
                refine hKC.out _ _ (HR.out _ (hlow9.trans (hC.mono hz9))) (fun hHeld2 => ?_)
                clear hKC KC hHeld
                have hHeld := hHeld2
                clear hHeld2
                (try simp only [Act.put, List.setIfInBounds_toArray, List.set_cons_zero, List.set_cons_succ])
                refine wpAnyH_ready (rs := [0]) (by kernel_rfl) (by simp) ?_
                refine AllReadyH.cons (o := { dst := some 54, op := Op.buildSlice 47 0 #[], type := 47, pos := "l14_age.go:20", after := #[], guard := none }) rfl (fun KC hKC => ?_) AllReadyH.nil
                refine step_build0i rfl 47 _ iT rfl Try.underlying47 hiT ?_
                intro b0 wr0 hBr0
                replace hC := hC.trans (hBr0.mono hC.size)
                (try replace rd9 := rd9.grow hBr0)
                refine hKC.out _ _ (HR.out _ (hlow9.trans (hC.mono hz9))) (fun hHeld2 => ?_)
                clear hKC KC hHeld
                have hHeld := hHeld2
                clear hHeld2
                (try simp only [Act.put, List.setIfInBounds_toArray, List.set_cons_zero, List.set_cons_succ])
                refine wpAnyH_ready (rs := [4]) (by kernel_rfl) (by simp) ?_
                refine AllReadyH.cons (o := { dst := some 58, op := Op.call { callee := Callee.builtin Builtin.append, args := #[Operand.tmp 54, Operand.tmp 57], argTypes := #[47, 47] }, type := 47, pos := "l14_age.go:20", after := #[{ on := 0, ground := Ground.data }, { on := 3, ground := Ground.data }], guard := none }) rfl (fun KC hKC => ?_) AllReadyH.nil
                refine step_append_g infoIt rfl _ _ 47 rfl Try.underlying47 wr0.heap.size _ _ [] rfl (own_zero _ _ _ 0 _) (Nat.le_refl _) _ (D.take m) rfl (RT9.out.grow hC) (by simp; omega) ?_
                intro v4 wr4 o4 hT4
                rw [List.nil_append] at o4
                obtain ⟨a4, n4, k4, rfl⟩ := o4.slice
                have hBr4 := hT4.low
                have hl4 : w9.heap.size ≤ wr0.heap.size := hC.size
                replace hC := hC.trans (hBr4.mono hC.size)
                (try replace rd9 := rd9.grow hBr4)
                replace o4 := o4.wide hl4 (Nat.le_refl _)
                refine hKC.out _ _ (HR.out _ (hlow9.trans (hC.mono hz9))) (fun hHeld2 => ?_)
                clear hKC KC hHeld
                have hHeld := hHeld2
                clear hHeld2
                (try simp only [Act.put, List.setIfInBounds_toArray, List.set_cons_zero, List.set_cons_succ])
                refine wpAnyH_ready (rs := [10]) (by kernel_rfl) (by simp) ?_
                refine AllReadyH.cons (o := { dst := some 64, op := Op.call { callee := Callee.builtin Builtin.append, args := #[Operand.tmp 58, Operand.tmp 63], argTypes := #[47, 47] }, type := 47, pos := "l14_age.go:20", after := #[{ on := 4, ground := Ground.data }, { on := 9, ground := Ground.data }, { on := 4, ground := Ground.chain }], guard := none }) rfl (fun KC hKC => ?_) AllReadyH.nil
                refine step_append_g infoIt rfl _ _ 47 rfl Try.underlying47 w9.heap.size _ _ (D.take m) rfl o4 hC.size _ [⟨N, F, B, C, U⟩] rfl rd9 (by simp; omega) ?_
                intro v10 wr10 o10 hT10
                obtain ⟨a10, n10, k10, rfl⟩ := o10.slice
                replace hC := hC.trans hT10.low
                refine hKC.out _ _ (HR.out _ (hlow9.trans (hC.mono hz9))) (fun hHeld2 => ?_)
                clear hKC KC hHeld
                have hHeld := hHeld2
                clear hHeld2
                (try simp only [Act.put, List.setIfInBounds_toArray, List.set_cons_zero, List.set_cons_succ])
                refine wpAnyH_ready (rs := [12]) (by kernel_rfl) (by simp) ?_
                refine AllReadyH.cons (o := { dst := some 66, op := Op.call { callee := Callee.builtin Builtin.append, args := #[Operand.tmp 64, Operand.tmp 65], argTypes := #[47, 47] }, type := 47, pos := "l14_age.go:20", after := #[{ on := 10, ground := Ground.data }, { on := 11, ground := Ground.data }, { on := 10, ground := Ground.chain }], guard := none }) rfl (fun KC hKC => ?_) AllReadyH.nil
                refine step_append_g infoIt rfl _ _ 47 rfl Try.underlying47 w9.heap.size _ _ (D.take m ++ [⟨N, F, B, C, U⟩]) rfl o10 hC.size _ (D.drop m) rfl (o9.rd.grow hC) (by simp; omega) ?_
                intro v12 wr12 o12 hT12
                obtain ⟨g12, k12, e12, hg12, -, -⟩ := o12.form (by simp; omega)
                obtain ⟨n12, hn12⟩ := hid_ex ((D.take m ++ [(⟨N, F, B, C, U⟩ : It)] ++ D.drop m).length)
                rw [hn12.out] at e12
                replace hC := hC.trans hT12.low
                subst e12
                refine hKC.out _ _ (HR.out _ (hlow9.trans (hC.mono hz9))) (fun hHeld2 => ?_)
                clear hKC KC hHeld
                have hHeld := hHeld2
                clear hHeld2
                (try simp only [Act.put, List.setIfInBounds_toArray, List.set_cons_zero, List.set_cons_succ])
                refine wpAnyH_take (i := 13) (oi := { dst := some 6, op := Op.assign (Operand.tmp 66), type := 47, pos := "l14_age.go:20", after := #[{ on := 12, ground := Ground.data }, { on := 12, ground := Ground.chain }, { on := 0, ground := Ground.phase }, { on := 1, ground := Ground.phase }, { on := 2, ground := Ground.phase }, { on := 3, ground := Ground.phase }, { on := 4, ground := Ground.phase }, { on := 5, ground := Ground.phase }, { on := 6, ground := Ground.phase }, { on := 7, ground := Ground.phase }, { on := 8, ground := Ground.phase }, { on := 9, ground := Ground.phase }, { on := 10, ground := Ground.phase }, { on := 11, ground := Ground.phase }, { on := 12, ground := Ground.phase }], guard := none }) (v := ?_) rfl (by kernel_rfl) (by kernel_rfl) (by kernel_rfl) (fun _ _ _ h => h) (Or.inl ⟨by rfl, ?_⟩) (by assumption) ?_
                rotate_left 1
                · intro w' hSw; (try dsimp only at hSw); go_simp; (try with_reducible rfl)
                (try simp only [Act.put, List.setIfInBounds_toArray, List.set_cons_zero, List.set_cons_succ])
                refine wpAnyH_done (by kernel_rfl) ?_ _
                go_wp2
                go_roundw
                case rel => exact ⟨i + 1, insU D ⟨N, F, B, C, U⟩, g12, _, k12, rfl, by go_num, by omega, HF3, ⟨by rw [hdl.out]; exact o12.wide (by omega) (Nat.le_refl _), hlow9.trans (hC.mono hz9)⟩, by rw [ins_len]; omega⟩
                case measure => simp [intOf]; omega
              · have HMC : Hid (m = k ∧ n = m) := ⟨hmc0, hnm0⟩
                have hmc' : ¬ (m : Int) < (k : Int) := by omega
                clear hmc0 hnm0
                have RD2 : Hid (Rd encIt (wr.drewN nq) (.slice (some ⟨g, 0, none⟩) (n - m) (k - m)) (D.drop m)) := (by have h := RD; have e := HMC.out; rw [show n - m = 0 by omega, show k - m = 0 by omega]; exact h)
                clear RD
                go_upto_region 13 with (first | (clear mc; refine wpList_build0i rfl 47 _ iT rfl Try.underlying47 hiT ?_; intro b8 w8 hB8; have hz8 := hB8.size) | (at_builtin; refine wpList_append_g infoIt rfl _ _ 47 rfl Try.underlying47 w8.heap.size _ _ [] rfl (own_zero _ _ _ 0 _) (Nat.le_refl _) _ (D.drop m) rfl (RD2.out.grow hB8) (by simp; omega) ?_; intro v9 w9 o9 hT9; rw [List.nil_append] at o9; obtain ⟨a9, n9, k9, rfl⟩ := o9.slice; have hB9 : Below (wr.drewN nq).heap.size (wr.drewN nq) w9 := hB8.trans (hT9.low.mono hz8)) | (fail))
                have hz9 : w.heap.size ≤ w9.heap.size := Nat.le_trans S7.out.low.size hB9.size
                have hlow9 : Below w.heap.size w w9 := S7.out.low.trans (hB9.mono S7.out.low.size)
                have RT9 : Hid (Rd encIt w9 (.slice (some ⟨g, 0, none⟩) m k) (D.take m)) := RT.out.grow hB9
                have hC : Below w9.heap.size w9 w9.drew := (Below.refl _ _).drew
                (try simp only [Act.put])
                (try simp only [List.setIfInBounds_toArray, List.set_cons_zero, List.set_cons_succ])
                refine wp_region_held_drew (S := fun w' => w'.cell? ⟨bk, off + i * 5, none⟩ = some (.string N) ∧ w'.cell? ⟨bk, off + i * 5 + 1, none⟩ = some (.int .i64 F) ∧ w'.cell? ⟨bk, off + i * 5 + 2, none⟩ = some (.string B) ∧ w'.cell? ⟨bk, off + i * 5 + 3, none⟩ = some (.int .i64 C) ∧ w'.cell? ⟨bk, off + i * 5 + 4, none⟩ = some (.int .i64 U)) (by kernel_rfl) (HR.out _ (hlow9.trans (hC.mono hz9))) (fun hHeld => ?_)
                refine wpAnyH_take (i := 1) (oi := { dst := some 55, op := Op.move (Operand.tmp 6), type := 47, pos := "l14_age.go:20", after := #[], guard := none }) (v := ?_) rfl (by kernel_rfl) (by kernel_rfl) (by kernel_rfl) (fun _ _ _ h => h) (Or.inl ⟨by rfl, ?_⟩) (by assumption) ?_
                rotate_left 1
                · intro w' hSw; (try dsimp only at hSw); go_simp; (try with_reducible rfl)
                (try simp only [Act.put, List.setIfInBounds_toArray, List.set_cons_zero, List.set_cons_succ])
                refine wpAnyH_take (i := 2) (oi := { dst := some 56, op := Op.move (Operand.tmp 8), type := 3, pos := "l14_age.go:20", after := #[], guard := none }) (v := ?_) rfl (by kernel_rfl) (by kernel_rfl) (by kernel_rfl) (fun _ _ _ h => h) (Or.inl ⟨by rfl, ?_⟩) (by assumption) ?_
                rotate_left 1
                · intro w' hSw; (try dsimp only at hSw); go_simp; (try with_reducible rfl)
                (try simp only [Act.put, List.setIfInBounds_toArray, List.set_cons_zero, List.set_cons_succ])
                refine wpAnyH_take (i := 3) (oi := { dst := some 57, op := Op.slice 47 (Operand.tmp 55) none (some (Operand.tmp 56)) none, type := 47, pos := "l14_age.go:20", after := #[{ on := 1, ground := Ground.data }, { on := 2, ground := Ground.data }], guard := none }) (v := ?_) rfl (by kernel_rfl) (by kernel_rfl) (by kernel_rfl) (fun _ _ _ h => h) (Or.inl ⟨by rfl, ?_⟩) (by assumption) ?_
                rotate_left 1
                · intro w' hSw; (try dsimp only at hSw); go_simp; (try with_reducible rfl)
                (try simp only [Act.put, List.setIfInBounds_toArray, List.set_cons_zero, List.set_cons_succ])
                refine wpAnyH_take (i := 5) (oi := { dst := some 59, op := Op.move (Operand.tmp 0), type := 47, pos := "l14_age.go:20", after := #[], guard := none }) (v := ?_) rfl (by kernel_rfl) (by kernel_rfl) (by kernel_rfl) (fun _ _ _ h => h) (Or.inl ⟨by rfl, ?_⟩) (by assumption) ?_
                rotate_left 1
                · intro w' hSw; (try dsimp only at hSw); go_simp; (try with_reducible rfl)
                (try simp only [Act.put, List.setIfInBounds_toArray, List.set_cons_zero, List.set_cons_succ])
                refine wpAnyH_take (i := 6) (oi := { dst := some 60, op := Op.move (Operand.tmp 7), type := 3, pos := "l14_age.go:20", after := #[], guard := none }) (v := ?_) rfl (by kernel_rfl) (by kernel_rfl) (by kernel_rfl) (fun _ _ _ h => h) (Or.inl ⟨by rfl, ?_⟩) (by assumption) ?_
                rotate_left 1
                · intro w' hSw; (try dsimp only at hSw); go_simp; (try with_reducible rfl)
                (try simp only [Act.put, List.setIfInBounds_toArray, List.set_cons_zero, List.set_cons_succ])
                refine wpAnyH_take (i := 7) (oi := { dst := some 61, op := Op.indexAddr 47 (Operand.tmp 59) (Operand.tmp 60), type := 0, pos := "l14_age.go:20", after := #[{ on := 5, ground := Ground.data }, { on := 6, ground := Ground.data }], guard := none }) (v := ?_) rfl (by kernel_rfl) (by kernel_rfl) (by kernel_rfl) (fun _ _ _ h => h) (Or.inl ⟨by rfl, ?_⟩) (by assumption) ?_
                rotate_left 1
                · intro w' hSw; (try dsimp only at hSw); go_simp; (try with_reducible rfl)
                (try simp only [Act.put, List.setIfInBounds_toArray, List.set_cons_zero, List.set_cons_succ])
                refine wpAnyH_take (i := 8) (oi := { dst := some 62, op := Op.load 53 (Operand.tmp 61), type := 53, pos := "l14_age.go:20", after := #[{ on := 7, ground := Ground.data }], guard := none }) (v := ?_) rfl (by kernel_rfl) (by kernel_rfl) (by kernel_rfl) (fun _ _ _ h => h) (Or.inl ⟨by rfl, ?_⟩) (by assumption) ?_
                rotate_left 1
                · intro w' hSw; (try dsimp only at hSw); go_simp; (try with_reducible rfl)
                (try simp only [Act.put, List.setIfInBounds_toArray, List.set_cons_zero, List.set_cons_succ])
                refine wpAnyH_take (i := 11) (oi := { dst := some 65, op := Op.move (Operand.tmp 9), type := 47, pos := "l14_age.go:20", after := #[], guard := none }) (v := ?_) rfl (by kernel_rfl) (by kernel_rfl) (by kernel_rfl) (fun _ _ _ h => h) (Or.inl ⟨by rfl, ?_⟩) (by assumption) ?_
                rotate_left 1
                · intro w' hSw; (try dsimp only at hSw); go_simp; (try with_reducible rfl)
                (try simp only [Act.put, List.setIfInBounds_toArray, List.set_cons_zero, List.set_cons_succ])
                refine wpAnyH_ready (rs := [0, 9]) (by kernel_rfl) (by simp) ?_
                refine AllReadyH.cons (o := { dst := some 54, op := Op.buildSlice 47 0 #[], type := 47, pos := "l14_age.go:20", after := #[], guard := none }) rfl (fun KC hKC => ?_) (AllReadyH.cons (o := { dst := some 63, op := Op.buildSlice 47 1 #[(0, Operand.tmp 62)], type := 47, pos := "l14_age.go:20", after := #[{ on := 8, ground := Ground.data }], guard := none }) rfl (fun KC hKC => ?_) AllReadyH.nil)
                · refine step_build0i rfl 47 _ iT rfl Try.underlying47 hiT ?_
                  intro b0 wr0 hBr0
                  replace hC := hC.trans (hBr0.mono hC.size)
                  (try replace rd9 := rd9.grow hBr0)
                  refine hKC.out _ _ (HR.out _ (hlow9.trans (hC.mono hz9))) (fun hHeld2 => ?_)
                  clear hKC KC hHeld
                  have hHeld := hHeld2
                  clear hHeld2
                  (try simp only [Act.put, List.setIfInBounds_toArray, List.set_cons_zero, List.set_cons_succ])
                  refine wpAnyH_ready (rs := [4, 9]) (by kernel_rfl) (by simp) ?_
                  refine AllReadyH.cons (o := { dst := some 58, op := Op.call { callee := Callee.builtin Builtin.append, args := #[Operand.tmp 54, Operand.tmp 57], argTypes := #[47, 47] }, type := 47, pos := "l14_age.go:20", after := #[{ on := 0, ground := Ground.data }, { on := 3, ground := Ground.data }], guard := none }) rfl (fun KC hKC => ?_) (AllReadyH.cons (o := { dst := some 63, op := Op.buildSlice 47 1 #[(0, Operand.tmp 62)], type := 47, pos := "l14_age.go:20", after := #[{ on := 8, ground := Ground.data }], guard := none }) rfl (fun KC hKC => ?_) AllReadyH.nil)
                  · refine step_append_g infoIt rfl _ _ 47 rfl Try.underlying47 wr0.heap.size _ _ [] rfl (own_zero _ _ _ 0 _) (Nat.le_refl _) _ (D.take m) rfl (RT9.out.grow hC) (by simp; omega) ?_
                    intro v4 wr4 o4 hT4
                    rw [List.nil_append] at o4
                    obtain ⟨a4, n4, k4, rfl⟩ := o4.slice
                    have hBr4 := hT4.low
                    have hl4 : w9.heap.size ≤ wr0.heap.size := hC.size
                    replace hC := hC.trans (hBr4.mono hC.size)
                    (try replace rd9 := rd9.grow hBr4)
                    replace o4 := o4.wide hl4 (Nat.le_refl _)
                    refine hKC.out _ _ (HR.out _ (hlow9.trans (hC.mono hz9))) (fun hHeld2 => ?_)
                    clear hKC KC hHeld
                    have hHeld := hHeld2
                    clear hHeld2
                    (try simp only [Act.put, List.setIfInBounds_toArray, List.set_cons_zero, List.set_cons_succ])
                    refine wpAnyH_ready (rs := [9]) (by kernel_rfl) (by simp) ?_
                    refine AllReadyH.cons (o := { dst := some 63, op := Op.buildSlice 47 1 #[(0, Operand.tmp 62)], type := 47, pos := "l14_age.go:20", after := #[{ on := 8, ground := Ground.data }], guard := none }) rfl (fun KC hKC => ?_) AllReadyH.nil
                    go_simp
                    have hBr9 := bAi wr4 (.cells #[.string N, .int .i64 F, .string B, .int .i64 C, .int .i64 U] 53)
                    have rd9 := rd_new (E := encIt) wr4 ⟨N, F, B, C, U⟩ #[.string N, .int .i64 F, .string B, .int .i64 C, .int .i64 U] rfl
                    replace hC := hC.trans (hBr9.mono hC.size)
                    (try replace o4 := (o4.grow hBr9).wide (Nat.le_refl _) hBr9.size)
                    refine hKC.out _ _ (HR.out _ (hlow9.trans (hC.mono hz9))) (fun hHeld2 => ?_)
                    clear hKC KC hHeld
                    have hHeld := hHeld2
                    clear hHeld2
                    (try simp only [Act.put, List.setIfInBounds_toArray, List.set_cons_zero, List.set_cons_succ])
                    refine wpAnyH_ready (rs := [10]) (by kernel_rfl) (by simp) ?_
                    refine AllReadyH.cons (o := { dst := some 64, op := Op.call { callee := Callee.builtin Builtin.append, args := #[Operand.tmp 58, Operand.tmp 63], argTypes := #[47, 47] }, type := 47, pos := "l14_age.go:20", after := #[{ on := 4, ground := Ground.data }, { on := 9, ground := Ground.data }, { on := 4, ground := Ground.chain }], guard := none }) rfl (fun KC hKC => ?_) AllReadyH.nil
                    refine step_append_g infoIt rfl _ _ 47 rfl Try.underlying47 w9.heap.size _ _ (D.take m) rfl o4 hC.size _ [⟨N, F, B, C, U⟩] rfl rd9 (by simp; omega) ?_
                    intro v10 wr10 o10 hT10
                    obtain ⟨a10, n10, k10, rfl⟩ := o10.slice
                    replace hC := hC.trans hT10.low
                    refine hKC.out _ _ (HR.out _ (hlow9.trans (hC.mono hz9))) (fun hHeld2 => ?_)
                    clear hKC KC hHeld
                    have hHeld := hHeld2
                    clear hHeld2
                    (try simp only [Act.put, List.setIfInBounds_toArray, List.set_cons_zero, List.set_cons_succ])
                    refine wpAnyH_ready (rs := [12]) (by kernel_rfl) (by simp) ?_
                    refine AllReadyH.cons (o := { dst := some 66, op := Op.call { callee := Callee.builtin Builtin.append, args := #[Operand.tmp 64, Operand.tmp 65], argTypes := #[47, 47] }, type := 47, pos := "l14_age.go:20", after := #[{ on := 10, ground := Ground.data }, { on := 11, ground := Ground.data }, { on := 10, ground := Ground.chain }], guard := none }) rfl (fun KC hKC => ?_) AllReadyH.nil
                    refine step_append_g infoIt rfl _ _ 47 rfl Try.underlying47 w9.heap.size _ _ (D.take m ++ [⟨N, F, B, C, U⟩]) rfl o10 hC.size _ (D.drop m) rfl (o9.rd.grow hC) (by simp; omega) ?_
                    intro v12 wr12 o12 hT12
                    obtain ⟨g12, k12, e12, hg12, -, -⟩ := o12.form (by simp; omega)
                    obtain ⟨n12, hn12⟩ := hid_ex ((D.take m ++ [(⟨N, F, B, C, U⟩ : It)] ++ D.drop m).length)
                    rw [hn12.out] at e12
                    replace hC := hC.trans hT12.low
                    subst e12
                    refine hKC.out _ _ (HR.out _ (hlow9.trans (hC.mono hz9))) (fun hHeld2 => ?_)
                    clear hKC KC hHeld
                    have hHeld := hHeld2
                    clear hHeld2
                    (try simp only [Act.put, List.setIfInBounds_toArray, List.set_cons_zero, List.set_cons_succ])
                    refine wpAnyH_take (i := 13) (oi := { dst := some 6, op := Op.assign (Operand.tmp 66), type := 47, pos := "l14_age.go:20", after := #[{ on := 12, ground := Ground.data }, { on := 12, ground := Ground.chain }, { on := 0, ground := Ground.phase }, { on := 1, ground := Ground.phase }, { on := 2, ground := Ground.phase }, { on := 3, ground := Ground.phase }, { on := 4, ground := Ground.phase }, { on := 5, ground := Ground.phase }, { on := 6, ground := Ground.phase }, { on := 7, ground := Ground.phase }, { on := 8, ground := Ground.phase }, { on := 9, ground := Ground.phase }, { on := 10, ground := Ground.phase }, { on := 11, ground := Ground.phase }, { on := 12, ground := Ground.phase }], guard := none }) (v := ?_) rfl (by kernel_rfl) (by kernel_rfl) (by kernel_rfl) (fun _ _ _ h => h) (Or.inl ⟨by rfl, ?_⟩) (by assumption) ?_
                    rotate_left 1
                    · intro w' hSw; (try dsimp only at hSw); go_simp; (try with_reducible rfl)
                    (try simp only [Act.put, List.setIfInBounds_toArray, List.set_cons_zero, List.set_cons_succ])
                    refine wpAnyH_done (by kernel_rfl) ?_ _
                    go_wp2
                    go_roundw
                    case rel => exact ⟨i + 1, insU D ⟨N, F, B, C, U⟩, g12, _, k12, rfl, by go_num, by omega, HF3, ⟨by rw [hdl.out]; exact o12.wide (by omega) (Nat.le_refl _), hlow9.trans (hC.mono hz9)⟩, by rw [ins_len]; omega⟩
                    case measure => simp [intOf]; omega
                  go_simp
                  have hBr9 := bAi wr0 (.cells #[.string N, .int .i64 F, .string B, .int .i64 C, .int .i64 U] 53)
                  have rd9 := rd_new (E := encIt) wr0 ⟨N, F, B, C, U⟩ #[.string N, .int .i64 F, .string B, .int .i64 C, .int .i64 U] rfl
                  replace hC := hC.trans (hBr9.mono hC.size)
                  (try replace o4 := (o4.grow hBr9).wide (Nat.le_refl _) hBr9.size)
                  refine hKC.out _ _ (HR.out _ (hlow9.trans (hC.mono hz9))) (fun hHeld2 => ?_)
                  clear hKC KC hHeld
                  have hHeld := hHeld2
                  clear hHeld2
                  (try simp only [Act.put, List.setIfInBounds_toArray, List.set_cons_zero, List.set_cons_succ])
                  refine wpAnyH_ready (rs := [4]) (by kernel_rfl) (by simp) ?_
                  refine AllReadyH.cons (o := { dst := some 58, op := Op.call { callee := Callee.builtin Builtin.append, args := #[Operand.tmp 54, Operand.tmp 57], argTypes := #[47, 47] }, type := 47, pos := "l14_age.go:20", after := #[{ on := 0, ground := Ground.data }, { on := 3, ground := Ground.data }], guard := none }) rfl (fun KC hKC => ?_) AllReadyH.nil
                  refine step_append_g infoIt rfl _ _ 47 rfl Try.underlying47 (wr0.alloc (.cells #[.string N, .int .i64 F, .string B, .int .i64 C, .int .i64 U] 53)).heap.size _ _ [] rfl (own_zero _ _ _ 0 _) (Nat.le_refl _) _ (D.take m) rfl (RT9.out.grow hC) (by simp; omega) ?_
                  intro v4 wr4 o4 hT4
                  rw [List.nil_append] at o4
                  obtain ⟨a4, n4, k4, rfl⟩ := o4.slice
                  have hBr4 := hT4.low
                  have hl4 : w9.heap.size ≤ (wr0.alloc (.cells #[.string N, .int .i64 F, .string B, .int .i64 C, .int .i64 U] 53)).heap.size := hC.size
                  replace hC := hC.trans (hBr4.mono hC.size)
                  (try replace rd9 := rd9.grow hBr4)
                  replace o4 := o4.wide hl4 (Nat.le_refl _)
                  refine hKC.out _ _ (HR.out _ (hlow9.trans (hC.mono hz9))) (fun hHeld2 => ?_)
                  clear hKC KC hHeld
                  have hHeld := hHeld2
                  clear hHeld2
                  (try simp only [Act.put, List.setIfInBounds_toArray, List.set_cons_zero, List.set_cons_succ])
                  refine wpAnyH_ready (rs := [10]) (by kernel_rfl) (by simp) ?_
                  refine AllReadyH.cons (o := { dst := some 64, op := Op.call { callee := Callee.builtin Builtin.append, args := #[Operand.tmp 58, Operand.tmp 63], argTypes := #[47, 47] }, type := 47, pos := "l14_age.go:20", after := #[{ on := 4, ground := Ground.data }, { on := 9, ground := Ground.data }, { on := 4, ground := Ground.chain }], guard := none }) rfl (fun KC hKC => ?_) AllReadyH.nil
                  refine step_append_g infoIt rfl _ _ 47 rfl Try.underlying47 w9.heap.size _ _ (D.take m) rfl o4 hC.size _ [⟨N, F, B, C, U⟩] rfl rd9 (by simp; omega) ?_
                  intro v10 wr10 o10 hT10
                  obtain ⟨a10, n10, k10, rfl⟩ := o10.slice
                  replace hC := hC.trans hT10.low
                  refine hKC.out _ _ (HR.out _ (hlow9.trans (hC.mono hz9))) (fun hHeld2 => ?_)
                  clear hKC KC hHeld
                  have hHeld := hHeld2
                  clear hHeld2
                  (try simp only [Act.put, List.setIfInBounds_toArray, List.set_cons_zero, List.set_cons_succ])
                  refine wpAnyH_ready (rs := [12]) (by kernel_rfl) (by simp) ?_
                  refine AllReadyH.cons (o := { dst := some 66, op := Op.call { callee := Callee.builtin Builtin.append, args := #[Operand.tmp 64, Operand.tmp 65], argTypes := #[47, 47] }, type := 47, pos := "l14_age.go:20", after := #[{ on := 10, ground := Ground.data }, { on := 11, ground := Ground.data }, { on := 10, ground := Ground.chain }], guard := none }) rfl (fun KC hKC => ?_) AllReadyH.nil
                  refine step_append_g infoIt rfl _ _ 47 rfl Try.underlying47 w9.heap.size _ _ (D.take m ++ [⟨N, F, B, C, U⟩]) rfl o10 hC.size _ (D.drop m) rfl (o9.rd.grow hC) (by simp; omega) ?_
                  intro v12 wr12 o12 hT12
                  obtain ⟨g12, k12, e12, hg12, -, -⟩ := o12.form (by simp; omega)
                  obtain ⟨n12, hn12⟩ := hid_ex ((D.take m ++ [(⟨N, F, B, C, U⟩ : It)] ++ D.drop m).length)
                  rw [hn12.out] at e12
                  replace hC := hC.trans hT12.low
                  subst e12
                  refine hKC.out _ _ (HR.out _ (hlow9.trans (hC.mono hz9))) (fun hHeld2 => ?_)
                  clear hKC KC hHeld
                  have hHeld := hHeld2
                  clear hHeld2
                  (try simp only [Act.put, List.setIfInBounds_toArray, List.set_cons_zero, List.set_cons_succ])
                  refine wpAnyH_take (i := 13) (oi := { dst := some 6, op := Op.assign (Operand.tmp 66), type := 47, pos := "l14_age.go:20", after := #[{ on := 12, ground := Ground.data }, { on := 12, ground := Ground.chain }, { on := 0, ground := Ground.phase }, { on := 1, ground := Ground.phase }, { on := 2, ground := Ground.phase }, { on := 3, ground := Ground.phase }, { on := 4, ground := Ground.phase }, { on := 5, ground := Ground.phase }, { on := 6, ground := Ground.phase }, { on := 7, ground := Ground.phase }, { on := 8, ground := Ground.phase }, { on := 9, ground := Ground.phase }, { on := 10, ground := Ground.phase }, { on := 11, ground := Ground.phase }, { on := 12, ground := Ground.phase }], guard := none }) (v := ?_) rfl (by kernel_rfl) (by kernel_rfl) (by kernel_rfl) (fun _ _ _ h => h) (Or.inl ⟨by rfl, ?_⟩) (by assumption) ?_
                  rotate_left 1
                  · intro w' hSw; (try dsimp only at hSw); go_simp; (try with_reducible rfl)
                  (try simp only [Act.put, List.setIfInBounds_toArray, List.set_cons_zero, List.set_cons_succ])
                  refine wpAnyH_done (by kernel_rfl) ?_ _
                  go_wp2
                  go_roundw
                  case rel => exact ⟨i + 1, insU D ⟨N, F, B, C, U⟩, g12, _, k12, rfl, by go_num, by omega, HF3, ⟨by rw [hdl.out]; exact o12.wide (by omega) (Nat.le_refl _), hlow9.trans (hC.mono hz9)⟩, by rw [ins_len]; omega⟩
                  case measure => simp [intOf]; omega
                go_simp
                have hBr9 := bAi w9.drew (.cells #[.string N, .int .i64 F, .string B, .int .i64 C, .int .i64 U] 53)
                have rd9 := rd_new (E := encIt) w9.drew ⟨N, F, B, C, U⟩ #[.string N, .int .i64 F, .string B, .int .i64 C, .int .i64 U] rfl
                replace hC := hC.trans (hBr9.mono hC.size)
                (try replace o4 := (o4.grow hBr9).wide (Nat.le_refl _) hBr9.size)
                refine hKC.out _ _ (HR.out _ (hlow9.trans (hC.mono hz9))) (fun hHeld2 => ?_)
                clear hKC KC hHeld
                have hHeld := hHeld2
                clear hHeld2
                (try simp only [Act.put, List.setIfInBounds_toArray, List.set_cons_zero, List.set_cons_succ])
                refine wpAnyH_ready (rs := [0]) (by kernel_rfl) (by simp) ?_
                refine AllReadyH.cons (o := { dst := some 54, op := Op.buildSlice 47 0 #[], type := 47, pos := "l14_age.go:20", after := #[], guard := none }) rfl (fun KC hKC => ?_) AllReadyH.nil
                refine step_build0i rfl 47 _ iT rfl Try.underlying47 hiT ?_
                intro b0 wr0 hBr0
                replace hC := hC.trans (hBr0.mono hC.size)
                (try replace rd9 := rd9.grow hBr0)
                refine hKC.out _ _ (HR.out _ (hlow9.trans (hC.mono hz9))) (fun hHeld2 => ?_)
                clear hKC KC hHeld
                have hHeld := hHeld2
                clear hHeld2
                (try simp only [Act.put, List.setIfInBounds_toArray, List.set_cons_zero, List.set_cons_succ])
                refine wpAnyH_ready (rs := [4]) (by kernel_rfl) (by simp) ?_
                refine AllReadyH.cons (o := { dst := some 58, op := Op.call { callee := Callee.builtin Builtin.append, args := #[Operand.tmp 54, Operand.tmp 57], argTypes := #[47, 47] }, type := 47, pos := "l14_age.go:20", after := #[{ on := 0, ground := Ground.data }, { on := 3, ground := Ground.data }], guard := none }) rfl (fun KC hKC => ?_) AllReadyH.nil
                refine step_append_g infoIt rfl _ _ 47 rfl Try.underlying47 wr0.heap.size _ _ [] rfl (own_zero _ _ _ 0 _) (Nat.le_refl _) _ (D.take m) rfl (RT9.out.grow hC) (by simp; omega) ?_
                intro v4 wr4 o4 hT4
                rw [List.nil_append] at o4
                obtain ⟨a4, n4, k4, rfl⟩ := o4.slice
                have hBr4 := hT4.low
                have hl4 : w9.heap.size ≤ wr0.heap.size := hC.size
                replace hC := hC.trans (hBr4.mono hC.size)
                (try replace rd9 := rd9.grow hBr4)
                replace o4 := o4.wide hl4 (Nat.le_refl _)
                refine hKC.out _ _ (HR.out _ (hlow9.trans (hC.mono hz9))) (fun hHeld2 => ?_)
                clear hKC KC hHeld
                have hHeld := hHeld2
                clear hHeld2
                (try simp only [Act.put, List.setIfInBounds_toArray, List.set_cons_zero, List.set_cons_succ])
                refine wpAnyH_ready (rs := [10]) (by kernel_rfl) (by simp) ?_
                refine AllReadyH.cons (o := { dst := some 64, op := Op.call { callee := Callee.builtin Builtin.append, args := #[Operand.tmp 58, Operand.tmp 63], argTypes := #[47, 47] }, type := 47, pos := "l14_age.go:20", after := #[{ on := 4, ground := Ground.data }, { on := 9, ground := Ground.data }, { on := 4, ground := Ground.chain }], guard := none }) rfl (fun KC hKC => ?_) AllReadyH.nil
                refine step_append_g infoIt rfl _ _ 47 rfl Try.underlying47 w9.heap.size _ _ (D.take m) rfl o4 hC.size _ [⟨N, F, B, C, U⟩] rfl rd9 (by simp; omega) ?_
                intro v10 wr10 o10 hT10
                obtain ⟨a10, n10, k10, rfl⟩ := o10.slice
                replace hC := hC.trans hT10.low
                refine hKC.out _ _ (HR.out _ (hlow9.trans (hC.mono hz9))) (fun hHeld2 => ?_)
                clear hKC KC hHeld
                have hHeld := hHeld2
                clear hHeld2
                (try simp only [Act.put, List.setIfInBounds_toArray, List.set_cons_zero, List.set_cons_succ])
                refine wpAnyH_ready (rs := [12]) (by kernel_rfl) (by simp) ?_
                refine AllReadyH.cons (o := { dst := some 66, op := Op.call { callee := Callee.builtin Builtin.append, args := #[Operand.tmp 64, Operand.tmp 65], argTypes := #[47, 47] }, type := 47, pos := "l14_age.go:20", after := #[{ on := 10, ground := Ground.data }, { on := 11, ground := Ground.data }, { on := 10, ground := Ground.chain }], guard := none }) rfl (fun KC hKC => ?_) AllReadyH.nil
                refine step_append_g infoIt rfl _ _ 47 rfl Try.underlying47 w9.heap.size _ _ (D.take m ++ [⟨N, F, B, C, U⟩]) rfl o10 hC.size _ (D.drop m) rfl (o9.rd.grow hC) (by simp; omega) ?_
                intro v12 wr12 o12 hT12
                obtain ⟨g12, k12, e12, hg12, -, -⟩ := o12.form (by simp; omega)
                obtain ⟨n12, hn12⟩ := hid_ex ((D.take m ++ [(⟨N, F, B, C, U⟩ : It)] ++ D.drop m).length)
                rw [hn12.out] at e12
                replace hC := hC.trans hT12.low
                subst e12
                refine hKC.out _ _ (HR.out _ (hlow9.trans (hC.mono hz9))) (fun hHeld2 => ?_)
                clear hKC KC hHeld
                have hHeld := hHeld2
                clear hHeld2
                (try simp only [Act.put, List.setIfInBounds_toArray, List.set_cons_zero, List.set_cons_succ])
                refine wpAnyH_take (i := 13) (oi := { dst := some 6, op := Op.assign (Operand.tmp 66), type := 47, pos := "l14_age.go:20", after := #[{ on := 12, ground := Ground.data }, { on := 12, ground := Ground.chain }, { on := 0, ground := Ground.phase }, { on := 1, ground := Ground.phase }, { on := 2, ground := Ground.phase }, { on := 3, ground := Ground.phase }, { on := 4, ground := Ground.phase }, { on := 5, ground := Ground.phase }, { on := 6, ground := Ground.phase }, { on := 7, ground := Ground.phase }, { on := 8, ground := Ground.phase }, { on := 9, ground := Ground.phase }, { on := 10, ground := Ground.phase }, { on := 11, ground := Ground.phase }, { on := 12, ground := Ground.phase }], guard := none }) (v := ?_) rfl (by kernel_rfl) (by kernel_rfl) (by kernel_rfl) (fun _ _ _ h => h) (Or.inl ⟨by rfl, ?_⟩) (by assumption) ?_
                rotate_left 1
                · intro w' hSw; (try dsimp only at hSw); go_simp; (try with_reducible rfl)
                (try simp only [Act.put, List.setIfInBounds_toArray, List.set_cons_zero, List.set_cons_succ])
                refine wpAnyH_done (by kernel_rfl) ?_ _
                go_wp2
                go_roundw
                case rel => exact ⟨i + 1, insU D ⟨N, F, B, C, U⟩, g12, _, k12, rfl, by go_num, by omega, HF3, ⟨by rw [hdl.out]; exact o12.wide (by omega) (Nat.le_refl _), hlow9.trans (hC.mono hz9)⟩, by rw [ins_len]; omega⟩
                case measure => simp [intOf]; omega
      · have hlt' : ¬ (i : Int) < (b.length : Int) := by omega
        have HD : Hid (dueL b now = D) := by
          have := HF.out
          rw [List.take_of_length_le (by omega)] at this
          exact this
        have hnD : Hid (n = D.length) := SD.out.o.rd.cap.1
        have hn20 : n ≤ 20 := by have := hnD.out; omega
        have mz : Hid True := trivial
        go_wp2_with (fail)
        have O0 : Hid (Own encS wr w.heap.size wr.heap.size (.slice (some ⟨b1, 0, none⟩) 0 0) ((D.take 0).map (·.N))) := own_zero _ _ _ _ _
        go_loopw [5, 10] (fun ov jv wq => ∃ (j : Nat) (ao : Option Addr) (no ko : Nat), ov = .slice ao no ko ∧ jv = .int .i64 j ∧ j ≤ n ∧ Hid (Own encS wq w.heap.size wq.heap.size (.slice ao no ko) ((D.take j).map (·.N))) ∧ Hid (Sq w g n k D wq)) (fun _ jv _ => n - (intOf jv).toNat)
        case atStart => exact ⟨0, _, _, _, rfl, rfl, by omega, O0, SD⟩
        case round =>
          clear O0 SD
          obtain ⟨j, ao, no, ko, rfl, rfl, hj, OO, SD⟩ := hrel
          by_cases hjn : j < n
          · have hjn' : (j : Int) < (n : Int) := by omega
            have hjD : j < D.length := by have := hnD.out; omega
            obtain ⟨g2, e2, -, d0, -⟩ := SD.out.o.cell j 0 hjD (by decide)
            cases e2
            have d0 : wr.cell? ⟨g, j * 5, none⟩ = some (.string D[j].N) := d0
            obtain ⟨s, hs⟩ := hid_ex (D[j].N)
            rw [hs.out] at d0
            have htk : Hid ((D.take (j + 1)).map (·.N) = (D.take j).map (·.N) ++ [s]) := by unfold Hid; rw [← List.take_append_getElem hjD, List.map_append, ← hs.out]; rfl
            go_wp2_with (first | (at_builtin; refine wpList_append_g infoS rfl _ _ 24 rfl Try.underlying24 w.heap.size _ _ ((D.take j).map (·.N)) rfl (OO.out.grow (bAi wr _)) (by have := SD.out.low.size; simp; omega) _ [s] rfl (rd_new (E := encS) wr s #[.string s] rfl) (by simp; omega) ?_; intro v7 w7 o7 hT7; have hB7 := bAi wr (.cells #[.string s] 9); have S7 : Hid (Sq w g n k D w7) := ⟨(hT7.own (SD.out.o.grow hB7) (by decide)).top, (SD.out.low.trans (hB7.mono SD.out.low.size)).trans hT7.low⟩; obtain ⟨a7, n7, k7, rfl⟩ := o7.slice) | (fail))
            go_roundw
            case rel => exact ⟨j + 1, a7, n7, k7, rfl, by go_num, by omega, by unfold Hid; rw [htk.out]; exact o7, S7⟩
            case measure => simp [intOf]; omega
          · have hjn' : ¬ (j : Int) < (n : Int) := by omega
            go_wp2
            go_ret
            refine ⟨_, rfl, ?_, SD.out.low⟩
            have := OO.out
            rw [List.take_of_length_le (by have := hnD.out; omega)] at this
            rw [hz0.out, HD.out]
            exact this
end Go.Proofs.Ytmnjmghlkiljhaa.rg
/- A row that is filled from its head on, of whatever things: made, stored into, full. -/
namespace Go.Proofs.Ytmnjmghlkiljhaa.ro
open Go.ChangeShapes Go.WideShapes Go.ChangeAt Go.RowKit
open Go.Proofs.Ytmnjmghlkiljhaa.ce
set_option linter.unusedVariables false
variable {α : Type}

structure Part (E : Enc α) (w : World) (lo g n cap : Nat) (G : List α) : Prop where
  own : ∃ X, w.ownsRow lo E.t E.k (.slice (some ⟨g, 0, none⟩) n cap) n X ∧ X.take (G.length * E.k) = E.row G
theorem Part.keep {E : Enc α} {w w' : World} {lo g n cap : Nat} {G : List α} (p : Part E w lo g n cap G) (e : w'.heap[g]? = w.heap[g]?) : Part E w' lo g n cap G := by
  obtain ⟨X, hX, ht⟩ := p.own
  refine ⟨X, ⟨hX.1, ?_⟩, ht⟩
  rcases hX.2 with h | ⟨g', cap', cur, e', hg, hb, h⟩
  · exact .inl h
  · cases e'
    exact .inr ⟨g, cap, cur, rfl, hg, by rw [e]; exact hb, h⟩
theorem Part.lt {E : Enc α} {w : World} {lo g n cap : Nat} {G : List α} (p : Part E w lo g n cap G) : lo ≤ g ∧ g < w.heap.size := by
  obtain ⟨X, hX, ht⟩ := p.own
  exact hX.lt g rfl
theorem Part.full {E : Enc α} {w : World} {lo g n cap : Nat} {G : List α} (p : Part E w lo g n cap G) (hn : G.length = n) : Own E w lo w.heap.size (.slice (some ⟨g, 0, none⟩) n cap) G := by
  subst hn
  obtain ⟨X, hX, ht⟩ := p.own
  rw [List.take_of_length_le (by rw [hX.1]; exact Nat.le_refl _)] at ht
  subst ht
  exact own_of hX
section
variable {ops : Array Oper} {rest : List Oper} {o : Oper} {a : Act} {w : World} {Q : Exit → Act → World → Prop}
theorem wpList_make_p {E : Enc α} (I : Info E) (hgd : o.guard = none) (l c : Operand) (t : TypeId) (ho : o.op = .makeSlice t l c) (ht : Try.prog.underlying t = some (.slice E.t)) (n : Nat) (hn : n ≤ 1048576) (hl : a.eval l = .int .i64 n) (hc : a.eval c = .int .i64 n)
    (h : ∀ b w', w.heap.size ≤ b → b < w'.heap.size → Below w.heap.size w w' → Part E w' w.heap.size b n n [] → wpList Try.prog ops Q rest (a.put o.dst (.slice (some ⟨b, 0, none⟩) n n)) w') : wpList Try.prog ops Q (o :: rest) a w := by
  obtain ⟨i0, z, hi0, hz0, hz1, hz2, hz3⟩ := I.ex
  refine wpList_make_full _ hgd l c t ho w.heap.size E.t i0 z E.k ht hi0 hz0 hz1 .i64 .i64 n n n hl hc rfl rfl (by have := Nat.mul_le_mul hz2 hn; omega) (by unfold maxLen; omega) (Nat.le_refl _) ?_
  intro w1 h1 h2
  have hb : Below w.heap.size w w1 := below_grown h2 (Nat.le_refl _) (fun k hk => by cases hk)
  exact h _ w1 (Nat.le_refl _) (h1.lt _ rfl).2 hb ⟨_, h1, by simp [Enc.row]⟩
theorem wpList_store_p {E : Enc α} (hsz : (Try.prog.info? E.t).map (·.size) = some E.k) (hgd : o.guard = none) (x y : Operand) (ho : o.op = .store E.t x y) (lo g n cap i j0 : Nat) (G : List α) (c : α) (hx : a.eval x = .pointer (some ⟨g, j0, none⟩)) (hj0 : j0 = i * E.k) (hy : a.eval y = .agg (E.put c).toArray)
    (hp : Part E w lo g n cap G) (hi : G.length = i) (hlt : i < n) (h : ∀ w', Only g w w' → Part E w' lo g n cap (G ++ [c]) → wpList Try.prog ops Q rest (a.put o.dst undef) w') : wpList Try.prog ops Q (o :: rest) a w := by
  subst hi
  subst hj0
  obtain ⟨X, hX, ht⟩ := hp.own
  have h4 : (E.put c).length = E.k := E.len c
  have hm : (G.length + 1) * E.k = G.length * E.k + E.k := by rw [Nat.add_mul]; omega
  have hm2 : (G.length + 1) * E.k ≤ n * E.k := Nat.mul_le_mul_right _ (by omega)
  rcases hX.2 with ⟨h', _⟩ | ⟨g', cap', cur, h', hg, hb, hc1, hc2, hc3, htk⟩
  · simp at h'
  · cases h'
    have hm3 : n * E.k ≤ cap * E.k := Nat.mul_le_mul_right _ hc1
    have hcs : cur.toList.length = cur.size := Array.length_toList
    refine wpList_store_mid hgd E.t x y ho g (G.length * E.k) (E.put c).toArray hx hy (fun j hj => ⟨?_, frozen_of_row _ _ _ _ _ hb⟩) (by rw [hsz, List.size_toArray, h4]) (all_oneCell_toArray (E.one c)) (h _ (only_setCells _ _ _ _) ⟨(cur.toList.take (G.length * E.k) ++ E.put c ++ cur.toList.drop (G.length * E.k + E.k)).take (n * E.k), ⟨?_, .inr ⟨g, cap, (cur.toList.take (G.length * E.k) ++ E.put c ++ cur.toList.drop (G.length * E.k + E.k)).toArray, rfl, hg, ?_, hc1, hc2, ?_, rfl⟩⟩, ?_⟩)
    · rw [cell_of_row _ _ _ _ _ _ hb]
      have hj' : j < E.k := by rw [List.size_toArray, h4] at hj; exact hj
      simp; omega
    · simp only [List.length_take, List.length_append, List.length_drop, h4]; omega
    · have := heap_setCells g E.t (E.put c) (G.length * E.k) w cur.toList (by simpa using hb) (by omega)
      rw [h4] at this
      exact this
    · simp only [List.size_toArray, List.length_take, List.length_append, List.length_drop, h4]; omega
    · rw [E.row_append, ← ht, ← htk, List.take_take, List.take_take, List.length_append, List.length_singleton, show min ((G.length + 1) * E.k) (n * E.k) = G.length * E.k + E.k by omega, show min (G.length * E.k) (n * E.k) = G.length * E.k by omega, List.append_assoc, List.take_append, List.take_append]
      have hl : (cur.toList.take (G.length * E.k)).length = G.length * E.k := by simp; omega
      rw [hl, h4, show G.length * E.k + E.k - G.length * E.k = E.k by omega, List.take_of_length_le (l := cur.toList.take (G.length * E.k)) (by omega), List.take_of_length_le (l := E.put c) (by omega), E.row_one']
      simp
end
end Go.Proofs.Ytmnjmghlkiljhaa.ro
/- Contracts of the laws' helpers on things and books: sizes, copies, comparisons. -/
namespace Go.Proofs.Ytmnjmghlkiljhaa.rg
open Go.ChangeShapes Go.WideShapes Go.ChangeAt Go.RowKit
open Go.Proofs.Ytmnjmghlkiljhaa.ce Go.Proofs.Ytmnjmghlkiljhaa.ro
set_option linter.unusedVariables false

theorem szItem_any (N B : ByteArray) (F C U : Int) (hN : N.size ≤ 9223372036854775807) (hB : B.size ≤ 9223372036854775807) (L : Int) (hL : L ≤ 1048576) (hL0 : 0 ≤ L) (w : World) :
    Calls Try.prog 82 #[.agg #[.string N, .int .i64 F, .string B, .int .i64 C, .int .i64 U], .int .i64 L] w fun e w' => ∃ q : Int, e = .returned (.int .i64 q) ∧ Below w.heap.size w w' ∧ q ≤ 1048576 ∧ (0 ≤ q → N.size ≤ 1048576 ∧ B.size ≤ 1048576) := by
  have e1 : IntKind.i64.wrap (L - (N.size : Int)) = L - N.size := by rw [IntKind.wrap_i64]; omega
  by_cases h1 : L - (N.size : Int) < 0
  · go_enter Try.func82, Try.ntmps82
    go_wp2_with (first | (refine wpList_box_v rfl 110 _ rfl [.string N, .int .i64 F, .string B, .int .i64 C, .int .i64 U] rfl ?_; intro b1 w1 hb1 hw1 hB1 V1; obtain ⟨c0, c1, c2, c3, c4⟩ := cells5 V1) | (fail))
    go_ret
    exact ⟨-1, rfl, hB1, by omega, fun _ => by omega⟩
  · have e2 : IntKind.i64.wrap (L - (N.size : Int) - (B.size : Int)) = L - N.size - B.size := by rw [IntKind.wrap_i64]; omega
    by_cases h2 : L - (N.size : Int) - (B.size : Int) < 0
    · go_enter Try.func82, Try.ntmps82
      go_wp2_with (first | (refine wpList_box_v rfl 110 _ rfl [.string N, .int .i64 F, .string B, .int .i64 C, .int .i64 U] rfl ?_; intro b1 w1 hb1 hw1 hB1 V1; obtain ⟨c0, c1, c2, c3, c4⟩ := cells5 V1) | (fail))
      go_ret
      exact ⟨-1, rfl, hB1, by omega, fun _ => by omega⟩
    · go_enter Try.func82, Try.ntmps82
      go_wp2_with (first | (refine wpList_box_v rfl 110 _ rfl [.string N, .int .i64 F, .string B, .int .i64 C, .int .i64 U] rfl ?_; intro b1 w1 hb1 hw1 hB1 V1; obtain ⟨c0, c1, c2, c3, c4⟩ := cells5 V1) | (fail))
      go_ret
      exact ⟨_, rfl, hB1, by omega, fun _ => by omega⟩

set_option maxHeartbeats 1000000 in
theorem toItem_any (N B : ByteArray) (F C U : Int) (w : World) :
    Calls Try.prog 83 #[.agg #[.string N, .int .i64 F, .string B, .int .i64 C, .int .i64 U]] w fun e w' => e = .returned (.agg #[.string N, .int .i64 F, .string B, .int .i64 C, .int .i64 U]) ∧ Below w.heap.size w w' := by
  go_enter Try.func83, Try.ntmps83
  go_wp2
  have h1 : VBlk ((w.alloc (.cells #[.string N, .int .i64 F, .string B, .int .i64 C, .int .i64 U] 110)).alloc (.cells #[.string N, .int .i64 F, .string B, .int .i64 C, .int .i64 U] 53)) (w.heap.size + 1) 53 [.string N, .int .i64 F, .string B, .int .i64 C, .int .i64 U] := by
    have := heap_alloc_new (w.alloc (.cells #[.string N, .int .i64 F, .string B, .int .i64 C, .int .i64 U] 110)) (.cells #[.string N, .int .i64 F, .string B, .int .i64 C, .int .i64 U] 53)
    simpa [VBlk] using this
  refine row_retv rfl rfl (h1.of (Below.heap_alloc _ _ _ h1.lt)) Try.underlying53 sizeIt rfl ⟨rfl, ?_⟩
  exact (((Below.refl _ w).alloc (Nat.le_refl _) _).alloc (by simp) _).alloc (by simp <;> omega) _

theorem eqItem_any (N B : ByteArray) (F C U : Int) (w : World) :
    Calls Try.prog 84 #[.agg #[.string N, .int .i64 F, .string B, .int .i64 C, .int .i64 U], .agg #[.string N, .int .i64 F, .string B, .int .i64 C, .int .i64 U]] w fun e w' => e = .returned (.bool true) ∧ Below w.heap.size w w' := by
  have hN : (N.toList == N.toList) = true := by simp
  have hB : (B.toList == B.toList) = true := by simp
  have h1 : (F != F) = false := by simp
  have h2 : (C != C) = false := by simp
  have h3 : (U != U) = false := by simp
  have m1 : Hid True := trivial
  go_enter Try.func84, Try.ntmps84
  go_wp2_with (first | (clear m1; refine wpList_box_v rfl 53 _ rfl [.string N, .int .i64 F, .string B, .int .i64 C, .int .i64 U] rfl ?_; intro b1 w1 hb1 hw1 hB1 V1; have hz1 := hB1.size) | (refine wpList_box_v rfl 53 _ rfl [.string N, .int .i64 F, .string B, .int .i64 C, .int .i64 U] rfl ?_; intro b2 w2 hb2 hw2 hB2 V2; obtain ⟨c0, c1, c2, c3, c4⟩ := cells5 (vblk_grow V1 hB2); obtain ⟨d0, d1, d2, d3, d4⟩ := cells5 V2) | (fail))
  go_ret
  exact ⟨rfl, hB1.trans (hB2.mono hz1)⟩
end Go.Proofs.Ytmnjmghlkiljhaa.rg
/- A row of whatever things that came in as an argument, read as a list. -/
namespace Go.Proofs.Ytmnjmghlkiljhaa.ro
open Go.ChangeShapes Go.WideShapes Go.ChangeAt Go.RowKit
open Go.Deep Go.Joins
open Go.Proofs.Ytmnjmghlkiljhaa.ce
set_option linter.unusedVariables false

theorem add_noneK {a : Addr} (h : a.spot = none) (j : Nat) : a.add j = ⟨a.block, a.off + j, none⟩ := by
  obtain ⟨b, o, s⟩ := a
  simp at h
  subst h
  simp [Addr.add]
/-- a row of whatever things, among the arguments -/
theorem rd_of_trodK {α : Type} [Inhabited α] (E : Enc α) (p : α → Prop) {H : Type} {enc : TypeId × Value → H} {w : World} {n : Nat} {v : Value} {T : TypeId} {x : DataW H × List MemPlace} (hT : Try.prog.underlying T = some (.slice E.t)) (hc : Try.prog.cellsOf E.t = E.k)
    (dec : ∀ m cs y, DataW.trod enc Try.prog w 0 (fun _ => true) true m E.t cs = some y → ∃ z, cs = E.put z ∧ p z)
    (h : DataW.trod enc Try.prog w 0 (fun _ => true) true n T [v] = some x) : ∃ L, Rd E w v L ∧ ∀ z ∈ L, p z := by
  have hkp := E.pos
  rcases open_slice hT h with ⟨hcs, -⟩ | ⟨a, len, cap, m, n', D, Pl, hcs, -, hl, hm, hmm, -, hrow⟩
  · obtain rfl : v = .slice none 0 0 := by simpa using hcs
    exact ⟨[], rd_zero E w none 0 (Nat.zero_le _), fun k hk => by simp at hk⟩
  · obtain rfl : v = .slice (some a) len cap := by simpa using hcs
    rw [hc] at hrow
    have hlm : len ≤ m := by rw [hmm]; simp; exact hl
    have hex : ∀ i, i < len → ∃ z : α, w.cells? 0 (a.add (i * E.k)) E.k = some (E.put z) ∧ p z := fun i hi => by
      obtain ⟨cs', h1, h2⟩ := hrow i (by omega)
      obtain ⟨z, e0, hz⟩ := dec _ _ _ h2
      rw [e0] at h1
      exact ⟨z, h1, hz⟩
    obtain ⟨F, hF⟩ := choose_lt hex
    refine ⟨(List.range len).map F, ⟨some a, cap, by simp, by simpa using hl, hm, fun hn => ?_⟩, fun k hk => ?_⟩
    rotate_left
    · obtain ⟨i, hi, rfl⟩ := List.mem_map.1 hk
      exact (hF i (by simpa using hi)).2
    have h0 : 0 < len := by
      rcases Nat.eq_zero_or_pos len with e | e
      · subst e; exact absurd rfl hn
      · exact e
    have hcell : ∀ i, i < len → ∀ j, j < E.k → w.cell? ((a.add (i * E.k)).add j) = (E.put (F i))[j]? := fun i hi j hj => by
      obtain ⟨h1, h2, h3⟩ := World.cells?_some (hF i hi).1
      exact h3 j hj
    have hsome : ∀ i, i < len → ∀ j, j < E.k → ∃ u, w.cell? ((a.add (i * E.k)).add j) = some u := fun i hi j hj => by
      rw [hcell i hi j hj, List.getElem?_eq_getElem (by rw [E.len]; exact hj)]
      exact ⟨_, rfl⟩
    have hspot : a.spot = none := by
      obtain ⟨u, hu⟩ := hsome 0 h0 0 hkp
      have h5 : ((a.add (0 * E.k)).add 0).spot = none := World.cell?_spot hu
      obtain ⟨b, o, s⟩ := a
      cases s with
      | none => rfl
      | some s => simp [Addr.add] at h5
    have hlt : a.block < w.heap.size := by
      obtain ⟨u, hu⟩ := hsome 0 h0 0 hkp
      rw [add_noneK hspot, Addr.add_mid] at hu
      exact World.block_lt_of_cell? w ⟨a.block, a.off + 0 * E.k + 0, none⟩ hu
    refine ⟨a.block, a.off, by obtain ⟨b, o, s⟩ := a; simp at hspot; subst hspot; rfl, hlt, fun k u hku => ?_⟩
    have hkl : k < len * E.k := by
      have := (List.getElem?_eq_some_iff.1 hku).1
      rw [Enc.row_len] at this
      simpa using this
    obtain ⟨i, j, rfl, hj⟩ : ∃ i j, k = i * E.k + j ∧ j < E.k := ⟨k / E.k, k % E.k, by rw [Nat.mul_comm]; exact (Nat.div_add_mod k E.k).symm, Nat.mod_lt _ hkp⟩
    have hi : i < len := by
      rcases Nat.lt_or_ge i len with q | q
      · exact q
      · have := Nat.mul_le_mul_right E.k q; omega
    have hg := E.row_get ((List.range len).map F) i j (by simpa using hi) hj
    rw [hg] at hku
    have e : ((List.range len).map F)[i]'(by simpa using hi) = F i := by simp
    have := hcell i hi j hj
    rw [add_noneK hspot, Addr.add_mid, Nat.add_assoc] at this
    rw [e, ← this] at hku
    exact hku
end Go.Proofs.Ytmnjmghlkiljhaa.ro
