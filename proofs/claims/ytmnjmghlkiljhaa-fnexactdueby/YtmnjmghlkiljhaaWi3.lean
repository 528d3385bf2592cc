/- The model's DueBy. -/
import Derived.Test.YtmnjmghlkiljhaaWi2
import Derived.Test.YtmnjmghlkiljhaaSn5
namespace Go.Proofs.Ytmnjmghlkiljhaa.rg
open Go.ChangeShapes Go.WideShapes Go.ChangeAt Go.RowKit
open Go.Deep Go.Joins
open Go.Proofs.Ytmnjmghlkiljhaa.ce Go.Proofs.Ytmnjmghlkiljhaa.ro
set_option linter.unusedVariables false
set_option linter.unusedSimpArgs false

/-- while those that are due are sorted -/
structure Sq (w : World) (g n k : Nat) (D : List It) (wr : World) : Prop where
  o : Own encIt wr w.heap.size wr.heap.size (.slice (some ⟨g, 0, none⟩) n k) D
  low : Below w.heap.size w wr
theorem Sq.grow {w wr w' : World} {g n k : Nat} {D : List It} (S : Sq w g n k D wr) (hB : Below wr.heap.size wr w') : Sq w g n k D w' := ⟨(S.o.grow hB).wide (Nat.le_refl _) hB.size, S.low.trans (hB.mono S.low.size)⟩
set_option maxRecDepth 100000 in
set_option maxHeartbeats 8000000 in
theorem specDueBy_any (b : List It) (now : Int) (v : Value) (w : World) (r : Rd encIt w v b) (hs : SmK b) :
    Calls Try.prog 31 #[v, .int .i64 now] w fun e w' => ∃ v', e = .returned v' ∧ Own encS w' w.heap.size w'.heap.size v' (duR b now) ∧ Below w.heap.size w w' := by
  obtain ⟨a, cap, rfl⟩ := r.form
  have R : Hid (Rd encIt w (.slice a b.length cap) b) := r
  have HS : Hid (SmK b) := hs
  clear r hs
  obtain ⟨iT, hiT⟩ := infoItEi
  obtain ⟨iS, hiS⟩ := infoStEi
  obtain ⟨Z, hZ⟩ := hid_ex (duR b now)
  rw [hZ.out]
  have ma : Hid True := trivial
  cases hbk : bookB b with
  | false =>
    have hz0 : Hid (Z = []) := by unfold Hid; rw [← hZ.out]; unfold duR; rw [hbk]; rfl
    go_enter Try.func31, Try.ntmps31
    go_wp2_with (first | (clear ma; refine wpList_build0i rfl 24 _ iS rfl Try.underlying24 hiS ?_; intro b1 w1 hB1; have hz1 := hB1.size) | (go_at_call 36; refine (specBookOk_any b _ w1 (R.out.grow hB1) HS.out).mono ?_; rintro e w2 ⟨rfl, hB2⟩; rw [hbk]) | (fail))
    go_ret
    exact ⟨_, rfl, by rw [hz0.out]; exact own_zero _ _ _ _ _, hB1.trans (hB2.mono hz1)⟩
  | true =>
    have hz0 : Hid (Z = (dueL b now).map (·.N)) := by unfold Hid; rw [← hZ.out]; unfold duR; rw [if_pos hbk]
    have hb20 : b.length ≤ 20 := (bookB_iff.1 hbk).2.2
    have mb : Hid True := trivial
    go_enter Try.func31, Try.ntmps31
    go_wp2_with (first | (clear ma; refine wpList_build0i rfl 24 _ iS rfl Try.underlying24 hiS ?_; intro b1 w1 hB1; have hz1 := hB1.size) | (go_at_call 36; refine (specBookOk_any b _ w1 (R.out.grow hB1) HS.out).mono ?_; rintro e w2 ⟨rfl, hB2⟩; rw [hbk]; have hB12 := hB1.trans (hB2.mono hz1)) | (clear mb; refine wpList_build0i rfl 47 _ iT rfl Try.underlying47 hiT ?_; intro b3 w3 hB3; have S0 : Hid (Sq w b3 0 0 [] w3) := ⟨own_zero _ _ _ _ _, hB12.trans (hB3.mono hB12.size)⟩) | (fail))
    clear hB12 hB1 hB2 hB3 hz1
    go_loopw [6, 7] (fun dv iv wr => ∃ (i : Nat) (D : List It) (g n k : Nat), dv = .slice (some ⟨g, 0, none⟩) n k ∧ iv = .int .i64 i ∧ i ≤ b.length ∧ Hid (dueF ((b.take i).filter fun z => overB z now) = D) ∧ Hid (Sq w g n k D wr) ∧ D.length ≤ i) (fun _ iv _ => b.length - (intOf iv).toNat)
    case atStart => exact ⟨0, [], b3, 0, 0, rfl, rfl, by omega, rfl, S0, by simp⟩
    case round =>
      clear S0
      obtain ⟨i, D, g, n, k, rfl, rfl, hi, HF, SD, hDi⟩ := hrel
      by_cases hlt : i < b.length
      · have hlt' : (i : Int) < (b.length : Int) := by omega
        obtain ⟨bk, off, rfl, hbk2, hrng⟩ := rd_item (E := encIt) rfl rfl R.out i hlt
        obtain ⟨⟨N, F, B, C, U⟩, hx⟩ := hid_ex (b[i])
        rw [hx.out] at hrng
        have HR : Hid (∀ w', Below w.heap.size w w' → w'.cell? ⟨bk, off + i * 5, none⟩ = some (.string N) ∧ w'.cell? ⟨bk, off + i * 5 + 1, none⟩ = some (.int .i64 F) ∧ w'.cell? ⟨bk, off + i * 5 + 2, none⟩ = some (.string B) ∧ w'.cell? ⟨bk, off + i * 5 + 3, none⟩ = some (.int .i64 C) ∧ w'.cell? ⟨bk, off + i * 5 + 4, none⟩ = some (.int .i64 U)) := fun w' hB => by
          obtain ⟨p0, p1, p2, p3, p4⟩ := rng5 hrng
          exact ⟨by rw [hB.cell (by exact hbk2)]; exact p0, by rw [hB.cell (by exact hbk2)]; exact p1, by rw [hB.cell (by exact hbk2)]; exact p2, by rw [hB.cell (by exact hbk2)]; exact p3, by rw [hB.cell (by exact hbk2)]; exact p4⟩
        obtain ⟨q0, q1, q2, q3, q4⟩ := HR.out wr SD.out.low
        obtain ⟨y, hy⟩ := hid_ex (overB ⟨N, F, B, C, U⟩ now)
        have hf := dueF_take hlt now
        rw [hx.out, hy.out, HF.out] at hf
        have HF2 : Hid _ := hf
        clear hf hrng
        cases y with
        | false =>
          go_wp2_with (first | (go_at_call 37; refine (specOverAt_any N B F C U now false hy _).mono ?_; rintro e w5 ⟨rfl, hB5⟩) | (fail))
          go_roundw
          case rel => exact ⟨i + 1, D, g, n, k, rfl, by go_num, by omega, HF2.out.trans (if_neg (by decide)), SD.out.grow hB5, by omega⟩
          case measure => simp [intOf]; omega
        | true =>
          have HF3 : Hid (dueF ((b.take (i + 1)).filter fun z => overB z now) = insU D ⟨N, F, B, C, U⟩) := HF2.out.trans (if_pos rfl)
          clear HF2
          go_wp2_with (first | (go_at_call 37; refine (specOverAt_any N B F C U now true hy _).mono ?_; rintro e w5 ⟨rfl, hB5⟩; have S5 : Hid (Sq w g n k D w5) := SD.out.grow hB5) | (fail))
          clear q0 q1 q2 q3 q4 SD hB5
          have hn : Hid (n = D.length) := S5.out.o.rd.cap.1
          have hnk : n ≤ k := S5.out.o.rd.cap.2.1
          go_loopw [8] (fun kv wq => ∃ m : Nat, kv = .int .i64 m ∧ m ≤ n ∧ Hid (∀ j (h : j < D.length), j < m → D[j].U ≤ U) ∧ Hid (Sq w g n k D wq)) (fun kv _ => n - (intOf kv).toNat)
          case atStart => exact ⟨0, rfl, by omega, fun j h hj => by omega, S5⟩
          case round =>
            obtain ⟨m, rfl, hm, HM, S6⟩ := hrel
            obtain ⟨-, -, -, -, q4⟩ := HR.out wr S6.out.low
            by_cases hmn : m < n
            · have hmn' : (m : Int) < (n : Int) := by omega
              have hmD : m < D.length := by have := hn.out; omega
              obtain ⟨g2, e2, -, d4, -⟩ := S6.out.o.cell m 4 hmD (by decide)
              cases e2
              have d4 : wr.cell? ⟨g, m * 5 + 4, none⟩ = some (.int .i64 D[m].U) := d4
              obtain ⟨u, hu⟩ := hid_ex (D[m].U)
              rw [hu.out] at d4
              have S1 : wr.drew.cell? ⟨g, m * 5 + 4, none⟩ = some (.int .i64 u) ∧ wr.drew.cell? ⟨bk, off + i * 5 + 4, none⟩ = some (.int .i64 U) := ⟨d4, q4⟩
              go_upto_region 10 with (fail)
              go_region_held3 (fun w' => w'.cell? ⟨g, m * 5 + 4, none⟩ = some (.int .i64 u) ∧ w'.cell? ⟨bk, off + i * 5 + 4, none⟩ = some (.int .i64 U)) (first | with_reducible assumption | with_reducible exact S1 | (fail)) (fail)
              have S7 : Hid (Sq w g n k D wr.drew) := S6.out.grow (Below.refl _ _).drew
              by_cases huU : u ≤ U
              · go_wp2
                go_roundw
                case rel => exact ⟨m + 1, by go_num, by omega, fun j h hj => by
                  by_cases e : j = m
                  · subst e; rw [hu.out]; exact huU
                  · exact HM.out j h (by omega), S7⟩
                case measure => simp [intOf]; omega
              · have HE : Hid (∀ h : m < D.length, ¬ D[m].U ≤ U) := fun _ => by rw [hu.out]; exact huU
                clear d4 q4 S1 S6
                have hdl : Hid (insU D ⟨N, F, B, C, U⟩ = D.take m ++ [⟨N, F, B, C, U⟩] ++ D.drop m) := ins_at _ D m (by have := hn.out; omega) HM.out HE.out
                have hml : m ≤ D.length := by have := hn.out; omega
                have RT : Hid (Rd encIt wr.drew (.slice (some ⟨g, 0, none⟩) m k) (D.take m)) := S7.out.o.rd.take m hml
                have hd20 : D.length ≤ 20 := by omega
                have mc : Hid True := trivial
                have hmk : (m : Int) ≤ (k : Int) := by omega
                have hmn3 : (m : Int) ≤ (n : Int) := by omega
                rcases S7.out.o.rd.rest m hml with ⟨hmc, RD⟩ | ⟨hmc0, hnm0, -, RD⟩
                · have hmc' : (m : Int) < (k : Int) := by omega
                  have RD2 : Hid (Rd encIt wr.drew (.slice (some ⟨g, m * 5, none⟩) (n - m) (k - m)) (D.drop m)) := (by have h := RD; rw [Nat.zero_add] at h; exact h)
                  clear RD
                  go_upto_region 13 with (first | (clear mc; refine wpList_build0i rfl 47 _ iT rfl Try.underlying47 hiT ?_; intro b8 w8 hB8; have hz8 := hB8.size) | (at_builtin; refine wpList_append_g infoIt rfl _ _ 47 rfl Try.underlying47 w8.heap.size _ _ [] rfl (own_zero _ _ _ 0 _) (Nat.le_refl _) _ (D.drop m) rfl (RD2.out.grow hB8) (by simp; omega) ?_; intro v9 w9 o9 hT9; rw [List.nil_append] at o9; obtain ⟨a9, n9, k9, rfl⟩ := o9.slice; have hB9 : Below wr.drew.heap.size wr.drew w9 := hB8.trans (hT9.low.mono hz8)) | (fail))
                  have hz9 : w.heap.size ≤ w9.heap.size := Nat.le_trans S7.out.low.size hB9.size
                  have hlow9 : Below w.heap.size w w9 := S7.out.low.trans (hB9.mono S7.out.low.size)
                  have RT9 : Hid (Rd encIt w9 (.slice (some ⟨g, 0, none⟩) m k) (D.take m)) := RT.out.grow hB9
                  have hC : Below w9.heap.size w9 w9.drew := (Below.refl _ _).drew
                  (try simp only [Act.put])
                  (try simp only [List.setIfInBounds_toArray, List.set_cons_zero, List.set_cons_succ])
                  refine wp_region_held_drew (S := fun w' => w'.cell? ⟨bk, off + i * 5, none⟩ = some (.string N) ∧ w'.cell? ⟨bk, off + i * 5 + 1, none⟩ = some (.int .i64 F) ∧ w'.cell? ⟨bk, off + i * 5 + 2, none⟩ = some (.string B) ∧ w'.cell? ⟨bk, off + i * 5 + 3, none⟩ = some (.int .i64 C) ∧ w'.cell? ⟨bk, off + i * 5 + 4, none⟩ = some (.int .i64 U)) (by kernel_rfl) (HR.out _ (hlow9.trans (hC.mono hz9))) (fun hHeld => ?_)
                  refine wpAnyH_take (i := 1) (oi := { dst := some 55, op := Op.move (Operand.tmp 6), type := 47, pos := "l14_age.go:20", after := #[], guard := none }) (v := ?_) rfl (by kernel_rfl) (by kernel_rfl) (by kernel_rfl) (fun _ _ _ h => h) (Or.inl ⟨by rfl, ?_⟩) (by assumption) ?_
                  rotate_left 1
                  · intro w' hSw; (try dsimp only at hSw); go_simp; (try with_reducible rfl)
                  (try simp only [Act.put, List.setIfInBounds_toArray, List.set_cons_zero, List.set_cons_succ])
                  refine wpAnyH_take (i := 2) (oi := { dst := some 56, op := Op.move (Operand.tmp 8), type := 3, pos := "l14_age.go:20", after := #[], guard := none }) (v := ?_) rfl (by kernel_rfl) (by kernel_rfl) (by kernel_rfl) (fun _ _ _ h => h) (Or.inl ⟨by rfl, ?_⟩) (by assumption) ?_
                  rotate_left 1
                  · intro w' hSw; (try dsimp only at hSw); go_simp; (try with_reducible rfl)
                  (try simp only [Act.put, List.setIfInBounds_toArray, List.set_cons_zero, List.set_cons_succ])
                  refine wpAnyH_take (i := 3) (oi := { dst := some 57, op := Op.slice 47 (Operand.tmp 55) none (some (Operand.tmp 56)) none, type := 47, pos := "l14_age.go:20", after := #[{ on := 1, ground := Ground.data }, { on := 2, ground := Ground.data }], guard := none }) (v := ?_) rfl (by kernel_rfl) (by kernel_rfl) (by kernel_rfl) (fun _ _ _ h => h) (Or.inl ⟨by rfl, ?_⟩) (by assumption) ?_
                  rotate_left 1
                  · intro w' hSw; (try dsimp only at hSw); go_simp; (try with_reducible rfl)
                  (try simp only [Act.put, List.setIfInBounds_toArray, List.set_cons_zero, List.set_cons_succ])
                  refine wpAnyH_take (i := 5) (oi := { dst := some 59, op := Op.move (Operand.tmp 0), type := 47, pos := "l14_age.go:20", after := #[], guard := none }) (v := ?_) rfl (by kernel_rfl) (by kernel_rfl) (by kernel_rfl) (fun _ _ _ h => h) (Or.inl ⟨by rfl, ?_⟩) (by assumption) ?_
                  rotate_left 1
                  · intro w' hSw; (try dsimp only at hSw); go_simp; (try with_reducible rfl)
                  (try simp only [Act.put, List.setIfInBounds_toArray, List.set_cons_zero, List.set_cons_succ])
                  refine wpAnyH_take (i := 6) (oi := { dst := some 60, op := Op.move (Operand.tmp 7), type := 3, pos := "l14_age.go:20", after := #[], guard := none }) (v := ?_) rfl (by kernel_rfl) (by kernel_rfl) (by kernel_rfl) (fun _ _ _ h => h) (Or.inl ⟨by rfl, ?_⟩) (by assumption) ?_
                  rotate_left 1
                  · intro w' hSw; (try dsimp only at hSw); go_simp; (try with_reducible rfl)
                  (try simp only [Act.put, List.setIfInBounds_toArray, List.set_cons_zero, List.set_cons_succ])
                  refine wpAnyH_take (i := 7) (oi := { dst := some 61, op := Op.indexAddr 47 (Operand.tmp 59) (Operand.tmp 60), type := 0, pos := "l14_age.go:20", after := #[{ on := 5, ground := Ground.data }, { on := 6, ground := Ground.data }], guard := none }) (v := ?_) rfl (by kernel_rfl) (by kernel_rfl) (by kernel_rfl) (fun _ _ _ h => h) (Or.inl ⟨by rfl, ?_⟩) (by assumption) ?_
                  rotate_left 1
                  · intro w' hSw; (try dsimp only at hSw); go_simp; (try with_reducible rfl)
                  (try simp only [Act.put, List.setIfInBounds_toArray, List.set_cons_zero, List.set_cons_succ])
                  refine wpAnyH_take (i := 8) (oi := { dst := some 62, op := Op.load 53 (Operand.tmp 61), type := 53, pos := "l14_age.go:20", after := #[{ on := 7, ground := Ground.data }], guard := none }) (v := ?_) rfl (by kernel_rfl) (by kernel_rfl) (by kernel_rfl) (fun _ _ _ h => h) (Or.inl ⟨by rfl, ?_⟩) (by assumption) ?_
                  rotate_left 1
                  · intro w' hSw; (try dsimp only at hSw); go_simp; (try with_reducible rfl)
                  (try simp only [Act.put, List.setIfInBounds_toArray, List.set_cons_zero, List.set_cons_succ])
                  refine wpAnyH_take (i := 11) (oi := { dst := some 65, op := Op.move (Operand.tmp 9), type := 47, pos := "l14_age.go:20", after := #[], guard := none }) (v := ?_) rfl (by kernel_rfl) (by kernel_rfl) (by kernel_rfl) (fun _ _ _ h => h) (Or.inl ⟨by rfl, ?_⟩) (by assumption) ?_
                  rotate_left 1
                  · intro w' hSw; (try dsimp only at hSw); go_simp; (try with_reducible rfl)
                  (try simp only [Act.put, List.setIfInBounds_toArray, List.set_cons_zero, List.set_cons_succ])
                  refine wpAnyH_ready (rs := [0, 9]) (by kernel_rfl) (by simp) ?_
                  refine AllReadyH.cons (o := { dst := some 54, op := Op.buildSlice 47 0 #[], type := 47, pos := "l14_age.go:20", after := #[], guard := none }) rfl (fun KC hKC => ?_) (AllReadyH.cons (o := { dst := some 63, op := Op.buildSlice 47 1 #[(0, Operand.tmp 62)], type := 47, pos := "l14_age.go:20", after := #[{ on := 8, ground := Ground.data }], guard := none }) rfl (fun KC hKC => ?_) AllReadyH.nil)
                  · refine step_build0i rfl 47 _ iT rfl Try.underlying47 hiT ?_
                    intro b0 wr0 hBr0
                    replace hC := hC.trans (hBr0.mono hC.size)
                    (try replace rd9 := rd9.grow hBr0)
                    refine hKC.out _ _ (HR.out _ (hlow9.trans (hC.mono hz9))) (fun hHeld2 => ?_)
                    clear hKC KC hHeld
                    have hHeld := hHeld2
                    clear hHeld2
                    (try simp only [Act.put, List.setIfInBounds_toArray, List.set_cons_zero, List.set_cons_succ])
                    refine wpAnyH_ready (rs := [4, 9]) (by kernel_rfl) (by simp) ?_
                    refine AllReadyH.cons (o := { dst := some 58, op := Op.call { callee := Callee.builtin Builtin.append, args := #[Operand.tmp 54, Operand.tmp 57], argTypes := #[47, 47] }, type := 47, pos := "l14_age.go:20", after := #[{ on := 0, ground := Ground.data }, { on := 3, ground := Ground.data }], guard := none }) rfl (fun KC hKC => ?_) (AllReadyH.cons (o := { dst := some 63, op := Op.buildSlice 47 1 #[(0, Operand.tmp 62)], type := 47, pos := "l14_age.go:20", after := #[{ on := 8, ground := Ground.data }], guard := none }) rfl (fun KC hKC => ?_) AllReadyH.nil)
                    · refine step_append_g infoIt rfl _ _ 47 rfl Try.underlying47 wr0.heap.size _ _ [] rfl (own_zero _ _ _ 0 _) (Nat.le_refl _) _ (D.take m) rfl (RT9.out.grow hC) (by simp; omega) ?_
                      intro v4 wr4 o4 hT4
                      rw [List.nil_append] at o4
                      obtain ⟨a4, n4, k4, rfl⟩ := o4.slice
                      have hBr4 := hT4.low
                      have hl4 : w9.heap.size ≤ wr0.heap.size := hC.size
                      replace hC := hC.trans (hBr4.mono hC.size)
                      (try replace rd9 := rd9.grow hBr4)
                      replace o4 := o4.wide hl4 (Nat.le_refl _)
                      refine hKC.out _ _ (HR.out _ (hlow9.trans (hC.mono hz9))) (fun hHeld2 => ?_)
                      clear hKC KC hHeld
                      have hHeld := hHeld2
                      clear hHeld2
                      (try simp only [Act.put, List.setIfInBounds_toArray, List.set_cons_zero, List.set_cons_succ])
                      refine wpAnyH_ready (rs := [9]) (by kernel_rfl) (by simp) ?_
                      refine AllReadyH.cons (o := { dst := some 63, op := Op.buildSlice 47 1 #[(0, Operand.tmp 62)], type := 47, pos := "l14_age.go:20", after := #[{ on := 8, ground := Ground.data }], guard := none }) rfl (fun KC hKC => ?_) AllReadyH.nil
                      go_simp
                      have hBr9 := bAi wr4 (.cells #[.string N, .int .i64 F, .string B, .int .i64 C, .int .i64 U] 53)
                      have rd9 := rd_new (E := encIt) wr4 ⟨N, F, B, C, U⟩ #[.string N, .int .i64 F, .string B, .int .i64 C, .int .i64 U] rfl
                      replace hC := hC.trans (hBr9.mono hC.size)
                      (try replace o4 := (o4.grow hBr9).wide (Nat.le_refl _) hBr9.size)
                      refine hKC.out _ _ (HR.out _ (hlow9.trans (hC.mono hz9))) (fun hHeld2 => ?_)
                      clear hKC KC hHeld
                      have hHeld := hHeld2
                      clear hHeld2
                      (try simp only [Act.put, List.setIfInBounds_toArray, List.set_cons_zero, List.set_cons_succ])
                      refine wpAnyH_ready (rs := [10]) (by kernel_rfl) (by simp) ?_
                      refine AllReadyH.cons (o := { dst := some 64, op := Op.call { callee := Callee.builtin Builtin.append, args := #[Operand.tmp 58, Operand.tmp 63], argTypes := #[47, 47] }, type := 47, pos := "l14_age.go:20", after := #[{ on := 4, ground := Ground.data }, { on := 9, ground := Ground.data }, { on := 4, ground := Ground.chain }], guard := none }) rfl (fun KC hKC => ?_) AllReadyH.nil
                      refine step_append_g infoIt rfl _ _ 47 rfl Try.underlying47 w9.heap.size _ _ (D.take m) rfl o4 hC.size _ [⟨N, F, B, C, U⟩] rfl rd9 (by simp; omega) ?_
                      intro v10 wr10 o10 hT10
                      obtain ⟨a10, n10, k10, rfl⟩ := o10.slice
                      replace hC := hC.trans hT10.low
                      refine hKC.out _ _ (HR.out _ (hlow9.trans (hC.mono hz9))) (fun hHeld2 => ?_)
                      clear hKC KC hHeld
                      have hHeld := hHeld2
                      clear hHeld2
                      (try simp only [Act.put, List.setIfInBounds_toArray, List.set_cons_zero, List.set_cons_succ])
                      refine wpAnyH_ready (rs := [12]) (by kernel_rfl) (by simp) ?_
                      refine AllReadyH.cons (o := { dst := some 66, op := Op.call { callee := Callee.builtin Builtin.append, args := #[Operand.tmp 64, Operand.tmp 65], argTypes := #[47, 47] }, type := 47, pos := "l14_age.go:20", after := #[{ on := 10, ground := Ground.data }, { on := 11, ground := Ground.data }, { on := 10, ground := Ground.chain }], guard := none }) rfl (fun KC hKC => ?_) AllReadyH.nil
                      refine step_append_g infoIt rfl _ _ 47 rfl Try.underlying47 w9.heap.size _ _ (D.take m ++ [⟨N, F, B, C, U⟩]) rfl o10 hC.size _ (D.drop m) rfl (o9.rd.grow hC) (by simp; omega) ?_
                      intro v12 wr12 o12 hT12
                      obtain ⟨g12, k12, e12, hg12, -, -⟩ := o12.form (by simp; omega)
                      obtain ⟨n12, hn12⟩ := hid_ex ((D.take m ++ [(⟨N, F, B, C, U⟩ : It)] ++ D.drop m).length)
                      rw [hn12.out] at e12
                      replace hC := hC.trans hT12.low
                      subst e12
                      refine hKC.out _ _ (HR.out _ (hlow9.trans (hC.mono hz9))) (fun hHeld2 => ?_)
                      clear hKC KC hHeld
                      have hHeld := hHeld2
                      clear hHeld2
                      (try simp only [Act.put, List.setIfInBounds_toArray, List.set_cons_zero, List.set_cons_succ])
                      refine wpAnyH_take (i := 13) (oi := { dst := some 6, op := Op.assign (Operand.tmp 66), type := 47, pos := "l14_age.go:20", after := #[{ on := 12, ground := Ground.data }, { on := 12, ground := Ground.chain }, { on := 0, ground := Ground.phase }, { on := 1, ground := Ground.phase }, { on := 2, ground := Ground.phase }, { on := 3, ground := Ground.phase }, { on := 4, ground := Ground.phase }, { on := 5, ground := Ground.phase }, { on := 6, ground := Ground.phase }, { on := 7, ground := Ground.phase }, { on := 8, ground := Ground.phase }, { on := 9, ground := Ground.phase }, { on := 10, ground := Ground.phase }, { on := 11, ground := Ground.phase }, { on := 12, ground := Ground.phase }], guard := none }) (v := ?_) rfl (by kernel_rfl) (by kernel_rfl) (by kernel_rfl) (fun _ _ _ h => h) (Or.inl ⟨by rfl, ?_⟩) (by assumption) ?_
                      rotate_left 1
                      · intro w' hSw; (try dsimp only at hSw); go_simp; (try with_reducible rfl)
                      (try simp only [Act.put, List.setIfInBounds_toArray, List.set_cons_zero, List.set_cons_succ])
                      refine wpAnyH_done (by kernel_rfl) ?_ _
                      go_wp2
                      go_roundw
                      case rel => exact ⟨i + 1, insU D ⟨N, F, B, C, U⟩, g12, _, k12, rfl, by go_num, by omega, HF3, ⟨by rw [hdl.out]; exact o12.wide (by omega) (Nat.le_refl _), hlow9.trans (hC.mono hz9)⟩, by rw [ins_len]; omega⟩
                      case measure => simp [intOf]; omega
                    go_simp
                    have hBr9 := bAi wr0 (.cells #[.string N, .int .i64 F, .string B, .int .i64 C, .int .i64 U] 53)
                    have rd9 := rd_new (E := encIt) wr0 ⟨N, F, B, C, U⟩ #[.string N, .int .i64 F, .string B, .int .i64 C, .int .i64 U] rfl
                    replace hC := hC.trans (hBr9.mono hC.size)
                    (try replace o4 := (o4.grow hBr9).wide (Nat.le_refl _) hBr9.size)
                    refine hKC.out _ _ (HR.out _ (hlow9.trans (hC.mono hz9))) (fun hHeld2 => ?_)
                    clear hKC KC hHeld
                    have hHeld := hHeld2
                    clear hHeld2
                    (try simp only [Act.put, List.setIfInBounds_toArray, List.set_cons_zero, List.set_cons_succ])
                    refine wpAnyH_ready (rs := [4]) (by kernel_rfl) (by simp) ?_
                    refine AllReadyH.cons (o := { dst := some 58, op := Op.call { callee := Callee.builtin Builtin.append, args := #[Operand.tmp 54, Operand.tmp 57], argTypes := #[47, 47] }, type := 47, pos := "l14_age.go:20", after := #[{ on := 0, ground := Ground.data }, { on := 3, ground := Ground.data }], guard := none }) rfl (fun KC hKC => ?_) AllReadyH.nil
                    refine step_append_g infoIt rfl _ _ 47 rfl Try.underlying47 (wr0.alloc (.cells #[.string N, .int .i64 F, .string B, .int .i64 C, .int .i64 U] 53)).heap.size _ _ [] rfl (own_zero _ _ _ 0 _) (Nat.le_refl _) _ (D.take m) rfl (RT9.out.grow hC) (by simp; omega) ?_
                    intro v4 wr4 o4 hT4
                    rw [List.nil_append] at o4
                    obtain ⟨a4, n4, k4, rfl⟩ := o4.slice
                    have hBr4 := hT4.low
                    have hl4 : w9.heap.size ≤ (wr0.alloc (.cells #[.string N, .int .i64 F, .string B, .int .i64 C, .int .i64 U] 53)).heap.size := hC.size
                    replace hC := hC.trans (hBr4.mono hC.size)
                    (try replace rd9 := rd9.grow hBr4)
                    replace o4 := o4.wide hl4 (Nat.le_refl _)
                    refine hKC.out _ _ (HR.out _ (hlow9.trans (hC.mono hz9))) (fun hHeld2 => ?_)
                    clear hKC KC hHeld
                    have hHeld := hHeld2
                    clear hHeld2
                    (try simp only [Act.put, List.setIfInBounds_toArray, List.set_cons_zero, List.set_cons_succ])
                    refine wpAnyH_ready (rs := [10]) (by kernel_rfl) (by simp) ?_
                    refine AllReadyH.cons (o := { dst := some 64, op := Op.call { callee := Callee.builtin Builtin.append, args := #[Operand.tmp 58, Operand.tmp 63], argTypes := #[47, 47] }, type := 47, pos := "l14_age.go:20", after := #[{ on := 4, ground := Ground.data }, { on := 9, ground := Ground.data }, { on := 4, ground := Ground.chain }], guard := none }) rfl (fun KC hKC => ?_) AllReadyH.nil
                    refine step_append_g infoIt rfl _ _ 47 rfl Try.underlying47 w9.heap.size _ _ (D.take m) rfl o4 hC.size _ [⟨N, F, B, C, U⟩] rfl rd9 (by simp; omega) ?_
                    intro v10 wr10 o10 hT10
                    obtain ⟨a10, n10, k10, rfl⟩ := o10.slice
                    replace hC := hC.trans hT10.low
                    refine hKC.out _ _ (HR.out _ (hlow9.trans (hC.mono hz9))) (fun hHeld2 => ?_)
                    clear hKC KC hHeld
                    have hHeld := hHeld2
                    clear hHeld2
                    (try simp only [Act.put, List.setIfInBounds_toArray, List.set_cons_zero, List.set_cons_succ])
                    refine wpAnyH_ready (rs := [12]) (by kernel_rfl) (by simp) ?_
                    refine AllReadyH.cons (o := { dst := some 66, op := Op.call { callee := Callee.builtin Builtin.append, args := #[Operand.tmp 64, Operand.tmp 65], argTypes := #[47, 47] }, type := 47, pos := "l14_age.go:20", after := #[{ on := 10, ground := Ground.data }, { on := 11, ground := Ground.data }, { on := 10, ground := Ground.chain }], guard := none }) rfl (fun KC hKC => ?_) AllReadyH.nil
                    refine step_append_g infoIt rfl _ _ 47 rfl Try.underlying47 w9.heap.size _ _ (D.take m ++ [⟨N, F, B, C, U⟩]) rfl o10 hC.size _ (D.drop m) rfl (o9.rd.grow hC) (by simp; omega) ?_
                    intro v12 wr12 o12 hT12
                    obtain ⟨g12, k12, e12, hg12, -, -⟩ := o12.form (by simp; omega)
                    obtain ⟨n12, hn12⟩ := hid_ex ((D.take m ++ [(⟨N, F, B, C, U⟩ : It)] ++ D.drop m).length)
                    rw [hn12.out] at e12
                    replace hC := hC.trans hT12.low
                    subst e12
                    refine hKC.out _ _ (HR.out _ (hlow9.trans (hC.mono hz9))) (fun hHeld2 => ?_)
                    clear hKC KC hHeld
                    have hHeld := hHeld2
                    clear hHeld2
                    (try simp only [Act.put, List.setIfInBounds_toArray, List.set_cons_zero, List.set_cons_succ])
                    refine wpAnyH_take (i := 13) (oi := { dst := some 6, op := Op.assign (Operand.tmp 66), type := 47, pos := "l14_age.go:20", after := #[{ on := 12, ground := Ground.data }, { on := 12, ground := Ground.chain }, { on := 0, ground := Ground.phase }, { on := 1, ground := Ground.phase }, { on := 2, ground := Ground.phase }, { on := 3, ground := Ground.phase }, { on := 4, ground := Ground.phase }, { on := 5, ground := Ground.phase }, { on := 6, ground := Ground.phase }, { on := 7, ground := Ground.phase }, { on := 8, ground := Ground.phase }, { on := 9, ground := Ground.phase }, { on := 10, ground := Ground.phase }, { on := 11, ground := Ground.phase }, { on := 12, ground := Ground.phase }], guard := none }) (v := ?_) rfl (by kernel_rfl) (by kernel_rfl) (by kernel_rfl) (fun _ _ _ h => h) (Or.inl ⟨by rfl, ?_⟩) (by assumption) ?_
                    rotate_left 1
                    · intro w' hSw; (try dsimp only at hSw); go_simp; (try with_reducible rfl)
                    (try simp only [Act.put, List.setIfInBounds_toArray, List.set_cons_zero, List.set_cons_succ])
                    refine wpAnyH_done (by kernel_rfl) ?_ _
                    go_wp2
                    go_roundw
                    case rel => exact ⟨i + 1, insU D ⟨N, F, B, C, U⟩, g12, _, k12, rfl, by go_num, by omega, HF3, ⟨by rw [hdl.out]; exact o12.wide (by omega) (Nat.le_refl _), hlow9.trans (hC.mono hz9)⟩, by rw [ins_len]; omega⟩
                    case measure => simp [intOf]; omega
                  go_simp
                  have hBr9 := bAi w9.drew (.cells #[.string N, .int .i64 F, .string B, .int .i64 C, .int .i64 U] 53)
                  have rd9 := rd_new (E := encIt) w9.drew ⟨N, F, B, C, U⟩ #[.string N, .int .i64 F, .string B, .int .i64 C, .int .i64 U] rfl
                  replace hC := hC.trans (hBr9.mono hC.size)
                  (try replace o4 := (o4.grow hBr9).wide (Nat.le_refl _) hBr9.size)
                  refine hKC.out _ _ (HR.out _ (hlow9.trans (hC.mono hz9))) (fun hHeld2 => ?_)
                  clear hKC KC hHeld
                  have hHeld := hHeld2
                  clear hHeld2
                  (try simp only [Act.put, List.setIfInBounds_toArray, List.set_cons_zero, List.set_cons_succ])
                  refine wpAnyH_ready (rs := [0]) (by kernel_rfl) (by simp) ?_
                  refine AllReadyH.cons (o := { dst := some 54, op := Op.buildSlice 47 0 #[], type := 47, pos := "l14_age.go:20", after := #[], guard := none }) rfl (fun KC hKC => ?_) AllReadyH.nil
                  refine step_build0i rfl 47 _ iT rfl Try.underlying47 hiT ?_
                  intro b0 wr0 hBr0
                  replace hC := hC.trans (hBr0.mono hC.size)
                  (try replace rd9 := rd9.grow hBr0)
                  refine hKC.out _ _ (HR.out _ (hlow9.trans (hC.mono hz9))) (fun hHeld2 => ?_)
                  clear hKC KC hHeld
                  have hHeld := hHeld2
                  clear hHeld2
                  (try simp only [Act.put, List.setIfInBounds_toArray, List.set_cons_zero, List.set_cons_succ])
                  refine wpAnyH_ready (rs := [4]) (by kernel_rfl) (by simp) ?_
                  refine AllReadyH.cons (o := { dst := some 58, op := Op.call { callee := Callee.builtin Builtin.append, args := #[Operand.tmp 54, Operand.tmp 57], argTypes := #[47, 47] }, type := 47, pos := "l14_age.go:20", after := #[{ on := 0, ground := Ground.data }, { on := 3, ground := Ground.data }], guard := none }) rfl (fun KC hKC => ?_) AllReadyH.nil
                  refine step_append_g infoIt rfl _ _ 47 rfl Try.underlying47 wr0.heap.size _ _ [] rfl (own_zero _ _ _ 0 _) (Nat.le_refl _) _ (D.take m) rfl (RT9.out.grow hC) (by simp; omega) ?_
                  intro v4 wr4 o4 hT4
                  rw [List.nil_append] at o4
                  obtain ⟨a4, n4, k4, rfl⟩ := o4.slice
                  have hBr4 := hT4.low
                  have hl4 : w9.heap.size ≤ wr0.heap.size := hC.size
                  replace hC := hC.trans (hBr4.mono hC.size)
                  (try replace rd9 := rd9.grow hBr4)
                  replace o4 := o4.wide hl4 (Nat.le_refl _)
                  refine hKC.out _ _ (HR.out _ (hlow9.trans (hC.mono hz9))) (fun hHeld2 => ?_)
                  clear hKC KC hHeld
                  have hHeld := hHeld2
                  clear hHeld2
                  (try simp only [Act.put, List.setIfInBounds_toArray, List.set_cons_zero, List.set_cons_succ])
                  refine wpAnyH_ready (rs := [10]) (by kernel_rfl) (by simp) ?_
                  refine AllReadyH.cons (o := { dst := some 64, op := Op.call { callee := Callee.builtin Builtin.append, args := #[Operand.tmp 58, Operand.tmp 63], argTypes := #[47, 47] }, type := 47, pos := "l14_age.go:20", after := #[{ on := 4, ground := Ground.data }, { on := 9, ground := Ground.data }, { on := 4, ground := Ground.chain }], guard := none }) rfl (fun KC hKC => ?_) AllReadyH.nil
                  refine step_append_g infoIt rfl _ _ 47 rfl Try.underlying47 w9.heap.size _ _ (D.take m) rfl o4 hC.size _ [⟨N, F, B, C, U⟩] rfl rd9 (by simp; omega) ?_
                  intro v10 wr10 o10 hT10
                  obtain ⟨a10, n10, k10, rfl⟩ := o10.slice
                  replace hC := hC.trans hT10.low
                  refine hKC.out _ _ (HR.out _ (hlow9.trans (hC.mono hz9))) (fun hHeld2 => ?_)
                  clear hKC KC hHeld
                  have hHeld := hHeld2
                  clear hHeld2
                  (try simp only [Act.put, List.setIfInBounds_toArray, List.set_cons_zero, List.set_cons_succ])
                  refine wpAnyH_ready (rs := [12]) (by kernel_rfl) (by simp) ?_
                  refine AllReadyH.cons (o := { dst := some 66, op := Op.call { callee := Callee.builtin Builtin.append, args := #[Operand.tmp 64, Operand.tmp 65], argTypes := #[47, 47] }, type := 47, pos := "l14_age.go:20", after := #[{ on := 10, ground := Ground.data }, { on := 11, ground := Ground.data }, { on := 10, ground := Ground.chain }], guard := none }) rfl (fun KC hKC => ?_) AllReadyH.nil
                  refine step_append_g infoIt rfl _ _ 47 rfl Try.underlying47 w9.heap.size _ _ (D.take m ++ [⟨N, F, B, C, U⟩]) rfl o10 hC.size _ (D.drop m) rfl (o9.rd.grow hC) (by simp; omega) ?_
                  intro v12 wr12 o12 hT12
                  obtain ⟨g12, k12, e12, hg12, -, -⟩ := o12.form (by simp; omega)
                  obtain ⟨n12, hn12⟩ := hid_ex ((D.take m ++ [(⟨N, F, B, C, U⟩ : It)] ++ D.drop m).length)
                  rw [hn12.out] at e12
                  replace hC := hC.trans hT12.low
                  subst e12
                  refine hKC.out _ _ (HR.out _ (hlow9.trans (hC.mono hz9))) (fun hHeld2 => ?_)
                  clear hKC KC hHeld
                  have hHeld := hHeld2
                  clear hHeld2
                  (try simp only [Act.put, List.setIfInBounds_toArray, List.set_cons_zero, List.set_cons_succ])
                  refine wpAnyH_take (i := 13) (oi := { dst := some 6, op := Op.assign (Operand.tmp 66), type := 47, pos := "l14_age.go:20", after := #[{ on := 12, ground := Ground.data }, { on := 12, ground := Ground.chain }, { on := 0, ground := Ground.phase }, { on := 1, ground := Ground.phase }, { on := 2, ground := Ground.phase }, { on := 3, ground := Ground.phase }, { on := 4, ground := Ground.phase }, { on := 5, ground := Ground.phase }, { on := 6, ground := Ground.phase }, { on := 7, ground := Ground.phase }, { on := 8, ground := Ground.phase }, { on := 9, ground := Ground.phase }, { on := 10, ground := Ground.phase }, { on := 11, ground := Ground.phase }, { on := 12, ground := Ground.phase }], guard := none }) (v := ?_) rfl (by kernel_rfl) (by kernel_rfl) (by kernel_rfl) (fun _ _ _ h => h) (Or.inl ⟨by rfl, ?_⟩) (by assumption) ?_
                  rotate_left 1
                  · intro w' hSw; (try dsimp only at hSw); go_simp; (try with_reducible rfl)
                  (try simp only [Act.put, List.setIfInBounds_toArray, List.set_cons_zero, List.set_cons_succ])
                  refine wpAnyH_done (by kernel_rfl) ?_ _
                  go_wp2
                  go_roundw
                  case rel => exact ⟨i + 1, insU D ⟨N, F, B, C, U⟩, g12, _, k12, rfl, by go_num, by omega, HF3, ⟨by rw [hdl.out]; exact o12.wide (by omega) (Nat.le_refl _), hlow9.trans (hC.mono hz9)⟩, by rw [ins_len]; omega⟩
                  case measure => simp [intOf]; omega
                · have HMC : Hid (m = k ∧ n = m) := ⟨hmc0, hnm0⟩
                  have hmc' : ¬ (m : Int) < (k : Int) := by omega
                  clear hmc0 hnm0
                  exfalso
                  have := HMC.out
                  omega
            · have hmn' : ¬ (m : Int) < (n : Int) := by omega
              have HE : Hid (∀ h : m < D.length, ¬ D[m].U ≤ U) := fun h => absurd h (by have := hn.out; omega)
              go_upto_region 10 with (fail)
              go_quiet (fail)
              have S7 : Hid (Sq w g n k D (wr.drewN nq)) := S6.out.grow (ce.below_drewN _ _)
              clear q4 S6
              have hdl : Hid (insU D ⟨N, F, B, C, U⟩ = D.take m ++ [⟨N, F, B, C, U⟩] ++ D.drop m) := ins_at _ D m (by have := hn.out; omega) HM.out HE.out
              have hml : m ≤ D.length := by have := hn.out; omega
              have RT : Hid (Rd encIt (wr.drewN nq) (.slice (some ⟨g, 0, none⟩) m k) (D.take m)) := S7.out.o.rd.take m hml
              have hd20 : D.length ≤ 20 := by omega
              have mc : Hid True := trivial
              have hmk : (m : Int) ≤ (k : Int) := by omega
              have hmn3 : (m : Int) ≤ (n : Int) := by omega
              rcases S7.out.o.rd.rest m hml with ⟨hmc, RD⟩ | ⟨hmc0, hnm0, -, RD⟩
              · have hmc' : (m : Int) < (k : Int) := by omega
                have RD2 : Hid (Rd encIt (wr.drewN nq) (.slice (some ⟨g, m * 5, none⟩) (n - m) (k - m)) (D.drop m)) := (by have h := RD; rw [Nat.zero_add] at h; exact h)
                clear RD
                go_upto_region 13 with (first | (clear mc; refine wpList_build0i rfl 47 _ iT rfl Try.underlying47 hiT ?_; intro b8 w8 hB8; have hz8 := hB8.size) | (at_builtin; refine wpList_append_g infoIt rfl _ _ 47 rfl Try.underlying47 w8.heap.size _ _ [] rfl (own_zero _ _ _ 0 _) (Nat.le_refl _) _ (D.drop m) rfl (RD2.out.grow hB8) (by simp; omega) ?_; intro v9 w9 o9 hT9; rw [List.nil_append] at o9; obtain ⟨a9, n9, k9, rfl⟩ := o9.slice; have hB9 : Below (wr.drewN nq).heap.size (wr.drewN nq) w9 := hB8.trans (hT9.low.mono hz8)) | (fail))
                have hz9 : w.heap.size ≤ w9.heap.size := Nat.le_trans S7.out.low.size hB9.size
                have hlow9 : Below w.heap.size w w9 := S7.out.low.trans (hB9.mono S7.out.low.size)
                have RT9 : Hid (Rd encIt w9 (.slice (some ⟨g, 0, none⟩) m k) (D.take m)) := RT.out.grow hB9
                have hC : Below w9.heap.size w9 w9.drew := (Below.refl _ _).drew
                (try simp only [Act.put])
                (try simp only [List.setIfInBounds_toArray, List.set_cons_zero, List.set_cons_succ])
                refine wp_region_held_drew (S := fun w' => w'.cell? ⟨bk, off + i * 5, none⟩ = some (.string N) ∧ w'.cell? ⟨bk, off + i * 5 + 1, none⟩ = some (.int .i64 F) ∧ w'.cell? ⟨bk, off + i * 5 + 2, none⟩ = some (.string B) ∧ w'.cell? ⟨bk, off + i * 5 + 3, none⟩ = some (.int .i64 C) ∧ w'.cell? ⟨bk, off + i * 5 + 4, none⟩ = some (.int .i64 U)) (by kernel_rfl) (HR.out _ (hlow9.trans (hC.mono hz9))) (fun hHeld => ?_)
                refine wpAnyH_take (i := 1) (oi := { dst := some 55, op := Op.move (Operand.tmp 6), type := 47, pos := "l14_age.go:20", after := #[], guard := none }) (v := ?_) rfl (by kernel_rfl) (by kernel_rfl) (by kernel_rfl) (fun _ _ _ h => h) (Or.inl ⟨by rfl, ?_⟩) (by assumption) ?_
                rotate_left 1
                · intro w' hSw; (try dsimp only at hSw); go_simp; (try with_reducible rfl)
                (try simp only [Act.put, List.setIfInBounds_toArray, List.set_cons_zero, List.set_cons_succ])
                refine wpAnyH_take (i := 2) (oi := { dst := some 56, op := Op.move (Operand.tmp 8), type := 3, pos := "l14_age.go:20", after := #[], guard := none }) (v := ?_) rfl (by kernel_rfl) (by kernel_rfl) (by kernel_rfl) (fun _ _ _ h => h) (Or.inl ⟨by rfl, ?_⟩) (by assumption) ?_
                rotate_left 1
                · intro w' hSw; (try dsimp only at hSw); go_simp; (try with_reducible rfl)
                (try simp only [Act.put, List.setIfInBounds_toArray, List.set_cons_zero, List.set_cons_succ])
                refine wpAnyH_take (i := 3) (oi := { dst := some 57, op := Op.slice 47 (Operand.tmp 55) none (some (Operand.tmp 56)) none, type := 47, pos := "l14_age.go:20", after := #[{ on := 1, ground := Ground.data }, { on := 2, ground := Ground.data }], guard := none }) (v := ?_) rfl (by kernel_rfl) (by kernel_rfl) (by kernel_rfl) (fun _ _ _ h => h) (Or.inl ⟨by rfl, ?_⟩) (by assumption) ?_
                rotate_left 1
                · intro w' hSw; (try dsimp only at hSw); go_simp; (try with_reducible rfl)
                (try simp only [Act.put, List.setIfInBounds_toArray, List.set_cons_zero, List.set_cons_succ])
                refine wpAnyH_take (i := 5) (oi := { dst := some 59, op := Op.move (Operand.tmp 0), type := 47, pos := "l14_age.go:20", after := #[], guard := none }) (v := ?_) rfl (by kernel_rfl) (by kernel_rfl) (by kernel_rfl) (fun _ _ _ h => h) (Or.inl ⟨by rfl, ?_⟩) (by assumption) ?_
                rotate_left 1
                · intro w' hSw; (try dsimp only at hSw); go_simp; (try with_reducible rfl)
                (try simp only [Act.put, List.setIfInBounds_toArray, List.set_cons_zero, List.set_cons_succ])
                refine wpAnyH_take (i := 6) (oi := { dst := some 60, op := Op.move (Operand.tmp 7), type := 3, pos := "l14_age.go:20", after := #[], guard := none }) (v := ?_) rfl (by kernel_rfl) (by kernel_rfl) (by kernel_rfl) (fun _ _ _ h => h) (Or.inl ⟨by rfl, ?_⟩) (by assumption) ?_
                rotate_left 1
                · intro w' hSw; (try dsimp only at hSw); go_simp; (try with_reducible rfl)
                (try simp only [Act.put, List.setIfInBounds_toArray, List.set_cons_zero, List.set_cons_succ])
                refine wpAnyH_take (i := 7) (oi := { dst := some 61, op := Op.indexAddr 47 (Operand.tmp 59) (Operand.tmp 60), type := 0, pos := "l14_age.go:20", after := #[{ on := 5, ground := Ground.data }, { on := 6, ground := Ground.data }], guard := none }) (v := ?_) rfl (by kernel_rfl) (by kernel_rfl) (by kernel_rfl) (fun _ _ _ h => h) (Or.inl ⟨by rfl, ?_⟩) (by assumption) ?_
                rotate_left 1
                · intro w' hSw; (try dsimp only at hSw); go_simp; (try with_reducible rfl)
                (try simp only [Act.put, List.setIfInBounds_toArray, List.set_cons_zero, List.set_cons_succ])
                refine wpAnyH_take (i := 8) (oi := { dst := some 62, op := Op.load 53 (Operand.tmp 61), type := 53, pos := "l14_age.go:20", after := #[{ on := 7, ground := Ground.data }], guard := none }) (v := ?_) rfl (by kernel_rfl) (by kernel_rfl) (by kernel_rfl) (fun _ _ _ h => h) (Or.inl ⟨by rfl, ?_⟩) (by assumption) ?_
                rotate_left 1
                · intro w' hSw; (try dsimp only at hSw); go_simp; (try with_reducible rfl)
                (try simp only [Act.put, List.setIfInBounds_toArray, List.set_cons_zero, List.set_cons_succ])
                refine wpAnyH_take (i := 11) (oi := { dst := some 65, op := Op.move (Operand.tmp 9), type := 47, pos := "l14_age.go:20", after := #[], guard := none }) (v := ?_) rfl (by kernel_rfl) (by kernel_rfl) (by kernel_rfl) (fun _ _ _ h => h) (Or.inl ⟨by rfl, ?_⟩) (by assumption) ?_
                rotate_left 1
                · intro w' hSw; (try dsimp only at hSw); go_simp; (try with_reducible rfl)
                (try simp only [Act.put, List.setIfInBounds_toArray, List.set_cons_zero, List.set_cons_succ])
                refine wpAnyH_ready (rs := [0, 9]) (by kernel_rfl) (by simp) ?_
                refine AllReadyH.cons (o := { dst := some 54, op := Op.buildSlice 47 0 #[], type := 47, pos := "l14_age.go:20", after := #[], guard := none }) rfl (fun KC hKC => ?_) (AllReadyH.cons (o := { dst := some 63, op := Op.buildSlice 47 1 #[(0, Operand.tmp 62)], type := 47, pos := "l14_age.go:20", after := #[{ on := 8, ground := Ground.data }], guard := none }) rfl (fun KC hKC => ?_) AllReadyH.nil)
                · refine step_build0i rfl 47 _ iT rfl Try.underlying47 hiT ?_
                  intro b0 wr0 hBr0
                  replace hC := hC.trans (hBr0.mono hC.size)
                  (try replace rd9 := rd9.grow hBr0)
                  refine hKC.out _ _ (HR.out _ (hlow9.trans (hC.mono hz9))) (fun hHeld2 => ?_)
                  clear hKC KC hHeld
                  have hHeld := hHeld2
                  clear hHeld2
                  (try simp only [Act.put, List.setIfInBounds_toArray, List.set_cons_zero, List.set_cons_succ])
                  refine wpAnyH_ready (rs := [4, 9]) (by kernel_rfl) (by simp) ?_
                  refine AllReadyH.cons (o := { dst := some 58, op := Op.call { callee := Callee.builtin Builtin.append, args := #[Operand.tmp 54, Operand.tmp 57], argTypes := #[47, 47] }, type := 47, pos := "l14_age.go:20", after := #[{ on := 0, ground := Ground.data }, { on := 3, ground := Ground.data }], guard := none }) rfl (fun KC hKC => ?_) (AllReadyH.cons (o := { dst := some 63, op := Op.buildSlice 47 1 #[(0, Operand.tmp 62)], type := 47, pos := "l14_age.go:20", after := #[{ on := 8, ground := Ground.data }], guard := none }) rfl (fun KC hKC => ?_) AllReadyH.nil)
                  · refine step_append_g infoIt rfl _ _ 47 rfl Try.underlying47 wr0.heap.size _ _ [] rfl (own_zero _ _ _ 0 _) (Nat.le_refl _) _ (D.take m) rfl (RT9.out.grow hC) (by simp; omega) ?_
                    intro v4 wr4 o4 hT4
                    rw [List.nil_append] at o4
                    obtain ⟨a4, n4, k4, rfl⟩ := o4.slice
                    have hBr4 := hT4.low
                    have hl4 : w9.heap.size ≤ wr0.heap.size := hC.size
                    replace hC := hC.trans (hBr4.mono hC.size)
                    (try replace rd9 := rd9.grow hBr4)
                    replace o4 := o4.wide hl4 (Nat.le_refl _)
                    refine hKC.out _ _ (HR.out _ (hlow9.trans (hC.mono hz9))) (fun hHeld2 => ?_)
                    clear hKC KC hHeld
                    have hHeld := hHeld2
                    clear hHeld2
                    (try simp only [Act.put, List.setIfInBounds_toArray, List.set_cons_zero, List.set_cons_succ])
                    refine wpAnyH_ready (rs := [9]) (by kernel_rfl) (by simp) ?_
                    refine AllReadyH.cons (o := { dst := some 63, op := Op.buildSlice 47 1 #[(0, Operand.tmp 62)], type := 47, pos := "l14_age.go:20", after := #[{ on := 8, ground := Ground.data }], guard := none }) rfl (fun KC hKC => ?_) AllReadyH.nil
                    go_simp
                    have hBr9 := bAi wr4 (.cells #[.string N, .int .i64 F, .string B, .int .i64 C, .int .i64 U] 53)
                    have rd9 := rd_new (E := encIt) wr4 ⟨N, F, B, C, U⟩ #[.string N, .int .i64 F, .string B, .int .i64 C, .int .i64 U] rfl
                    replace hC := hC.trans (hBr9.mono hC.size)
                    (try replace o4 := (o4.grow hBr9).wide (Nat.le_refl _) hBr9.size)
                    refine hKC.out _ _ (HR.out _ (hlow9.trans (hC.mono hz9))) (fun hHeld2 => ?_)
                    clear hKC KC hHeld
                    have hHeld := hHeld2
                    clear hHeld2
                    (try simp only [Act.put, List.setIfInBounds_toArray, List.set_cons_zero, List.set_cons_succ])
                    refine wpAnyH_ready (rs := [10]) (by kernel_rfl) (by simp) ?_
                    refine AllReadyH.cons (o := { dst := some 64, op := Op.call { callee := Callee.builtin Builtin.append, args := #[Operand.tmp 58, Operand.tmp 63], argTypes := #[47, 47] }, type := 47, pos := "l14_age.go:20", after := #[{ on := 4, ground := Ground.data }, { on := 9, ground := Ground.data }, { on := 4, ground := Ground.chain }], guard := none }) rfl (fun KC hKC => ?_) AllReadyH.nil
                    refine step_append_g infoIt rfl _ _ 47 rfl Try.underlying47 w9.heap.size _ _ (D.take m) rfl o4 hC.size _ [⟨N, F, B, C, U⟩] rfl rd9 (by simp; omega) ?_
                    intro v10 wr10 o10 hT10
                    obtain ⟨a10, n10, k10, rfl⟩ := o10.slice
                    replace hC := hC.trans hT10.low
                    refine hKC.out _ _ (HR.out _ (hlow9.trans (hC.mono hz9))) (fun hHeld2 => ?_)
                    clear hKC KC hHeld
                    have hHeld := hHeld2
                    clear hHeld2
                    (try simp only [Act.put, List.setIfInBounds_toArray, List.set_cons_zero, List.set_cons_succ])
                    refine wpAnyH_ready (rs := [12]) (by kernel_rfl) (by simp) ?_
                    refine AllReadyH.cons (o := { dst := some 66, op := Op.call { callee := Callee.builtin Builtin.append, args := #[Operand.tmp 64, Operand.tmp 65], argTypes := #[47, 47] }, type := 47, pos := "l14_age.go:20", after := #[{ on := 10, ground := Ground.data }, { on := 11, ground := Ground.data }, { on := 10, ground := Ground.chain }], guard := none }) rfl (fun KC hKC => ?_) AllReadyH.nil
                    refine step_append_g infoIt rfl _ _ 47 rfl Try.underlying47 w9.heap.size _ _ (D.take m ++ [⟨N, F, B, C, U⟩]) rfl o10 hC.size _ (D.drop m) rfl (o9.rd.grow hC) (by simp; omega) ?_
                    intro v12 wr12 o12 hT12
                    obtain ⟨g12, k12, e12, hg12, -, -⟩ := o12.form (by simp; omega)
                    obtain ⟨n12, hn12⟩ := hid_ex ((D.take m ++ [(⟨N, F, B, C, U⟩ : It)] ++ D.drop m).length)
                    rw [hn12.out] at e12
                    replace hC := hC.trans hT12.low
                    subst e12
                    refine hKC.out _ _ (HR.out _ (hlow9.trans (hC.mono hz9))) (fun hHeld2 => ?_)
                    clear hKC KC hHeld
                    have hHeld := hHeld2
                    clear hHeld2
                    (try simp only [Act.put, List.setIfInBounds_toArray, List.set_cons_zero, List.set_cons_succ])
                    refine wpAnyH_take (i := 13) (oi := { dst := some 6, op := Op.assign (Operand.tmp 66), type := 47, pos := "l14_age.go:20", after := #[{ on := 12, ground := Ground.data }, { on := 12, ground := Ground.chain }, { on := 0, ground := Ground.phase }, { on := 1, ground := Ground.phase }, { on := 2, ground := Ground.phase }, { on := 3, ground := Ground.phase }, { on := 4, ground := Ground.phase }, { on := 5, ground := Ground.phase }, { on := 6, ground := Ground.phase }, { on := 7, ground := Ground.phase }, { on := 8, ground := Ground.phase }, { on := 9, ground := Ground.phase }, { on := 10, ground := Ground.phase }, { on := 11, ground := Ground.phase }, { on := 12, ground := Ground.phase }], guard := none }) (v := ?_) rfl (by kernel_rfl) (by kernel_rfl) (by kernel_rfl) (fun _ _ _ h => h) (Or.inl ⟨by rfl, ?_⟩) (by assumption) ?_
                    rotate_left 1
                    · intro w' hSw; (try dsimp only at hSw); go_simp; (try with_reducible rfl)
                    (try simp only [Act.put, List.setIfInBounds_toArray, List.set_cons_zero, List.set_cons_succ])
                    refine wpAnyH_done (by kernel_rfl) ?_ _
                    go_wp2
                    go_roundw
                    case rel => exact ⟨i + 1, insU D ⟨N, F, B, C, U⟩, g12, _, k12, rfl, by go_num, by omega, HF3, ⟨by rw [hdl.out]; exact o12.wide (by omega) (Nat.le_refl _), hlow9.trans (hC.mono hz9)⟩, by rw [ins_len]; omega⟩
                    case measure => simp [intOf]; omega
                  go_simp
                  have hBr9 := bAi wr0 (.cells #[.string N, .int .i64 F, .string B, .int .i64 C, .int .i64 U] 53)
                  have rd9 := rd_new (E := encIt) wr0 ⟨N, F, B, C, U⟩ #[.string N, .int .i64 F, .string B, .int .i64 C, .int .i64 U] rfl
                  replace hC := hC.trans (hBr9.mono hC.size)
                  (try replace o4 := (o4.grow hBr9).wide (Nat.le_refl _) hBr9.size)
                  refine hKC.out _ _ (HR.out _ (hlow9.trans (hC.mono hz9))) (fun hHeld2 => ?_)
                  clear hKC KC hHeld
                  have hHeld := hHeld2
                  clear hHeld2
                  (try simp only [Act.put, List.setIfInBounds_toArray, List.set_cons_zero, List.set_cons_succ])
                  refine wpAnyH_ready (rs := [4]) (by kernel_rfl) (by simp) ?_
                  refine AllReadyH.cons (o := { dst := some 58, op := Op.call { callee := Callee.builtin Builtin.append, args := #[Operand.tmp 54, Operand.tmp 57], argTypes := #[47, 47] }, type := 47, pos := "l14_age.go:20", after := #[{ on := 0, ground := Ground.data }, { on := 3, ground := Ground.data }], guard := none }) rfl (fun KC hKC => ?_) AllReadyH.nil
                  refine step_append_g infoIt rfl _ _ 47 rfl Try.underlying47 (wr0.alloc (.cells #[.string N, .int .i64 F, .string B, .int .i64 C, .int .i64 U] 53)).heap.size _ _ [] rfl (own_zero _ _ _ 0 _) (Nat.le_refl _) _ (D.take m) rfl (RT9.out.grow hC) (by simp; omega) ?_
                  intro v4 wr4 o4 hT4
                  rw [List.nil_append] at o4
                  obtain ⟨a4, n4, k4, rfl⟩ := o4.slice
                  have hBr4 := hT4.low
                  have hl4 : w9.heap.size ≤ (wr0.alloc (.cells #[.string N, .int .i64 F, .string B, .int .i64 C, .int .i64 U] 53)).heap.size := hC.size
                  replace hC := hC.trans (hBr4.mono hC.size)
                  (try replace rd9 := rd9.grow hBr4)
                  replace o4 := o4.wide hl4 (Nat.le_refl _)
                  refine hKC.out _ _ (HR.out _ (hlow9.trans (hC.mono hz9))) (fun hHeld2 => ?_)
                  clear hKC KC hHeld
                  have hHeld := hHeld2
                  clear hHeld2
                  (try simp only [Act.put, List.setIfInBounds_toArray, List.set_cons_zero, List.set_cons_succ])
                  refine wpAnyH_ready (rs := [10]) (by kernel_rfl) (by simp) ?_
                  refine AllReadyH.cons (o := { dst := some 64, op := Op.call { callee := Callee.builtin Builtin.append, args := #[Operand.tmp 58, Operand.tmp 63], argTypes := #[47, 47] }, type := 47, pos := "l14_age.go:20", after := #[{ on := 4, ground := Ground.data }, { on := 9, ground := Ground.data }, { on := 4, ground := Ground.chain }], guard := none }) rfl (fun KC hKC => ?_) AllReadyH.nil
                  refine step_append_g infoIt rfl _ _ 47 rfl Try.underlying47 w9.heap.size _ _ (D.take m) rfl o4 hC.size _ [⟨N, F, B, C, U⟩] rfl rd9 (by simp; omega) ?_
                  intro v10 wr10 o10 hT10
                  obtain ⟨a10, n10, k10, rfl⟩ := o10.slice
                  replace hC := hC.trans hT10.low
                  refine hKC.out _ _ (HR.out _ (hlow9.trans (hC.mono hz9))) (fun hHeld2 => ?_)
                  clear hKC KC hHeld
                  have hHeld := hHeld2
                  clear hHeld2
                  (try simp only [Act.put, List.setIfInBounds_toArray, List.set_cons_zero, List.set_cons_succ])
                  refine wpAnyH_ready (rs := [12]) (by kernel_rfl) (by simp) ?_
                  refine AllReadyH.cons (o := { dst := some 66, op := Op.call { callee := Callee.builtin Builtin.append, args := #[Operand.tmp 64, Operand.tmp 65], argTypes := #[47, 47] }, type := 47, pos := "l14_age.go:20", after := #[{ on := 10, ground := Ground.data }, { on := 11, ground := Ground.data }, { on := 10, ground := Ground.chain }], guard := none }) rfl (fun KC hKC => ?_) AllReadyH.nil
                  refine step_append_g infoIt rfl _ _ 47 rfl Try.underlying47 w9.heap.size _ _ (D.take m ++ [⟨N, F, B, C, U⟩]) rfl o10 hC.size _ (D.drop m) rfl (o9.rd.grow hC) (by simp; omega) ?_
                  intro v12 wr12 o12 hT12
                  obtain ⟨g12, k12, e12, hg12, -, -⟩ := o12.form (by simp; omega)
                  obtain ⟨n12, hn12⟩ := hid_ex ((D.take m ++ [(⟨N, F, B, C, U⟩ : It)] ++ D.drop m).length)
                  rw [hn12.out] at e12
                  replace hC := hC.trans hT12.low
                  subst e12
                  refine hKC.out _ _ (HR.out _ (hlow9.trans (hC.mono hz9))) (fun hHeld2 => ?_)
                  clear hKC KC hHeld
                  have hHeld := hHeld2
                  clear hHeld2
                  (try simp only [Act.put, List.setIfInBounds_toArray, List.set_cons_zero, List.set_cons_succ])
                  refine wpAnyH_take (i := 13) (oi := { dst := some 6, op := Op.assign (Operand.tmp 66), type := 47, pos := "l14_age.go:20", after := #[{ on := 12, ground := Ground.data }, { on := 12, ground := Ground.chain }, { on := 0, ground := Ground.phase }, { on := 1, ground := Ground.phase }, { on := 2, ground := Ground.phase }, { on := 3, ground := Ground.phase }, { on := 4, ground := Ground.phase }, { on := 5, ground := Ground.phase }, { on := 6, ground := Ground.phase }, { on := 7, ground := Ground.phase }, { on := 8, ground := Ground.phase }, { on := 9, ground := Ground.phase }, { on := 10, ground := Ground.phase }, { on := 11, ground := Ground.phase }, { on := 12, ground := Ground.phase }], guard := none }) (v := ?_) rfl (by kernel_rfl) (by kernel_rfl) (by kernel_rfl) (fun _ _ _ h => h) (Or.inl ⟨by rfl, ?_⟩) (by assumption) ?_
                  rotate_left 1
                  · intro w' hSw; (try dsimp only at hSw); go_simp; (try with_reducible rfl)
                  (try simp only [Act.put, List.setIfInBounds_toArray, List.set_cons_zero, List.set_cons_succ])
                  refine wpAnyH_done (by kernel_rfl) ?_ _
                  go_wp2
                  go_roundw
                  case rel => exact ⟨i + 1, insU D ⟨N, F, B, C, U⟩, g12, _, k12, rfl, by go_num, by omega, HF3, ⟨by rw [hdl.out]; exact o12.wide (by omega) (Nat.le_refl _), hlow9.trans (hC.mono hz9)⟩, by rw [ins_len]; omega⟩
                  case measure => simp [intOf]; omega
                go_simp
                have hBr9 := bAi w9.drew (.cells #[.string N, .int .i64 F, .string B, .int .i64 C, .int .i64 U] 53)
                have rd9 := rd_new (E := encIt) w9.drew ⟨N, F, B, C, U⟩ #[.string N, .int .i64 F, .string B, .int .i64 C, .int .i64 U] rfl
                replace hC := hC.trans (hBr9.mono hC.size)
                (try replace o4 := (o4.grow hBr9).wide (Nat.le_refl _) hBr9.size)
                refine hKC.out _ _ (HR.out _ (hlow9.trans (hC.mono hz9))) (fun hHeld2 => ?_)
                clear hKC KC hHeld
                have hHeld := hHeld2
                clear hHeld2
                (try simp only [Act.put, List.setIfInBounds_toArray, List.set_cons_zero, List.set_cons_succ])
                refine wpAnyH_ready (rs := [0]) (by kernel_rfl) (by simp) ?_
                refine AllReadyH.cons (o := { dst := some 54, op := Op.buildSlice 47 0 #[], type := 47, pos := "l14_age.go:20", after := #[], guard := none }) rfl (fun KC hKC => ?_) AllReadyH.nil
                refine step_build0i rfl 47 _ iT rfl Try.underlying47 hiT ?_
                intro b0 wr0 hBr0
                replace hC := hC.trans (hBr0.mono hC.size)
                (try replace rd9 := rd9.grow hBr0)
                refine hKC.out _ _ (HR.out _ (hlow9.trans (hC.mono hz9))) (fun hHeld2 => ?_)
                clear hKC KC hHeld
                have hHeld := hHeld2
                clear hHeld2
                (try simp only [Act.put, List.setIfInBounds_toArray, List.set_cons_zero, List.set_cons_succ])
                refine wpAnyH_ready (rs := [4]) (by kernel_rfl) (by simp) ?_
                refine AllReadyH.cons (o := { dst := some 58, op := Op.call { callee := Callee.builtin Builtin.append, args := #[Operand.tmp 54, Operand.tmp 57], argTypes := #[47, 47] }, type := 47, pos := "l14_age.go:20", after := #[{ on := 0, ground := Ground.data }, { on := 3, ground := Ground.data }], guard := none }) rfl (fun KC hKC => ?_) AllReadyH.nil
                refine step_append_g infoIt rfl _ _ 47 rfl Try.underlying47 wr0.heap.size _ _ [] rfl (own_zero _ _ _ 0 _) (Nat.le_refl _) _ (D.take m) rfl (RT9.out.grow hC) (by simp; omega) ?_
                intro v4 wr4 o4 hT4
                rw [List.nil_append] at o4
                obtain ⟨a4, n4, k4, rfl⟩ := o4.slice
                have hBr4 := hT4.low
                have hl4 : w9.heap.size ≤ wr0.heap.size := hC.size
                replace hC := hC.trans (hBr4.mono hC.size)
                (try replace rd9 := rd9.grow hBr4)
                replace o4 := o4.wide hl4 (Nat.le_refl _)
                refine hKC.out _ _ (HR.out _ (hlow9.trans (hC.mono hz9))) (fun hHeld2 => ?_)
                clear hKC KC hHeld
                have hHeld := hHeld2
                clear hHeld2
                (try simp only [Act.put, List.setIfInBounds_toArray, List.set_cons_zero, List.set_cons_succ])
                refine wpAnyH_ready (rs := [10]) (by kernel_rfl) (by simp) ?_
                refine AllReadyH.cons (o := { dst := some 64, op := Op.call { callee := Callee.builtin Builtin.append, args := #[Operand.tmp 58, Operand.tmp 63], argTypes := #[47, 47] }, type := 47, pos := "l14_age.go:20", after := #[{ on := 4, ground := Ground.data }, { on := 9, ground := Ground.data }, { on := 4, ground := Ground.chain }], guard := none }) rfl (fun KC hKC => ?_) AllReadyH.nil
                refine step_append_g infoIt rfl _ _ 47 rfl Try.underlying47 w9.heap.size _ _ (D.take m) rfl o4 hC.size _ [⟨N, F, B, C, U⟩] rfl rd9 (by simp; omega) ?_
                intro v10 wr10 o10 hT10
                obtain ⟨a10, n10, k10, rfl⟩ := o10.slice
                replace hC := hC.trans hT10.low
                refine hKC.out _ _ (HR.out _ (hlow9.trans (hC.mono hz9))) (fun hHeld2 => ?_)
                clear hKC KC hHeld
                have hHeld := hHeld2
                clear hHeld2
                (try simp only [Act.put, List.setIfInBounds_toArray, List.set_cons_zero, List.set_cons_succ])
                refine wpAnyH_ready (rs := [12]) (by kernel_rfl) (by simp) ?_
                refine AllReadyH.cons (o := { dst := some 66, op := Op.call { callee := Callee.builtin Builtin.append, args := #[Operand.tmp 64, Operand.tmp 65], argTypes := #[47, 47] }, type := 47, pos := "l14_age.go:20", after := #[{ on := 10, ground := Ground.data }, { on := 11, ground := Ground.data }, { on := 10, ground := Ground.chain }], guard := none }) rfl (fun KC hKC => ?_) AllReadyH.nil
                refine step_append_g infoIt rfl _ _ 47 rfl Try.underlying47 w9.heap.size _ _ (D.take m ++ [⟨N, F, B, C, U⟩]) rfl o10 hC.size _ (D.drop m) rfl (o9.rd.grow hC) (by simp; omega) ?_
                intro v12 wr12 o12 hT12
                obtain ⟨g12, k12, e12, hg12, -, -⟩ := o12.form (by simp; omega)
                obtain ⟨n12, hn12⟩ := hid_ex ((D.take m ++ [(⟨N, F, B, C, U⟩ : It)] ++ D.drop m).length)
                rw [hn12.out] at e12
                replace hC := hC.trans hT12.low
                subst e12
                refine hKC.out _ _ (HR.out _ (hlow9.trans (hC.mono hz9))) (fun hHeld2 => ?_)
                clear hKC KC hHeld
                have hHeld := hHeld2
                clear hHeld2
                (try simp only [Act.put, List.setIfInBounds_toArray, List.set_cons_zero, List.set_cons_succ])
                refine wpAnyH_take (i := 13) (oi := { dst := some 6, op := Op.assign (Operand.tmp 66), type := 47, pos := "l14_age.go:20", after := #[{ on := 12, ground := Ground.data }, { on := 12, ground := Ground.chain }, { on := 0, ground := Ground.phase }, { on := 1, ground := Ground.phase }, { on := 2, ground := Ground.phase }, { on := 3, ground := Ground.phase }, { on := 4, ground := Ground.phase }, { on := 5, ground := Ground.phase }, { on := 6, ground := Ground.phase }, { on := 7, ground := Ground.phase }, { on := 8, ground := Ground.phase }, { on := 9, ground := Ground.phase }, { on := 10, ground := Ground.phase }, { on := 11, ground := Ground.phase }, { on := 12, ground := Ground.phase }], guard := none }) (v := ?_) rfl (by kernel_rfl) (by kernel_rfl) (by kernel_rfl) (fun _ _ _ h => h) (Or.inl ⟨by rfl, ?_⟩) (by assumption) ?_
                rotate_left 1
                · intro w' hSw; (try dsimp only at hSw); go_simp; (try with_reducible rfl)
                (try simp only [Act.put, List.setIfInBounds_toArray, List.set_cons_zero, List.set_cons_succ])
                refine wpAnyH_done (by kernel_rfl) ?_ _
                go_wp2
                go_roundw
                case rel => exact ⟨i + 1, insU D ⟨N, F, B, C, U⟩, g12, _, k12, rfl, by go_num, by omega, HF3, ⟨by rw [hdl.out]; exact o12.wide (by omega) (Nat.le_refl _), hlow9.trans (hC.mono hz9)⟩, by rw [ins_len]; omega⟩
                case measure => simp [intOf]; omega
              · have HMC : Hid (m = k ∧ n = m) := ⟨hmc0, hnm0⟩
                have hmc' : ¬ (m : Int) < (k : Int) := by omega
                clear hmc0 hnm0
                have RD2 : Hid (Rd encIt (wr.drewN nq) (.slice (some ⟨g, 0, none⟩) (n - m) (k - m)) (D.drop m)) := (by have h := RD; have e := HMC.out; rw [show n - m = 0 by omega, show k - m = 0 by omega]; exact h)
                clear RD
                go_upto_region 13 with (first | (clear mc; refine wpList_build0i rfl 47 _ iT rfl Try.underlying47 hiT ?_; intro b8 w8 hB8; have hz8 := hB8.size) | (at_builtin; refine wpList_append_g infoIt rfl _ _ 47 rfl Try.underlying47 w8.heap.size _ _ [] rfl (own_zero _ _ _ 0 _) (Nat.le_refl _) _ (D.drop m) rfl (RD2.out.grow hB8) (by simp; omega) ?_; intro v9 w9 o9 hT9; rw [List.nil_append] at o9; obtain ⟨a9, n9, k9, rfl⟩ := o9.slice; have hB9 : Below (wr.drewN nq).heap.size (wr.drewN nq) w9 := hB8.trans (hT9.low.mono hz8)) | (fail))
                have hz9 : w.heap.size ≤ w9.heap.size := Nat.le_trans S7.out.low.size hB9.size
                have hlow9 : Below w.heap.size w w9 := S7.out.low.trans (hB9.mono S7.out.low.size)
                have RT9 : Hid (Rd encIt w9 (.slice (some ⟨g, 0, none⟩) m k) (D.take m)) := RT.out.grow hB9
                have hC : Below w9.heap.size w9 w9.drew := (Below.refl _ _).drew
                (try simp only [Act.put])
                (try simp only [List.setIfInBounds_toArray, List.set_cons_zero, List.set_cons_succ])
                refine wp_region_held_drew (S := fun w' => w'.cell? ⟨bk, off + i * 5, none⟩ = some (.string N) ∧ w'.cell? ⟨bk, off + i * 5 + 1, none⟩ = some (.int .i64 F) ∧ w'.cell? ⟨bk, off + i * 5 + 2, none⟩ = some (.string B) ∧ w'.cell? ⟨bk, off + i * 5 + 3, none⟩ = some (.int .i64 C) ∧ w'.cell? ⟨bk, off + i * 5 + 4, none⟩ = some (.int .i64 U)) (by kernel_rfl) (HR.out _ (hlow9.trans (hC.mono hz9))) (fun hHeld => ?_)
                refine wpAnyH_take (i := 1) (oi := { dst := some 55, op := Op.move (Operand.tmp 6), type := 47, pos := "l14_age.go:20", after := #[], guard := none }) (v := ?_) rfl (by kernel_rfl) (by kernel_rfl) (by kernel_rfl) (fun _ _ _ h => h) (Or.inl ⟨by rfl, ?_⟩) (by assumption) ?_
                rotate_left 1
                · intro w' hSw; (try dsimp only at hSw); go_simp; (try with_reducible rfl)
                (try simp only [Act.put, List.setIfInBounds_toArray, List.set_cons_zero, List.set_cons_succ])
                refine wpAnyH_take (i := 2) (oi := { dst := some 56, op := Op.move (Operand.tmp 8), type := 3, pos := "l14_age.go:20", after := #[], guard := none }) (v := ?_) rfl (by kernel_rfl) (by kernel_rfl) (by kernel_rfl) (fun _ _ _ h => h) (Or.inl ⟨by rfl, ?_⟩) (by assumption) ?_
                rotate_left 1
                · intro w' hSw; (try dsimp only at hSw); go_simp; (try with_reducible rfl)
                (try simp only [Act.put, List.setIfInBounds_toArray, List.set_cons_zero, List.set_cons_succ])
                refine wpAnyH_take (i := 3) (oi := { dst := some 57, op := Op.slice 47 (Operand.tmp 55) none (some (Operand.tmp 56)) none, type := 47, pos := "l14_age.go:20", after := #[{ on := 1, ground := Ground.data }, { on := 2, ground := Ground.data }], guard := none }) (v := ?_) rfl (by kernel_rfl) (by kernel_rfl) (by kernel_rfl) (fun _ _ _ h => h) (Or.inl ⟨by rfl, ?_⟩) (by assumption) ?_
                rotate_left 1
                · intro w' hSw; (try dsimp only at hSw); go_simp; (try with_reducible rfl)
                (try simp only [Act.put, List.setIfInBounds_toArray, List.set_cons_zero, List.set_cons_succ])
                refine wpAnyH_take (i := 5) (oi := { dst := some 59, op := Op.move (Operand.tmp 0), type := 47, pos := "l14_age.go:20", after := #[], guard := none }) (v := ?_) rfl (by kernel_rfl) (by kernel_rfl) (by kernel_rfl) (fun _ _ _ h => h) (Or.inl ⟨by rfl, ?_⟩) (by assumption) ?_
                rotate_left 1
                · intro w' hSw; (try dsimp only at hSw); go_simp; (try with_reducible rfl)
                (try simp only [Act.put, List.setIfInBounds_toArray, List.set_cons_zero, List.set_cons_succ])
                refine wpAnyH_take (i := 6) (oi := { dst := some 60, op := Op.move (Operand.tmp 7), type := 3, pos := "l14_age.go:20", after := #[], guard := none }) (v := ?_) rfl (by kernel_rfl) (by kernel_rfl) (by kernel_rfl) (fun _ _ _ h => h) (Or.inl ⟨by rfl, ?_⟩) (by assumption) ?_
                rotate_left 1
                · intro w' hSw; (try dsimp only at hSw); go_simp; (try with_reducible rfl)
                (try simp only [Act.put, List.setIfInBounds_toArray, List.set_cons_zero, List.set_cons_succ])
                refine wpAnyH_take (i := 7) (oi := { dst := some 61, op := Op.indexAddr 47 (Operand.tmp 59) (Operand.tmp 60), type := 0, pos := "l14_age.go:20", after := #[{ on := 5, ground := Ground.data }, { on := 6, ground := Ground.data }], guard := none }) (v := ?_) rfl (by kernel_rfl) (by kernel_rfl) (by kernel_rfl) (fun _ _ _ h => h) (Or.inl ⟨by rfl, ?_⟩) (by assumption) ?_
                rotate_left 1
                · intro w' hSw; (try dsimp only at hSw); go_simp; (try with_reducible rfl)
                (try simp only [Act.put, List.setIfInBounds_toArray, List.set_cons_zero, List.set_cons_succ])
                refine wpAnyH_take (i := 8) (oi := { dst := some 62, op := Op.load 53 (Operand.tmp 61), type := 53, pos := "l14_age.go:20", after := #[{ on := 7, ground := Ground.data }], guard := none }) (v := ?_) rfl (by kernel_rfl) (by kernel_rfl) (by kernel_rfl) (fun _ _ _ h => h) (Or.inl ⟨by rfl, ?_⟩) (by assumption) ?_
                rotate_left 1
                · intro w' hSw; (try dsimp only at hSw); go_simp; (try with_reducible rfl)
                (try simp only [Act.put, List.setIfInBounds_toArray, List.set_cons_zero, List.set_cons_succ])
                refine wpAnyH_take (i := 11) (oi := { dst := some 65, op := Op.move (Operand.tmp 9), type := 47, pos := "l14_age.go:20", after := #[], guard := none }) (v := ?_) rfl (by kernel_rfl) (by kernel_rfl) (by kernel_rfl) (fun _ _ _ h => h) (Or.inl ⟨by rfl, ?_⟩) (by assumption) ?_
                rotate_left 1
                · intro w' hSw; (try dsimp only at hSw); go_simp; (try with_reducible rfl)
                (try simp only [Act.put, List.setIfInBounds_toArray, List.set_cons_zero, List.set_cons_succ])
                refine wpAnyH_ready (rs := [0, 9]) (by kernel_rfl) (by simp) ?_
                refine AllReadyH.cons (o := { dst := some 54, op := Op.buildSlice 47 0 #[], type := 47, pos := "l14_age.go:20", after := #[], guard := none }) rfl (fun KC hKC => ?_) (AllReadyH.cons (o := { dst := some 63, op := Op.buildSlice 47 1 #[(0, Operand.tmp 62)], type := 47, pos := "l14_age.go:20", after := #[{ on := 8, ground := Ground.data }], guard := none }) rfl (fun KC hKC => ?_) AllReadyH.nil)
                · refine step_build0i rfl 47 _ iT rfl Try.underlying47 hiT ?_
                  intro b0 wr0 hBr0
                  replace hC := hC.trans (hBr0.mono hC.size)
                  (try replace rd9 := rd9.grow hBr0)
                  refine hKC.out _ _ (HR.out _ (hlow9.trans (hC.mono hz9))) (fun hHeld2 => ?_)
                  clear hKC KC hHeld
                  have hHeld := hHeld2
                  clear hHeld2
                  (try simp only [Act.put, List.setIfInBounds_toArray, List.set_cons_zero, List.set_cons_succ])
                  refine wpAnyH_ready (rs := [4, 9]) (by kernel_rfl) (by simp) ?_
                  refine AllReadyH.cons (o := { dst := some 58, op := Op.call { callee := Callee.builtin Builtin.append, args := #[Operand.tmp 54, Operand.tmp 57], argTypes := #[47, 47] }, type := 47, pos := "l14_age.go:20", after := #[{ on := 0, ground := Ground.data }, { on := 3, ground := Ground.data }], guard := none }) rfl (fun KC hKC => ?_) (AllReadyH.cons (o := { dst := some 63, op := Op.buildSlice 47 1 #[(0, Operand.tmp 62)], type := 47, pos := "l14_age.go:20", after := #[{ on := 8, ground := Ground.data }], guard := none }) rfl (fun KC hKC => ?_) AllReadyH.nil)
                  · refine step_append_g infoIt rfl _ _ 47 rfl Try.underlying47 wr0.heap.size _ _ [] rfl (own_zero _ _ _ 0 _) (Nat.le_refl _) _ (D.take m) rfl (RT9.out.grow hC) (by simp; omega) ?_
                    intro v4 wr4 o4 hT4
                    rw [List.nil_append] at o4
                    obtain ⟨a4, n4, k4, rfl⟩ := o4.slice
                    have hBr4 := hT4.low
                    have hl4 : w9.heap.size ≤ wr0.heap.size := hC.size
                    replace hC := hC.trans (hBr4.mono hC.size)
                    (try replace rd9 := rd9.grow hBr4)
                    replace o4 := o4.wide hl4 (Nat.le_refl _)
                    refine hKC.out _ _ (HR.out _ (hlow9.trans (hC.mono hz9))) (fun hHeld2 => ?_)
                    clear hKC KC hHeld
                    have hHeld := hHeld2
                    clear hHeld2
                    (try simp only [Act.put, List.setIfInBounds_toArray, List.set_cons_zero, List.set_cons_succ])
                    refine wpAnyH_ready (rs := [9]) (by kernel_rfl) (by simp) ?_
                    refine AllReadyH.cons (o := { dst := some 63, op := Op.buildSlice 47 1 #[(0, Operand.tmp 62)], type := 47, pos := "l14_age.go:20", after := #[{ on := 8, ground := Ground.data }], guard := none }) rfl (fun KC hKC => ?_) AllReadyH.nil
                    go_simp
                    have hBr9 := bAi wr4 (.cells #[.string N, .int .i64 F, .string B, .int .i64 C, .int .i64 U] 53)
                    have rd9 := rd_new (E := encIt) wr4 ⟨N, F, B, C, U⟩ #[.string N, .int .i64 F, .string B, .int .i64 C, .int .i64 U] rfl
                    replace hC := hC.trans (hBr9.mono hC.size)
                    (try replace o4 := (o4.grow hBr9).wide (Nat.le_refl _) hBr9.size)
                    refine hKC.out _ _ (HR.out _ (hlow9.trans (hC.mono hz9))) (fun hHeld2 => ?_)
                    clear hKC KC hHeld
                    have hHeld := hHeld2
                    clear hHeld2
                    (try simp only [Act.put, List.setIfInBounds_toArray, List.set_cons_zero, List.set_cons_succ])
                    refine wpAnyH_ready (rs := [10]) (by kernel_rfl) (by simp) ?_
                    refine AllReadyH.cons (o := { dst := some 64, op := Op.call { callee := Callee.builtin Builtin.append, args := #[Operand.tmp 58, Operand.tmp 63], argTypes := #[47, 47] }, type := 47, pos := "l14_age.go:20", after := #[{ on := 4, ground := Ground.data }, { on := 9, ground := Ground.data }, { on := 4, ground := Ground.chain }], guard := none }) rfl (fun KC hKC => ?_) AllReadyH.nil
                    refine step_append_g infoIt rfl _ _ 47 rfl Try.underlying47 w9.heap.size _ _ (D.take m) rfl o4 hC.size _ [⟨N, F, B, C, U⟩] rfl rd9 (by simp; omega) ?_
                    intro v10 wr10 o10 hT10
                    obtain ⟨a10, n10, k10, rfl⟩ := o10.slice
                    replace hC := hC.trans hT10.low
                    refine hKC.out _ _ (HR.out _ (hlow9.trans (hC.mono hz9))) (fun hHeld2 => ?_)
                    clear hKC KC hHeld
                    have hHeld := hHeld2
                    clear hHeld2
                    (try simp only [Act.put, List.setIfInBounds_toArray, List.set_cons_zero, List.set_cons_succ])
                    refine wpAnyH_ready (rs := [12]) (by kernel_rfl) (by simp) ?_
                    refine AllReadyH.cons (o := { dst := some 66, op := Op.call { callee := Callee.builtin Builtin.append, args := #[Operand.tmp 64, Operand.tmp 65], argTypes := #[47, 47] }, type := 47, pos := "l14_age.go:20", after := #[{ on := 10, ground := Ground.data }, { on := 11, ground := Ground.data }, { on := 10, ground := Ground.chain }], guard := none }) rfl (fun KC hKC => ?_) AllReadyH.nil
                    refine step_append_g infoIt rfl _ _ 47 rfl Try.underlying47 w9.heap.size _ _ (D.take m ++ [⟨N, F, B, C, U⟩]) rfl o10 hC.size _ (D.drop m) rfl (o9.rd.grow hC) (by simp; omega) ?_
                    intro v12 wr12 o12 hT12
                    obtain ⟨g12, k12, e12, hg12, -, -⟩ := o12.form (by simp; omega)
                    obtain ⟨n12, hn12⟩ := hid_ex ((D.take m ++ [(⟨N, F, B, C, U⟩ : It)] ++ D.drop m).length)
                    rw [hn12.out] at e12
                    replace hC := hC.trans hT12.low
                    subst e12
                    refine hKC.out _ _ (HR.out _ (hlow9.trans (hC.mono hz9))) (fun hHeld2 => ?_)
                    clear hKC KC hHeld
                    have hHeld := hHeld2
                    clear hHeld2
                    (try simp only [Act.put, List.setIfInBounds_toArray, List.set_cons_zero, List.set_cons_succ])
                    refine wpAnyH_take (i := 13) (oi := { dst := some 6, op := Op.assign (Operand.tmp 66), type := 47, pos := "l14_age.go:20", after := #[{ on := 12, ground := Ground.data }, { on := 12, ground := Ground.chain }, { on := 0, ground := Ground.phase }, { on := 1, ground := Ground.phase }, { on := 2, ground := Ground.phase }, { on := 3, ground := Ground.phase }, { on := 4, ground := Ground.phase }, { on := 5, ground := Ground.phase }, { on := 6, ground := Ground.phase }, { on := 7, ground := Ground.phase }, { on := 8, ground := Ground.phase }, { on := 9, ground := Ground.phase }, { on := 10, ground := Ground.phase }, { on := 11, ground := Ground.phase }, { on := 12, ground := Ground.phase }], guard := none }) (v := ?_) rfl (by kernel_rfl) (by kernel_rfl) (by kernel_rfl) (fun _ _ _ h => h) (Or.inl ⟨by rfl, ?_⟩) (by assumption) ?_
                    rotate_left 1
                    · intro w' hSw; (try dsimp only at hSw); go_simp; (try with_reducible rfl)
                    (try simp only [Act.put, List.setIfInBounds_toArray, List.set_cons_zero, List.set_cons_succ])
                    refine wpAnyH_done (by kernel_rfl) ?_ _
                    go_wp2
                    go_roundw
                    case rel => exact ⟨i + 1, insU D ⟨N, F, B, C, U⟩, g12, _, k12, rfl, by go_num, by omega, HF3, ⟨by rw [hdl.out]; exact o12.wide (by omega) (Nat.le_refl _), hlow9.trans (hC.mono hz9)⟩, by rw [ins_len]; omega⟩
                    case measure => simp [intOf]; omega
                  go_simp
                  have hBr9 := bAi wr0 (.cells #[.string N, .int .i64 F, .string B, .int .i64 C, .int .i64 U] 53)
                  have rd9 := rd_new (E := encIt) wr0 ⟨N, F, B, C, U⟩ #[.string N, .int .i64 F, .string B, .int .i64 C, .int .i64 U] rfl
                  replace hC := hC.trans (hBr9.mono hC.size)
                  (try replace o4 := (o4.grow hBr9).wide (Nat.le_refl _) hBr9.size)
                  refine hKC.out _ _ (HR.out _ (hlow9.trans (hC.mono hz9))) (fun hHeld2 => ?_)
                  clear hKC KC hHeld
                  have hHeld := hHeld2
                  clear hHeld2
                  (try simp only [Act.put, List.setIfInBounds_toArray, List.set_cons_zero, List.set_cons_succ])
                  refine wpAnyH_ready (rs := [4]) (by kernel_rfl) (by simp) ?_
                  refine AllReadyH.cons (o := { dst := some 58, op := Op.call { callee := Callee.builtin Builtin.append, args := #[Operand.tmp 54, Operand.tmp 57], argTypes := #[47, 47] }, type := 47, pos := "l14_age.go:20", after := #[{ on := 0, ground := Ground.data }, { on := 3, ground := Ground.data }], guard := none }) rfl (fun KC hKC => ?_) AllReadyH.nil
                  refine step_append_g infoIt rfl _ _ 47 rfl Try.underlying47 (wr0.alloc (.cells #[.string N, .int .i64 F, .string B, .int .i64 C, .int .i64 U] 53)).heap.size _ _ [] rfl (own_zero _ _ _ 0 _) (Nat.le_refl _) _ (D.take m) rfl (RT9.out.grow hC) (by simp; omega) ?_
                  intro v4 wr4 o4 hT4
                  rw [List.nil_append] at o4
                  obtain ⟨a4, n4, k4, rfl⟩ := o4.slice
                  have hBr4 := hT4.low
                  have hl4 : w9.heap.size ≤ (wr0.alloc (.cells #[.string N, .int .i64 F, .string B, .int .i64 C, .int .i64 U] 53)).heap.size := hC.size
                  replace hC := hC.trans (hBr4.mono hC.size)
                  (try replace rd9 := rd9.grow hBr4)
                  replace o4 := o4.wide hl4 (Nat.le_refl _)
                  refine hKC.out _ _ (HR.out _ (hlow9.trans (hC.mono hz9))) (fun hHeld2 => ?_)
                  clear hKC KC hHeld
                  have hHeld := hHeld2
                  clear hHeld2
                  (try simp only [Act.put, List.setIfInBounds_toArray, List.set_cons_zero, List.set_cons_succ])
                  refine wpAnyH_ready (rs := [10]) (by kernel_rfl) (by simp) ?_
                  refine AllReadyH.cons (o := { dst := some 64, op := Op.call { callee := Callee.builtin Builtin.append, args := #[Operand.tmp 58, Operand.tmp 63], argTypes := #[47, 47] }, type := 47, pos := "l14_age.go:20", after := #[{ on := 4, ground := Ground.data }, { on := 9, ground := Ground.data }, { on := 4, ground := Ground.chain }], guard := none }) rfl (fun KC hKC => ?_) AllReadyH.nil
                  refine step_append_g infoIt rfl _ _ 47 rfl Try.underlying47 w9.heap.size _ _ (D.take m) rfl o4 hC.size _ [⟨N, F, B, C, U⟩] rfl rd9 (by simp; omega) ?_
                  intro v10 wr10 o10 hT10
                  obtain ⟨a10, n10, k10, rfl⟩ := o10.slice
                  replace hC := hC.trans hT10.low
                  refine hKC.out _ _ (HR.out _ (hlow9.trans (hC.mono hz9))) (fun hHeld2 => ?_)
                  clear hKC KC hHeld
                  have hHeld := hHeld2
                  clear hHeld2
                  (try simp only [Act.put, List.setIfInBounds_toArray, List.set_cons_zero, List.set_cons_succ])
                  refine wpAnyH_ready (rs := [12]) (by kernel_rfl) (by simp) ?_
                  refine AllReadyH.cons (o := { dst := some 66, op := Op.call { callee := Callee.builtin Builtin.append, args := #[Operand.tmp 64, Operand.tmp 65], argTypes := #[47, 47] }, type := 47, pos := "l14_age.go:20", after := #[{ on := 10, ground := Ground.data }, { on := 11, ground := Ground.data }, { on := 10, ground := Ground.chain }], guard := none }) rfl (fun KC hKC => ?_) AllReadyH.nil
                  refine step_append_g infoIt rfl _ _ 47 rfl Try.underlying47 w9.heap.size _ _ (D.take m ++ [⟨N, F, B, C, U⟩]) rfl o10 hC.size _ (D.drop m) rfl (o9.rd.grow hC) (by simp; omega) ?_
                  intro v12 wr12 o12 hT12
                  obtain ⟨g12, k12, e12, hg12, -, -⟩ := o12.form (by simp; omega)
                  obtain ⟨n12, hn12⟩ := hid_ex ((D.take m ++ [(⟨N, F, B, C, U⟩ : It)] ++ D.drop m).length)
                  rw [hn12.out] at e12
                  replace hC := hC.trans hT12.low
                  subst e12
                  refine hKC.out _ _ (HR.out _ (hlow9.trans (hC.mono hz9))) (fun hHeld2 => ?_)
                  clear hKC KC hHeld
                  have hHeld := hHeld2
                  clear hHeld2
                  (try simp only [Act.put, List.setIfInBounds_toArray, List.set_cons_zero, List.set_cons_succ])
                  refine wpAnyH_take (i := 13) (oi := { dst := some 6, op := Op.assign (Operand.tmp 66), type := 47, pos := "l14_age.go:20", after := #[{ on := 12, ground := Ground.data }, { on := 12, ground := Ground.chain }, { on := 0, ground := Ground.phase }, { on := 1, ground := Ground.phase }, { on := 2, ground := Ground.phase }, { on := 3, ground := Ground.phase }, { on := 4, ground := Ground.phase }, { on := 5, ground := Ground.phase }, { on := 6, ground := Ground.phase }, { on := 7, ground := Ground.phase }, { on := 8, ground := Ground.phase }, { on := 9, ground := Ground.phase }, { on := 10, ground := Ground.phase }, { on := 11, ground := Ground.phase }, { on := 12, ground := Ground.phase }], guard := none }) (v := ?_) rfl (by kernel_rfl) (by kernel_rfl) (by kernel_rfl) (fun _ _ _ h => h) (Or.inl ⟨by rfl, ?_⟩) (by assumption) ?_
                  rotate_left 1
                  · intro w' hSw; (try dsimp only at hSw); go_simp; (try with_reducible rfl)
                  (try simp only [Act.put, List.setIfInBounds_toArray, List.set_cons_zero, List.set_cons_succ])
                  refine wpAnyH_done (by kernel_rfl) ?_ _
                  go_wp2
                  go_roundw
                  case rel => exact ⟨i + 1, insU D ⟨N, F, B, C, U⟩, g12, _, k12, rfl, by go_num, by omega, HF3, ⟨by rw [hdl.out]; exact o12.wide (by omega) (Nat.le_refl _), hlow9.trans (hC.mono hz9)⟩, by rw [ins_len]; omega⟩
                  case measure => simp [intOf]; omega
                go_simp
                have hBr9 := bAi w9.drew (.cells #[.string N, .int .i64 F, .string B, .int .i64 C, .int .i64 U] 53)
                have rd9 := rd_new (E := encIt) w9.drew ⟨N, F, B, C, U⟩ #[.string N, .int .i64 F, .string B, .int .i64 C, .int .i64 U] rfl
                replace hC := hC.trans (hBr9.mono hC.size)
                (try replace o4 := (o4.grow hBr9).wide (Nat.le_refl _) hBr9.size)
                refine hKC.out _ _ (HR.out _ (hlow9.trans (hC.mono hz9))) (fun hHeld2 => ?_)
                clear hKC KC hHeld
                have hHeld := hHeld2
                clear hHeld2
                (try simp only [Act.put, List.setIfInBounds_toArray, List.set_cons_zero, List.set_cons_succ])
                refine wpAnyH_ready (rs := [0]) (by kernel_rfl) (by simp) ?_
                refine AllReadyH.cons (o := { dst := some 54, op := Op.buildSlice 47 0 #[], type := 47, pos := "l14_age.go:20", after := #[], guard := none }) rfl (fun KC hKC => ?_) AllReadyH.nil
                refine step_build0i rfl 47 _ iT rfl Try.underlying47 hiT ?_
                intro b0 wr0 hBr0
                replace hC := hC.trans (hBr0.mono hC.size)
                (try replace rd9 := rd9.grow hBr0)
                refine hKC.out _ _ (HR.out _ (hlow9.trans (hC.mono hz9))) (fun hHeld2 => ?_)
                clear hKC KC hHeld
                have hHeld := hHeld2
                clear hHeld2
                (try simp only [Act.put, List.setIfInBounds_toArray, List.set_cons_zero, List.set_cons_succ])
                refine wpAnyH_ready (rs := [4]) (by kernel_rfl) (by simp) ?_
                refine AllReadyH.cons (o := { dst := some 58, op := Op.call { callee := Callee.builtin Builtin.append, args := #[Operand.tmp 54, Operand.tmp 57], argTypes := #[47, 47] }, type := 47, pos := "l14_age.go:20", after := #[{ on := 0, ground := Ground.data }, { on := 3, ground := Ground.data }], guard := none }) rfl (fun KC hKC => ?_) AllReadyH.nil
                refine step_append_g infoIt rfl _ _ 47 rfl Try.underlying47 wr0.heap.size _ _ [] rfl (own_zero _ _ _ 0 _) (Nat.le_refl _) _ (D.take m) rfl (RT9.out.grow hC) (by simp; omega) ?_
                intro v4 wr4 o4 hT4
                rw [List.nil_append] at o4
                obtain ⟨a4, n4, k4, rfl⟩ := o4.slice
                have hBr4 := hT4.low
                have hl4 : w9.heap.size ≤ wr0.heap.size := hC.size
                replace hC := hC.trans (hBr4.mono hC.size)
                (try replace rd9 := rd9.grow hBr4)
                replace o4 := o4.wide hl4 (Nat.le_refl _)
                refine hKC.out _ _ (HR.out _ (hlow9.trans (hC.mono hz9))) (fun hHeld2 => ?_)
                clear hKC KC hHeld
                have hHeld := hHeld2
                clear hHeld2
                (try simp only [Act.put, List.setIfInBounds_toArray, List.set_cons_zero, List.set_cons_succ])
                refine wpAnyH_ready (rs := [10]) (by kernel_rfl) (by simp) ?_
                refine AllReadyH.cons (o := { dst := some 64, op := Op.call { callee := Callee.builtin Builtin.append, args := #[Operand.tmp 58, Operand.tmp 63], argTypes := #[47, 47] }, type := 47, pos := "l14_age.go:20", after := #[{ on := 4, ground := Ground.data }, { on := 9, ground := Ground.data }, { on := 4, ground := Ground.chain }], guard := none }) rfl (fun KC hKC => ?_) AllReadyH.nil
                refine step_append_g infoIt rfl _ _ 47 rfl Try.underlying47 w9.heap.size _ _ (D.take m) rfl o4 hC.size _ [⟨N, F, B, C, U⟩] rfl rd9 (by simp; omega) ?_
                intro v10 wr10 o10 hT10
                obtain ⟨a10, n10, k10, rfl⟩ := o10.slice
                replace hC := hC.trans hT10.low
                refine hKC.out _ _ (HR.out _ (hlow9.trans (hC.mono hz9))) (fun hHeld2 => ?_)
                clear hKC KC hHeld
                have hHeld := hHeld2
                clear hHeld2
                (try simp only [Act.put, List.setIfInBounds_toArray, List.set_cons_zero, List.set_cons_succ])
                refine wpAnyH_ready (rs := [12]) (by kernel_rfl) (by simp) ?_
                refine AllReadyH.cons (o := { dst := some 66, op := Op.call { callee := Callee.builtin Builtin.append, args := #[Operand.tmp 64, Operand.tmp 65], argTypes := #[47, 47] }, type := 47, pos := "l14_age.go:20", after := #[{ on := 10, ground := Ground.data }, { on := 11, ground := Ground.data }, { on := 10, ground := Ground.chain }], guard := none }) rfl (fun KC hKC => ?_) AllReadyH.nil
                refine step_append_g infoIt rfl _ _ 47 rfl Try.underlying47 w9.heap.size _ _ (D.take m ++ [⟨N, F, B, C, U⟩]) rfl o10 hC.size _ (D.drop m) rfl (o9.rd.grow hC) (by simp; omega) ?_
                intro v12 wr12 o12 hT12
                obtain ⟨g12, k12, e12, hg12, -, -⟩ := o12.form (by simp; omega)
                obtain ⟨n12, hn12⟩ := hid_ex ((D.take m ++ [(⟨N, F, B, C, U⟩ : It)] ++ D.drop m).length)
                rw [hn12.out] at e12
                replace hC := hC.trans hT12.low
                subst e12
                refine hKC.out _ _ (HR.out _ (hlow9.trans (hC.mono hz9))) (fun hHeld2 => ?_)
                clear hKC KC hHeld
                have hHeld := hHeld2
                clear hHeld2
                (try simp only [Act.put, List.setIfInBounds_toArray, List.set_cons_zero, List.set_cons_succ])
                refine wpAnyH_take (i := 13) (oi := { dst := some 6, op := Op.assign (Operand.tmp 66), type := 47, pos := "l14_age.go:20", after := #[{ on := 12, ground := Ground.data }, { on := 12, ground := Ground.chain }, { on := 0, ground := Ground.phase }, { on := 1, ground := Ground.phase }, { on := 2, ground := Ground.phase }, { on := 3, ground := Ground.phase }, { on := 4, ground := Ground.phase }, { on := 5, ground := Ground.phase }, { on := 6, ground := Ground.phase }, { on := 7, ground := Ground.phase }, { on := 8, ground := Ground.phase }, { on := 9, ground := Ground.phase }, { on := 10, ground := Ground.phase }, { on := 11, ground := Ground.phase }, { on := 12, ground := Ground.phase }], guard := none }) (v := ?_) rfl (by kernel_rfl) (by kernel_rfl) (by kernel_rfl) (fun _ _ _ h => h) (Or.inl ⟨by rfl, ?_⟩) (by assumption) ?_
                rotate_left 1
                · intro w' hSw; (try dsimp only at hSw); go_simp; (try with_reducible rfl)
                (try simp only [Act.put, List.setIfInBounds_toArray, List.set_cons_zero, List.set_cons_succ])
                refine wpAnyH_done (by kernel_rfl) ?_ _
                go_wp2
                go_roundw
                case rel => exact ⟨i + 1, insU D ⟨N, F, B, C, U⟩, g12, _, k12, rfl, by go_num, by omega, HF3, ⟨by rw [hdl.out]; exact o12.wide (by omega) (Nat.le_refl _), hlow9.trans (hC.mono hz9)⟩, by rw [ins_len]; omega⟩
                case measure => simp [intOf]; omega
      · have hlt' : ¬ (i : Int) < (b.length : Int) := by omega
        have HD : Hid (dueL b now = D) := by
          have := HF.out
          rw [List.take_of_length_le (by omega)] at this
          exact this
        have hnD : Hid (n = D.length) := SD.out.o.rd.cap.1
        have hn20 : n ≤ 20 := by have := hnD.out; omega
        have mz : Hid True := trivial
        go_wp2_with (fail)
        have O0 : Hid (Own encS wr w.heap.size wr.heap.size (.slice (some ⟨b1, 0, none⟩) 0 0) ((D.take 0).map (·.N))) := own_zero _ _ _ _ _
        go_loopw [5, 10] (fun ov jv wq => ∃ (j : Nat) (ao : Option Addr) (no ko : Nat), ov = .slice ao no ko ∧ jv = .int .i64 j ∧ j ≤ n ∧ Hid (Own encS wq w.heap.size wq.heap.size (.slice ao no ko) ((D.take j).map (·.N))) ∧ Hid (Sq w g n k D wq)) (fun _ jv _ => n - (intOf jv).toNat)
        case atStart => exact ⟨0, _, _, _, rfl, rfl, by omega, O0, SD⟩
        case round =>
          clear O0 SD
          obtain ⟨j, ao, no, ko, rfl, rfl, hj, OO, SD⟩ := hrel
          by_cases hjn : j < n
          · have hjn' : (j : Int) < (n : Int) := by omega
            have hjD : j < D.length := by have := hnD.out; omega
            obtain ⟨g2, e2, -, d0, -⟩ := SD.out.o.cell j 0 hjD (by decide)
            cases e2
            have d0 : wr.cell? ⟨g, j * 5, none⟩ = some (.string D[j].N) := d0
            obtain ⟨s, hs⟩ := hid_ex (D[j].N)
            rw [hs.out] at d0
            have htk : Hid ((D.take (j + 1)).map (·.N) = (D.take j).map (·.N) ++ [s]) := by unfold Hid; rw [← List.take_append_getElem hjD, List.map_append, ← hs.out]; rfl
            go_wp2_with (first | (at_builtin; refine wpList_append_g infoS rfl _ _ 24 rfl Try.underlying24 w.heap.size _ _ ((D.take j).map (·.N)) rfl (OO.out.grow (bAi wr _)) (by have := SD.out.low.size; simp; omega) _ [s] rfl (rd_new (E := encS) wr s #[.string s] rfl) (by simp; omega) ?_; intro v7 w7 o7 hT7; have hB7 := bAi wr (.cells #[.string s] 9); have S7 : Hid (Sq w g n k D w7) := ⟨(hT7.own (SD.out.o.grow hB7) (by decide)).top, (SD.out.low.trans (hB7.mono SD.out.low.size)).trans hT7.low⟩; obtain ⟨a7, n7, k7, rfl⟩ := o7.slice) | (fail))
            go_roundw
            case rel => exact ⟨j + 1, a7, n7, k7, rfl, by go_num, by omega, by unfold Hid; rw [htk.out]; exact o7, S7⟩
            case measure => simp [intOf]; omega
          · have hjn' : ¬ (j : Int) < (n : Int) := by omega
            go_wp2
            go_ret
            refine ⟨_, rfl, ?_, SD.out.low⟩
            have := OO.out
            rw [List.take_of_length_le (by have := hnD.out; omega)] at this
            rw [hz0.out, HD.out]
            exact this
end Go.Proofs.Ytmnjmghlkiljhaa.rg
