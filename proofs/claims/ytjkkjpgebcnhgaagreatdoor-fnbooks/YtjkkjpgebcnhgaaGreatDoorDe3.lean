/- What the laws of chapter 10 draw, third part: a thing is put where it belongs. -/
import Derived.Test.YtjkkjpgebcnhgaaGreatDoorDe2
import Derived.Test.YtjkkjpgebcnhgaaGreatDoorMg01
import Derived.Deep.QuietTactic
import Derived.BigQuiet
namespace Go.Proofs.YtjkkjpgebcnhgaaGreatDoor.rg
open Go.ChangeShapes Go.WideShapes Go.ChangeAt Go.RowKit
open Go.Proofs.YtjkkjpgebcnhgaaGreatDoor.ce Go.Proofs.YtjkkjpgebcnhgaaGreatDoor.ro Go.Proofs.YtjkkjpgebcnhgaaGreatDoor.draw
set_option linter.unusedVariables false

/-- what stands behind: without the first one, where that goes by the name -/
def bhd (s : ByteArray) : List It → List It
  | [] => []
  | x :: r => if x.N = s then r else x :: r
theorem rdIt_rest {w : World} {b off n cap : Nat} {xs : List It} (r : Rd encIt w (.slice (some ⟨b, off, none⟩) n cap) xs) (m : Nat) (hm : m ≤ xs.length) :
    Rd encIt w (.slice (if cap = m then some ⟨b, off, none⟩ else some ⟨b, off + m * 5, none⟩) (n - m) (cap - m)) (xs.drop m) := by
  rcases r.rest m hm with ⟨h1, h2⟩ | ⟨h1, h2, h3, h4⟩
  · rw [if_neg (by omega)]
    exact h2.out
  · rw [if_pos h1.symm, h1, h2, h1, Nat.sub_self, ← h1]
    exact h4.out

theorem sp_alloc {w w' : World} {b : Nat} {t : TypeId} {v0 v1 v2 v3 v4 : Value} {o : Obj} (V : VBlk w b t [v0, v1, v2, v3, v4]) (h : Below w.heap.size w w' ∧ w'.cell? ⟨b, 0, none⟩ = some v0 ∧ w'.cell? ⟨b, 1, none⟩ = some v1 ∧ w'.cell? ⟨b, 2, none⟩ = some v2 ∧ w'.cell? ⟨b, 3, none⟩ = some v3 ∧ w'.cell? ⟨b, 4, none⟩ = some v4) :
    Below w.heap.size w (w'.alloc o) ∧ (w'.alloc o).cell? ⟨b, 0, none⟩ = some v0 ∧ (w'.alloc o).cell? ⟨b, 1, none⟩ = some v1 ∧ (w'.alloc o).cell? ⟨b, 2, none⟩ = some v2 ∧ (w'.alloc o).cell? ⟨b, 3, none⟩ = some v3 ∧ (w'.alloc o).cell? ⟨b, 4, none⟩ = some v4 :=
  ⟨h.1.alloc h.1.size _, cells5 (vblk_grow V (h.1.alloc h.1.size _))⟩
theorem sp_alloc_drew {w w' : World} {b : Nat} {t : TypeId} {v0 v1 v2 v3 v4 : Value} {o : Obj} (V : VBlk w b t [v0, v1, v2, v3, v4]) (h : Below w.heap.size w w'.drew ∧ w'.drew.cell? ⟨b, 0, none⟩ = some v0 ∧ w'.drew.cell? ⟨b, 1, none⟩ = some v1 ∧ w'.drew.cell? ⟨b, 2, none⟩ = some v2 ∧ w'.drew.cell? ⟨b, 3, none⟩ = some v3 ∧ w'.drew.cell? ⟨b, 4, none⟩ = some v4) :
    Below w.heap.size w (w'.alloc o).drew ∧ (w'.alloc o).drew.cell? ⟨b, 0, none⟩ = some v0 ∧ (w'.alloc o).drew.cell? ⟨b, 1, none⟩ = some v1 ∧ (w'.alloc o).drew.cell? ⟨b, 2, none⟩ = some v2 ∧ (w'.alloc o).drew.cell? ⟨b, 3, none⟩ = some v3 ∧ (w'.alloc o).drew.cell? ⟨b, 4, none⟩ = some v4 :=
  sp_alloc (w' := w'.drew) V h
theorem sp_trans {w w' w'' : World} {b B : Nat} {t : TypeId} {X : Prop} {v0 v1 v2 v3 v4 : Value} (V : VBlk w b t [v0, v1, v2, v3, v4]) (h : Below w.heap.size w w' ∧ X) (k : Below B w' w'') (hB : w.heap.size ≤ B) :
    Below w.heap.size w w'' ∧ w''.cell? ⟨b, 0, none⟩ = some v0 ∧ w''.cell? ⟨b, 1, none⟩ = some v1 ∧ w''.cell? ⟨b, 2, none⟩ = some v2 ∧ w''.cell? ⟨b, 3, none⟩ = some v3 ∧ w''.cell? ⟨b, 4, none⟩ = some v4 :=
  ⟨h.1.trans (k.mono hB), cells5 (vblk_grow V (h.1.trans (k.mono hB)))⟩
theorem sp_size {w w' w'' : World} {t : TypeId} {X : Prop} (hT : Ty w'.heap.size t w' w'') (h : Below w.heap.size w w' ∧ X) : w.heap.size ≤ w'.heap.size := h.1.size
theorem sp_b {w w' : World} {X : Prop} (h : Below w.heap.size w w' ∧ X) : Below w.heap.size w w' := h.1

set_option maxRecDepth 100000 in
set_option maxHeartbeats 4000000 in
theorem l10Put_any (b : List It) (ab off n cap : Nat) (N B : ByteArray) (F C U : Int) (w : World) (r : Rd encIt w (.slice (some ⟨ab, off, none⟩) n cap) b) (hl : b.length ≤ 1000000) :
    Calls Tryz.prog 107 #[.slice (some ⟨ab, off, none⟩) n cap, .agg #[.string N, .int .i64 F, .string B, .int .i64 C, .int .i64 U]] w fun e w' => ∃ v' k, e = .returned v' ∧ Own encIt w' w.heap.size w'.heap.size v' (b.take k ++ ⟨N, F, B, C, U⟩ :: bhd N (b.drop k)) ∧ Below w.heap.size w w' ∧ k ≤ b.length ∧ (∀ x ∈ b.take k, ltS x.N N = true) ∧ (∀ h : k < b.length, ltS b[k].N N = false) := by
  obtain ⟨rfl, hc1, hc2⟩ := r.cap
  have R : Hid (Rd encIt w (.slice (some ⟨ab, off, none⟩) b.length cap) b) := r
  clear r
  go_enter Tryz.func107, Tryz.ntmps107
  go_wp2_with (first | (refine wpList_box_v rfl 56 _ rfl [.string N, .int .i64 F, .string B, .int .i64 C, .int .i64 U] rfl ?_; intro b1 w1 hb1 hw1 hB1 V1; have hz1 := hB1.size) | (fail))
  have VV : Hid (VBlk w1 b1 56 [.string N, .int .i64 F, .string B, .int .i64 C, .int .i64 U]) := V1
  clear V1
  go_loopw [5] (fun p wr => ∃ k : Nat, k ≤ b.length ∧ p = .int .i64 k ∧ Hid (∀ x ∈ b.take k, ltS x.N N = true) ∧ Hid (Below w1.heap.size w1 wr)) (fun p _ => b.length - (intOf p).toNat)
  case atStart => exact ⟨0, by omega, rfl, (fun x hx => by simp at hx), Below.refl _ _⟩
  case round =>
    obtain ⟨k, hk1, rfl, hP, hBr⟩ := hrel
    have hk0 : (0 : Int) ≤ (k : Int) := by omega
    have hk2 : (k : Int) ≤ (b.length : Int) := by omega
    have hk3 : (k : Int) ≤ (cap : Int) := by omega
    have hk4 : (b.length : Int) ≤ (cap : Int) := by omega
    have hBw : Below w.heap.size w wr := hB1.trans (hBr.out.mono hz1)
    have hzr := hBr.out.size
    have c0 := (cells5 (vblk_grow VV.out hBr.out)).1
    by_cases hlt : k < b.length
    · obtain ⟨ab', off', e', hb, rg⟩ := rd_item rfl rfl (R.out.grow hBw) k hlt
      cases e'
      have d0 := (rng5 rg).1
      have hlt' : (k : Int) < (b.length : Int) := by omega
      have hdc : decide ((k : Int) < (b.length : Int)) = true := decide_eq_true hlt'
      have htk : b.take (k + 1) = b.take k ++ [b[k]] := List.take_succ_eq_append_getElem hlt
      have hdr : b.drop k = b[k] :: b.drop (k + 1) := List.drop_eq_getElem_cons hlt
      obtain ⟨z, hz⟩ := hid_ex (b[k])
      rw [hz.out] at d0 htk hdr
      obtain ⟨Z, F2, B2, C2, U2⟩ := z
      dsimp only at d0
      clear rg
      cases hls : Op.bytesLess Z.toList N.toList with
      | true =>
        have hP2 : Hid (∀ x ∈ b.take (k + 1), ltS x.N N = true) := fun x hx => by
          rw [htk] at hx
          rcases List.mem_append.1 hx with q | q
          · exact hP.out x q
          · rw [List.mem_singleton.1 q]; exact hls
        clear htk hdr
        go_wp2
        go_quiet (fail)
        go_wp2
        go_roundw
        case rel => exact ⟨k + 1, by omega, by go_num, hP2, hBr.out.trans (ce.below_drewN _ _)⟩
        case measure => simp [intOf]; omega
      | false =>
        have hKK : Hid (∀ h : k < b.length, ltS b[k].N N = false) := fun h => by rw [hz.out]; exact hls
        clear htk
        by_cases hen : Z.toList = N.toList
        · have heq : (Z.toList == N.toList) = true := by simpa using hen
          have heN : Hid (Z = N) := str_eq hen
          clear hen
          go_wp2
          go_quiet (fail)
          generalize hwq : wr.drewN nq = wq
          have hBq : Below wr.heap.size wr wq := hwq ▸ ce.below_drewN _ _
          have hzq := hBq.size
          have hBwq : Below w.heap.size w wq := hBw.trans (hBq.mono hBw.size)
          have Vq : Hid (VBlk wq b1 56 [.string N, .int .i64 F, .string B, .int .i64 C, .int .i64 U]) := vblk_grow (vblk_grow VV.out hBr.out) hBq
          have RT : Hid (Rd encIt wq (.slice (some ⟨ab, off, none⟩) k cap) (b.take k)) := (R.out.grow hBwq).take k hk1
          have RD : Hid (Rd encIt wq (.slice (some ⟨ab, off + k * 5, none⟩) (b.length - k) (cap - k)) (b.drop k)) := by
            have := rdIt_rest (R.out.grow hBwq) k hk1
            rw [if_neg (by omega)] at this
            exact this
          have hdl : (b.drop k).length ≤ 1000000 := by rw [List.length_drop]; omega
          have htl : (b.take k).length ≤ 1000000 := by rw [List.length_take]; omega
          clear hwq c0 hBr
          have m4 : Hid True := trivial
          go_wp2_with (first | (clear m4; at_builtin; refine wpList_append_g infoIt rfl _ _ 29 rfl Tryz.underlying29 wq.heap.size _ _ [] rfl (own_zero _ _ _ 0 _) (by simp) _ (b.drop k) rfl (RD.out.grow ((Below.refl _ _).alloc (Nat.le_refl _) _)) (by simp; omega) ?_; intro v4 w4 o4 hT4; rw [List.nil_append] at o4; have hB4 : Below wq.heap.size wq w4 := ((Below.refl _ _).alloc (Nat.le_refl _) _).trans hT4.low) | (fail))
          have hz4 := hB4.size
          have V4 : Hid (VBlk w4 b1 56 [.string N, .int .i64 F, .string B, .int .i64 C, .int .i64 U]) := vblk_grow Vq.out hB4
          have c0 := (cells5 V4.out).1
          rw [hdr] at o4
          obtain ⟨g4, k4, e4, hg4, hg4', hg4''⟩ := o4.form (by simp)
          obtain ⟨n4, hn4⟩ := hid_ex (⟨Z, F2, B2, C2, U2⟩ :: b.drop (k + 1)).length
          rw [hn4.out] at e4
          have hn5 : 1 ≤ n4 := by have := hn4.out; simp at this; omega
          subst e4
          have hk5 := o4.rd.cap.2
          have hn4' : decide (0 < n4) = true := decide_eq_true (by omega)
          have hn9 : 0 < n4 := by omega
          have hn6 : (1 : Int) ≤ (n4 : Int) := by omega
          have hn7 : (n4 : Int) ≤ (k4 : Int) := by omega
          have hn8 : (1 : Int) ≤ (k4 : Int) := by omega
          have O4 : Hid (Own encIt w4 wq.heap.size w4.heap.size (.slice (some ⟨g4, 0, none⟩) n4 k4) (⟨Z, F2, B2, C2, U2⟩ :: b.drop (k + 1))) := o4
          obtain ⟨g4x, offx, ex, -, rgx⟩ := rd_item rfl rfl o4.rd 0 (by simp)
          cases ex
          have e0 := (rng5 rgx).1
          simp only [Nat.zero_mul, Nat.add_zero, List.getElem_cons_zero] at e0
          clear o4 rgx
          go_wp2
          go_quiet (fail)
          generalize hwv : w4.drewN nq = w5
          have hB5 : Below w4.heap.size w4 w5 := hwv ▸ ce.below_drewN _ _
          have hz5 := hB5.size
          have V5 : Hid (VBlk w5 b1 56 [.string N, .int .i64 F, .string B, .int .i64 C, .int .i64 U]) := vblk_grow V4.out hB5
          have RT5 : Hid (Rd encIt w5 (.slice (some ⟨ab, off, none⟩) k cap) (b.take k)) := (RT.out.grow hB4).grow hB5
          have hBw5 : Below w.heap.size w w5 := (hBwq.trans (hB4.mono hBwq.size)).trans (hB5.mono (Nat.le_trans hBwq.size hz4))
          clear hwv
          have hxl : (b.drop (k + 1)).length ≤ 1000000 := by first | (rw [← hdr]; exact hdl) | (rw [hdr] at hdl; simp at hdl ⊢; omega) | simp
          by_cases hk41 : k4 = 1
          · subst hk41
            obtain rfl : n4 = 1 := by omega
            have hnil : b.drop (k + 1) = [] := by have := hn4.out; simp at this; exact List.drop_eq_nil_of_le (by omega)
            have RR4 : Rd encIt w5 (.slice (some ⟨g4, 0, none⟩) 0 0) (b.drop (k + 1)) := by rw [hnil]; exact rd_zero _ _ _ _ (Nat.zero_le _)
            clear hnil O4
            have R5 : Hid (Rd encIt w5 (.slice (some ⟨g4, 0, none⟩) 0 0) (b.drop (k + 1))) := RR4
            clear RR4
            go_wp2
            have hS0 : Below w5.heap.size w5 w5.drew ∧ w5.drew.cell? ⟨b1, 0, none⟩ = some (.string N) ∧ w5.drew.cell? ⟨b1, 1, none⟩ = some (.int .i64 F) ∧ w5.drew.cell? ⟨b1, 2, none⟩ = some (.string B) ∧ w5.drew.cell? ⟨b1, 3, none⟩ = some (.int .i64 C) ∧ w5.drew.cell? ⟨b1, 4, none⟩ = some (.int .i64 U) := ⟨(Below.refl _ _).drew, cells5 (w := w5.drew) V5.out⟩
            have m7 : Hid True := trivial
            have m8 : Hid True := trivial
            go_region_held3 (fun w' => Below w5.heap.size w5 w' ∧ w'.cell? ⟨b1, 0, none⟩ = some (.string N) ∧ w'.cell? ⟨b1, 1, none⟩ = some (.int .i64 F) ∧ w'.cell? ⟨b1, 2, none⟩ = some (.string B) ∧ w'.cell? ⟨b1, 3, none⟩ = some (.int .i64 C) ∧ w'.cell? ⟨b1, 4, none⟩ = some (.int .i64 U)) (first | with_reducible assumption | with_reducible exact hS0 | with_reducible exact sp_alloc V5.out (by with_reducible assumption) | with_reducible exact sp_alloc_drew V5.out (by with_reducible assumption) | (fail)) (first | (clear m7; refine step_append_g infoIt rfl _ _ 29 rfl Tryz.underlying29 _ 0 _ [] rfl (own_zero _ _ _ _ _) (Nat.le_refl _) _ (b.take k) rfl (RT5.out.grow (sp_b (by with_reducible assumption))) (by simp; omega) ?_; intro v6 w6 o6 hT6; rw [List.nil_append] at o6; have hzc := sp_size hT6 (by with_reducible assumption); have hS6 := sp_trans V5.out (by with_reducible assumption) hT6.low hzc) | (clear m8; refine step_append_g infoIt rfl _ _ 29 rfl Tryz.underlying29 _ _ _ (b.take k) rfl (o6.grow ((Below.refl _ _).alloc (Nat.le_refl _) _)) (Nat.le_trans hT6.low.size (by simp)) (.slice (some ⟨w6.heap.size, 0, none⟩) 1 1) [⟨N, F, B, C, U⟩] rfl (rd_new (E := encIt) w6 ⟨N, F, B, C, U⟩ #[.string N, .int .i64 F, .string B, .int .i64 C, .int .i64 U] rfl) (by simp; omega) ?_; intro v7 w7 o7 hT7; have hS7 := sp_trans V5.out (by with_reducible assumption) hT7.low hzc; have hzz := Nat.le_trans (Nat.le_trans hT6.low.size (show _ ≤ _ by first | exact Nat.le_refl _ | simp)) hT7.low.size) | (clear m8; refine step_append_g infoIt rfl _ _ 29 rfl Tryz.underlying29 _ _ _ (b.take k) rfl o6 (Nat.le_trans hT6.low.size (by simp)) (.slice (some ⟨w5.heap.size + 1, 0, none⟩) 1 1) [⟨N, F, B, C, U⟩] rfl (by have := (rd_new (E := encIt) (w5.alloc (Obj.cells #[] 56)) ⟨N, F, B, C, U⟩ #[.string N, .int .i64 F, .string B, .int .i64 C, .int .i64 U] rfl).drew.grow hT6.low; simpa using this) (by simp; omega) ?_; intro v7 w7 o7 hT7; have hS7 := sp_trans V5.out (by with_reducible assumption) hT7.low hzc; have hzz := Nat.le_trans (Nat.le_trans hT6.low.size (show _ ≤ _ by first | exact Nat.le_refl _ | simp)) hT7.low.size) | (clear m8; refine step_append_g infoIt rfl _ _ 29 rfl Tryz.underlying29 _ _ _ (b.take k) rfl o6 (Nat.le_trans hT6.low.size (by simp)) (.slice (some ⟨w5.heap.size, 0, none⟩) 1 1) [⟨N, F, B, C, U⟩] rfl (((rd_new (E := encIt) w5 ⟨N, F, B, C, U⟩ #[.string N, .int .i64 F, .string B, .int .i64 C, .int .i64 U] rfl).grow ((Below.refl _ _).alloc (Nat.le_refl _) (Obj.cells #[] 56))).drew.grow hT6.low) (by simp; omega) ?_; intro v7 w7 o7 hT7; have hS7 := sp_trans V5.out (by with_reducible assumption) hT7.low hzc; have hzz := Nat.le_trans (Nat.le_trans hT6.low.size (show _ ≤ _ by first | exact Nat.le_refl _ | simp)) hT7.low.size) | (refine step_append_g infoIt rfl _ _ 29 rfl Tryz.underlying29 _ _ _ (b.take k ++ [⟨N, F, B, C, U⟩]) rfl o7 (Nat.le_trans hzz (Nat.le_refl _)) _ (b.drop (k + 1)) rfl (R5.out.grow hS7.1) (by simp; omega) ?_; intro v8 w8 o8 hT8; have hS8 := sp_trans V5.out hS7 hT8.low hzc) | (fail))
            all_goals
              go_wp2
              go_ret
              refine ⟨_, k, rfl, ?_, hBw5.trans (hS8.1.mono hBw5.size), hk1, hP.out, hKK.out⟩
              have hfin : bhd N (b.drop k) = (b.drop (k + 1)) := by rw [hdr]; exact if_pos heN.out
              rw [hfin]
              have := o8.wide (lo' := w.heap.size) (Nat.le_trans hBw5.size hzc) (Nat.le_refl _)
              simpa using this
          · have RR4 : Rd encIt w5 (.slice (some ⟨g4, 5, none⟩) (n4 - 1) (k4 - 1)) (b.drop (k + 1)) := by
              have := rdIt_rest (O4.out.rd.grow hB5) 1 (by simp)
              rw [if_neg hk41] at this
              exact this
            clear O4
            have R5 : Hid (Rd encIt w5 (.slice (some ⟨g4, 5, none⟩) (n4 - 1) (k4 - 1)) (b.drop (k + 1))) := RR4
            clear RR4
            go_wp2
            have hS0 : Below w5.heap.size w5 w5.drew ∧ w5.drew.cell? ⟨b1, 0, none⟩ = some (.string N) ∧ w5.drew.cell? ⟨b1, 1, none⟩ = some (.int .i64 F) ∧ w5.drew.cell? ⟨b1, 2, none⟩ = some (.string B) ∧ w5.drew.cell? ⟨b1, 3, none⟩ = some (.int .i64 C) ∧ w5.drew.cell? ⟨b1, 4, none⟩ = some (.int .i64 U) := ⟨(Below.refl _ _).drew, cells5 (w := w5.drew) V5.out⟩
            have m7 : Hid True := trivial
            have m8 : Hid True := trivial
            go_region_held3 (fun w' => Below w5.heap.size w5 w' ∧ w'.cell? ⟨b1, 0, none⟩ = some (.string N) ∧ w'.cell? ⟨b1, 1, none⟩ = some (.int .i64 F) ∧ w'.cell? ⟨b1, 2, none⟩ = some (.string B) ∧ w'.cell? ⟨b1, 3, none⟩ = some (.int .i64 C) ∧ w'.cell? ⟨b1, 4, none⟩ = some (.int .i64 U)) (first | with_reducible assumption | with_reducible exact hS0 | with_reducible exact sp_alloc V5.out (by with_reducible assumption) | with_reducible exact sp_alloc_drew V5.out (by with_reducible assumption) | (fail)) (first | (clear m7; refine step_append_g infoIt rfl _ _ 29 rfl Tryz.underlying29 _ 0 _ [] rfl (own_zero _ _ _ _ _) (Nat.le_refl _) _ (b.take k) rfl (RT5.out.grow (sp_b (by with_reducible assumption))) (by simp; omega) ?_; intro v6 w6 o6 hT6; rw [List.nil_append] at o6; have hzc := sp_size hT6 (by with_reducible assumption); have hS6 := sp_trans V5.out (by with_reducible assumption) hT6.low hzc) | (clear m8; refine step_append_g infoIt rfl _ _ 29 rfl Tryz.underlying29 _ _ _ (b.take k) rfl (o6.grow ((Below.refl _ _).alloc (Nat.le_refl _) _)) (Nat.le_trans hT6.low.size (by simp)) (.slice (some ⟨w6.heap.size, 0, none⟩) 1 1) [⟨N, F, B, C, U⟩] rfl (rd_new (E := encIt) w6 ⟨N, F, B, C, U⟩ #[.string N, .int .i64 F, .string B, .int .i64 C, .int .i64 U] rfl) (by simp; omega) ?_; intro v7 w7 o7 hT7; have hS7 := sp_trans V5.out (by with_reducible assumption) hT7.low hzc; have hzz := Nat.le_trans (Nat.le_trans hT6.low.size (show _ ≤ _ by first | exact Nat.le_refl _ | simp)) hT7.low.size) | (clear m8; refine step_append_g infoIt rfl _ _ 29 rfl Tryz.underlying29 _ _ _ (b.take k) rfl o6 (Nat.le_trans hT6.low.size (by simp)) (.slice (some ⟨w5.heap.size + 1, 0, none⟩) 1 1) [⟨N, F, B, C, U⟩] rfl (by have := (rd_new (E := encIt) (w5.alloc (Obj.cells #[] 56)) ⟨N, F, B, C, U⟩ #[.string N, .int .i64 F, .string B, .int .i64 C, .int .i64 U] rfl).drew.grow hT6.low; simpa using this) (by simp; omega) ?_; intro v7 w7 o7 hT7; have hS7 := sp_trans V5.out (by with_reducible assumption) hT7.low hzc; have hzz := Nat.le_trans (Nat.le_trans hT6.low.size (show _ ≤ _ by first | exact Nat.le_refl _ | simp)) hT7.low.size) | (clear m8; refine step_append_g infoIt rfl _ _ 29 rfl Tryz.underlying29 _ _ _ (b.take k) rfl o6 (Nat.le_trans hT6.low.size (by simp)) (.slice (some ⟨w5.heap.size, 0, none⟩) 1 1) [⟨N, F, B, C, U⟩] rfl (((rd_new (E := encIt) w5 ⟨N, F, B, C, U⟩ #[.string N, .int .i64 F, .string B, .int .i64 C, .int .i64 U] rfl).grow ((Below.refl _ _).alloc (Nat.le_refl _) (Obj.cells #[] 56))).drew.grow hT6.low) (by simp; omega) ?_; intro v7 w7 o7 hT7; have hS7 := sp_trans V5.out (by with_reducible assumption) hT7.low hzc; have hzz := Nat.le_trans (Nat.le_trans hT6.low.size (show _ ≤ _ by first | exact Nat.le_refl _ | simp)) hT7.low.size) | (refine step_append_g infoIt rfl _ _ 29 rfl Tryz.underlying29 _ _ _ (b.take k ++ [⟨N, F, B, C, U⟩]) rfl o7 (Nat.le_trans hzz (Nat.le_refl _)) _ (b.drop (k + 1)) rfl (R5.out.grow hS7.1) (by simp; omega) ?_; intro v8 w8 o8 hT8; have hS8 := sp_trans V5.out hS7 hT8.low hzc) | (fail))
            all_goals
              go_wp2
              go_ret
              refine ⟨_, k, rfl, ?_, hBw5.trans (hS8.1.mono hBw5.size), hk1, hP.out, hKK.out⟩
              have hfin : bhd N (b.drop k) = (b.drop (k + 1)) := by rw [hdr]; exact if_pos heN.out
              rw [hfin]
              have := o8.wide (lo' := w.heap.size) (Nat.le_trans hBw5.size hzc) (Nat.le_refl _)
              simpa using this
        · have heq : (Z.toList == N.toList) = false := by simpa using hen
          have heN : Hid (Z ≠ N) := fun e => hen (by rw [e])
          clear hen
          go_wp2
          go_quiet (fail)
          generalize hwq : wr.drewN nq = wq
          have hBq : Below wr.heap.size wr wq := hwq ▸ ce.below_drewN _ _
          have hzq := hBq.size
          have hBwq : Below w.heap.size w wq := hBw.trans (hBq.mono hBw.size)
          have Vq : Hid (VBlk wq b1 56 [.string N, .int .i64 F, .string B, .int .i64 C, .int .i64 U]) := vblk_grow (vblk_grow VV.out hBr.out) hBq
          have RT : Hid (Rd encIt wq (.slice (some ⟨ab, off, none⟩) k cap) (b.take k)) := (R.out.grow hBwq).take k hk1
          have RD : Hid (Rd encIt wq (.slice (some ⟨ab, off + k * 5, none⟩) (b.length - k) (cap - k)) (b.drop k)) := by
            have := rdIt_rest (R.out.grow hBwq) k hk1
            rw [if_neg (by omega)] at this
            exact this
          have hdl : (b.drop k).length ≤ 1000000 := by rw [List.length_drop]; omega
          have htl : (b.take k).length ≤ 1000000 := by rw [List.length_take]; omega
          clear hwq c0 hBr
          have m4 : Hid True := trivial
          go_wp2_with (first | (clear m4; at_builtin; refine wpList_append_g infoIt rfl _ _ 29 rfl Tryz.underlying29 wq.heap.size _ _ [] rfl (own_zero _ _ _ 0 _) (by simp) _ (b.drop k) rfl (RD.out.grow ((Below.refl _ _).alloc (Nat.le_refl _) _)) (by simp; omega) ?_; intro v4 w4 o4 hT4; rw [List.nil_append] at o4; have hB4 : Below wq.heap.size wq w4 := ((Below.refl _ _).alloc (Nat.le_refl _) _).trans hT4.low) | (fail))
          have hz4 := hB4.size
          have V4 : Hid (VBlk w4 b1 56 [.string N, .int .i64 F, .string B, .int .i64 C, .int .i64 U]) := vblk_grow Vq.out hB4
          have c0 := (cells5 V4.out).1
          rw [hdr] at o4
          obtain ⟨g4, k4, e4, hg4, hg4', hg4''⟩ := o4.form (by simp)
          obtain ⟨n4, hn4⟩ := hid_ex (⟨Z, F2, B2, C2, U2⟩ :: b.drop (k + 1)).length
          rw [hn4.out] at e4
          have hn5 : 1 ≤ n4 := by have := hn4.out; simp at this; omega
          subst e4
          have hk5 := o4.rd.cap.2
          have hn4' : decide (0 < n4) = true := decide_eq_true (by omega)
          have hn9 : 0 < n4 := by omega
          have hn6 : (1 : Int) ≤ (n4 : Int) := by omega
          have hn7 : (n4 : Int) ≤ (k4 : Int) := by omega
          have hn8 : (1 : Int) ≤ (k4 : Int) := by omega
          have O4 : Hid (Own encIt w4 wq.heap.size w4.heap.size (.slice (some ⟨g4, 0, none⟩) n4 k4) (⟨Z, F2, B2, C2, U2⟩ :: b.drop (k + 1))) := o4
          obtain ⟨g4x, offx, ex, -, rgx⟩ := rd_item rfl rfl o4.rd 0 (by simp)
          cases ex
          have e0 := (rng5 rgx).1
          simp only [Nat.zero_mul, Nat.add_zero, List.getElem_cons_zero] at e0
          clear o4 rgx
          go_wp2
          go_quiet (fail)
          generalize hwv : w4.drewN nq = w5
          have hB5 : Below w4.heap.size w4 w5 := hwv ▸ ce.below_drewN _ _
          have hz5 := hB5.size
          have V5 : Hid (VBlk w5 b1 56 [.string N, .int .i64 F, .string B, .int .i64 C, .int .i64 U]) := vblk_grow V4.out hB5
          have RT5 : Hid (Rd encIt w5 (.slice (some ⟨ab, off, none⟩) k cap) (b.take k)) := (RT.out.grow hB4).grow hB5
          have hBw5 : Below w.heap.size w w5 := (hBwq.trans (hB4.mono hBwq.size)).trans (hB5.mono (Nat.le_trans hBwq.size hz4))
          clear hwv
          have hxl : (⟨Z, F2, B2, C2, U2⟩ :: b.drop (k + 1)).length ≤ 1000000 := by first | (rw [← hdr]; exact hdl) | (rw [hdr] at hdl; simp at hdl ⊢; omega) | simp
          have RR4 := O4.out.rd.grow hB5
          clear O4
          have R5 : Hid (Rd encIt w5 _ (⟨Z, F2, B2, C2, U2⟩ :: b.drop (k + 1))) := RR4
          clear RR4
          go_wp2
          have hS0 : Below w5.heap.size w5 w5.drew ∧ w5.drew.cell? ⟨b1, 0, none⟩ = some (.string N) ∧ w5.drew.cell? ⟨b1, 1, none⟩ = some (.int .i64 F) ∧ w5.drew.cell? ⟨b1, 2, none⟩ = some (.string B) ∧ w5.drew.cell? ⟨b1, 3, none⟩ = some (.int .i64 C) ∧ w5.drew.cell? ⟨b1, 4, none⟩ = some (.int .i64 U) := ⟨(Below.refl _ _).drew, cells5 (w := w5.drew) V5.out⟩
          have m7 : Hid True := trivial
          have m8 : Hid True := trivial
          go_region_held3 (fun w' => Below w5.heap.size w5 w' ∧ w'.cell? ⟨b1, 0, none⟩ = some (.string N) ∧ w'.cell? ⟨b1, 1, none⟩ = some (.int .i64 F) ∧ w'.cell? ⟨b1, 2, none⟩ = some (.string B) ∧ w'.cell? ⟨b1, 3, none⟩ = some (.int .i64 C) ∧ w'.cell? ⟨b1, 4, none⟩ = some (.int .i64 U)) (first | with_reducible assumption | with_reducible exact hS0 | with_reducible exact sp_alloc V5.out (by with_reducible assumption) | with_reducible exact sp_alloc_drew V5.out (by with_reducible assumption) | (fail)) (first | (clear m7; refine step_append_g infoIt rfl _ _ 29 rfl Tryz.underlying29 _ 0 _ [] rfl (own_zero _ _ _ _ _) (Nat.le_refl _) _ (b.take k) rfl (RT5.out.grow (sp_b (by with_reducible assumption))) (by simp; omega) ?_; intro v6 w6 o6 hT6; rw [List.nil_append] at o6; have hzc := sp_size hT6 (by with_reducible assumption); have hS6 := sp_trans V5.out (by with_reducible assumption) hT6.low hzc) | (clear m8; refine step_append_g infoIt rfl _ _ 29 rfl Tryz.underlying29 _ _ _ (b.take k) rfl (o6.grow ((Below.refl _ _).alloc (Nat.le_refl _) _)) (Nat.le_trans hT6.low.size (by simp)) (.slice (some ⟨w6.heap.size, 0, none⟩) 1 1) [⟨N, F, B, C, U⟩] rfl (rd_new (E := encIt) w6 ⟨N, F, B, C, U⟩ #[.string N, .int .i64 F, .string B, .int .i64 C, .int .i64 U] rfl) (by simp; omega) ?_; intro v7 w7 o7 hT7; have hS7 := sp_trans V5.out (by with_reducible assumption) hT7.low hzc; have hzz := Nat.le_trans (Nat.le_trans hT6.low.size (show _ ≤ _ by first | exact Nat.le_refl _ | simp)) hT7.low.size) | (clear m8; refine step_append_g infoIt rfl _ _ 29 rfl Tryz.underlying29 _ _ _ (b.take k) rfl o6 (Nat.le_trans hT6.low.size (by simp)) (.slice (some ⟨w5.heap.size + 1, 0, none⟩) 1 1) [⟨N, F, B, C, U⟩] rfl (by have := (rd_new (E := encIt) (w5.alloc (Obj.cells #[] 56)) ⟨N, F, B, C, U⟩ #[.string N, .int .i64 F, .string B, .int .i64 C, .int .i64 U] rfl).drew.grow hT6.low; simpa using this) (by simp; omega) ?_; intro v7 w7 o7 hT7; have hS7 := sp_trans V5.out (by with_reducible assumption) hT7.low hzc; have hzz := Nat.le_trans (Nat.le_trans hT6.low.size (show _ ≤ _ by first | exact Nat.le_refl _ | simp)) hT7.low.size) | (clear m8; refine step_append_g infoIt rfl _ _ 29 rfl Tryz.underlying29 _ _ _ (b.take k) rfl o6 (Nat.le_trans hT6.low.size (by simp)) (.slice (some ⟨w5.heap.size, 0, none⟩) 1 1) [⟨N, F, B, C, U⟩] rfl (((rd_new (E := encIt) w5 ⟨N, F, B, C, U⟩ #[.string N, .int .i64 F, .string B, .int .i64 C, .int .i64 U] rfl).grow ((Below.refl _ _).alloc (Nat.le_refl _) (Obj.cells #[] 56))).drew.grow hT6.low) (by simp; omega) ?_; intro v7 w7 o7 hT7; have hS7 := sp_trans V5.out (by with_reducible assumption) hT7.low hzc; have hzz := Nat.le_trans (Nat.le_trans hT6.low.size (show _ ≤ _ by first | exact Nat.le_refl _ | simp)) hT7.low.size) | (refine step_append_g infoIt rfl _ _ 29 rfl Tryz.underlying29 _ _ _ (b.take k ++ [⟨N, F, B, C, U⟩]) rfl o7 (Nat.le_trans hzz (Nat.le_refl _)) _ (⟨Z, F2, B2, C2, U2⟩ :: b.drop (k + 1)) rfl (R5.out.grow hS7.1) (by simp; omega) ?_; intro v8 w8 o8 hT8; have hS8 := sp_trans V5.out hS7 hT8.low hzc) | (fail))
          all_goals
            go_wp2
            go_ret
            refine ⟨_, k, rfl, ?_, hBw5.trans (hS8.1.mono hBw5.size), hk1, hP.out, hKK.out⟩
            have hfin : bhd N (b.drop k) = (⟨Z, F2, B2, C2, U2⟩ :: b.drop (k + 1)) := by rw [hdr]; exact if_neg heN.out
            rw [hfin]
            have := o8.wide (lo' := w.heap.size) (Nat.le_trans hBw5.size hzc) (Nat.le_refl _)
            simpa using this
    · have hdc : decide ((k : Int) < (b.length : Int)) = false := decide_eq_false (by omega)
      have hKK : Hid (∀ h : k < b.length, ltS b[k].N N = false) := fun h => absurd h hlt
      obtain rfl : k = b.length := by omega
      have hdr : b.drop b.length = [] := List.drop_eq_nil_of_le (by omega)
      by_cases hck : cap = b.length
      · subst hck
        go_wp2
        go_quiet (fail)
        generalize hwq : wr.drewN nq = wq
        have hBq : Below wr.heap.size wr wq := hwq ▸ ce.below_drewN _ _
        have hzq := hBq.size
        have hBwq : Below w.heap.size w wq := hBw.trans (hBq.mono hBw.size)
        have Vq : Hid (VBlk wq b1 56 [.string N, .int .i64 F, .string B, .int .i64 C, .int .i64 U]) := vblk_grow (vblk_grow VV.out hBr.out) hBq
        have RT : Hid (Rd encIt wq (.slice (some ⟨ab, off, none⟩) b.length b.length) (b.take b.length)) := (R.out.grow hBwq).take b.length hk1
        skip
        have hdl : ([] : List It).length ≤ 1000000 := by simp
        have htl : (b.take b.length).length ≤ 1000000 := by rw [List.length_take]; omega
        clear hwq c0 hBr
        have m4 : Hid True := trivial
        go_wp2_with (first | (clear m4; at_builtin; refine wpList_append_g infoIt rfl _ _ 29 rfl Tryz.underlying29 wq.heap.size _ _ [] rfl (own_zero _ _ _ 0 _) (by simp) _ [] rfl (rd_zero encIt _ _ _ (by unfold maxLen; omega)) (by simp) ?_; intro v4 w4 o4 hT4; rw [List.nil_append] at o4; have hB4 : Below wq.heap.size wq w4 := ((Below.refl _ _).alloc (Nat.le_refl _) _).trans hT4.low) | (fail))
        have hz4 := hB4.size
        have V4 : Hid (VBlk w4 b1 56 [.string N, .int .i64 F, .string B, .int .i64 C, .int .i64 U]) := vblk_grow Vq.out hB4
        have c0 := (cells5 V4.out).1
        obtain ⟨A4, n4, k4, rfl⟩ := o4.slice
        obtain rfl : n4 = 0 := o4.rd.cap.1
        have O4 : Hid (Own encIt w4 wq.heap.size w4.heap.size (.slice A4 0 k4) []) := o4
        clear o4
        go_wp2
        go_quiet (fail)
        generalize hwv : w4.drewN nq = w5
        have hB5 : Below w4.heap.size w4 w5 := hwv ▸ ce.below_drewN _ _
        have hz5 := hB5.size
        have V5 : Hid (VBlk w5 b1 56 [.string N, .int .i64 F, .string B, .int .i64 C, .int .i64 U]) := vblk_grow V4.out hB5
        have RT5 : Hid (Rd encIt w5 (.slice (some ⟨ab, off, none⟩) b.length b.length) (b.take b.length)) := (RT.out.grow hB4).grow hB5
        have hBw5 : Below w.heap.size w w5 := (hBwq.trans (hB4.mono hBwq.size)).trans (hB5.mono (Nat.le_trans hBwq.size hz4))
        clear hwv
        have hxl : ([] : List It).length ≤ 1000000 := by first | (rw [← hdr]; exact hdl) | (rw [hdr] at hdl; simp at hdl ⊢; omega) | simp
        have RR4 := O4.out.rd.grow hB5
        clear O4
        have R5 : Hid (Rd encIt w5 _ ([] : List It)) := RR4
        clear RR4
        go_wp2
        have hS0 : Below w5.heap.size w5 w5.drew ∧ w5.drew.cell? ⟨b1, 0, none⟩ = some (.string N) ∧ w5.drew.cell? ⟨b1, 1, none⟩ = some (.int .i64 F) ∧ w5.drew.cell? ⟨b1, 2, none⟩ = some (.string B) ∧ w5.drew.cell? ⟨b1, 3, none⟩ = some (.int .i64 C) ∧ w5.drew.cell? ⟨b1, 4, none⟩ = some (.int .i64 U) := ⟨(Below.refl _ _).drew, cells5 (w := w5.drew) V5.out⟩
        have m7 : Hid True := trivial
        have m8 : Hid True := trivial
        go_region_held3 (fun w' => Below w5.heap.size w5 w' ∧ w'.cell? ⟨b1, 0, none⟩ = some (.string N) ∧ w'.cell? ⟨b1, 1, none⟩ = some (.int .i64 F) ∧ w'.cell? ⟨b1, 2, none⟩ = some (.string B) ∧ w'.cell? ⟨b1, 3, none⟩ = some (.int .i64 C) ∧ w'.cell? ⟨b1, 4, none⟩ = some (.int .i64 U)) (first | with_reducible assumption | with_reducible exact hS0 | with_reducible exact sp_alloc V5.out (by with_reducible assumption) | with_reducible exact sp_alloc_drew V5.out (by with_reducible assumption) | (fail)) (first | (clear m7; refine step_append_g infoIt rfl _ _ 29 rfl Tryz.underlying29 _ 0 _ [] rfl (own_zero _ _ _ _ _) (Nat.le_refl _) _ (b.take b.length) rfl (RT5.out.grow (sp_b (by with_reducible assumption))) (by simp; omega) ?_; intro v6 w6 o6 hT6; rw [List.nil_append] at o6; have hzc := sp_size hT6 (by with_reducible assumption); have hS6 := sp_trans V5.out (by with_reducible assumption) hT6.low hzc) | (clear m8; refine step_append_g infoIt rfl _ _ 29 rfl Tryz.underlying29 _ _ _ (b.take b.length) rfl (o6.grow ((Below.refl _ _).alloc (Nat.le_refl _) _)) (Nat.le_trans hT6.low.size (by simp)) (.slice (some ⟨w6.heap.size, 0, none⟩) 1 1) [⟨N, F, B, C, U⟩] rfl (rd_new (E := encIt) w6 ⟨N, F, B, C, U⟩ #[.string N, .int .i64 F, .string B, .int .i64 C, .int .i64 U] rfl) (by simp; omega) ?_; intro v7 w7 o7 hT7; have hS7 := sp_trans V5.out (by with_reducible assumption) hT7.low hzc; have hzz := Nat.le_trans (Nat.le_trans hT6.low.size (show _ ≤ _ by first | exact Nat.le_refl _ | simp)) hT7.low.size) | (clear m8; refine step_append_g infoIt rfl _ _ 29 rfl Tryz.underlying29 _ _ _ (b.take b.length) rfl o6 (Nat.le_trans hT6.low.size (by simp)) (.slice (some ⟨w5.heap.size + 1, 0, none⟩) 1 1) [⟨N, F, B, C, U⟩] rfl (by have := (rd_new (E := encIt) (w5.alloc (Obj.cells #[] 56)) ⟨N, F, B, C, U⟩ #[.string N, .int .i64 F, .string B, .int .i64 C, .int .i64 U] rfl).drew.grow hT6.low; simpa using this) (by simp; omega) ?_; intro v7 w7 o7 hT7; have hS7 := sp_trans V5.out (by with_reducible assumption) hT7.low hzc; have hzz := Nat.le_trans (Nat.le_trans hT6.low.size (show _ ≤ _ by first | exact Nat.le_refl _ | simp)) hT7.low.size) | (clear m8; refine step_append_g infoIt rfl _ _ 29 rfl Tryz.underlying29 _ _ _ (b.take b.length) rfl o6 (Nat.le_trans hT6.low.size (by simp)) (.slice (some ⟨w5.heap.size, 0, none⟩) 1 1) [⟨N, F, B, C, U⟩] rfl (((rd_new (E := encIt) w5 ⟨N, F, B, C, U⟩ #[.string N, .int .i64 F, .string B, .int .i64 C, .int .i64 U] rfl).grow ((Below.refl _ _).alloc (Nat.le_refl _) (Obj.cells #[] 56))).drew.grow hT6.low) (by simp; omega) ?_; intro v7 w7 o7 hT7; have hS7 := sp_trans V5.out (by with_reducible assumption) hT7.low hzc; have hzz := Nat.le_trans (Nat.le_trans hT6.low.size (show _ ≤ _ by first | exact Nat.le_refl _ | simp)) hT7.low.size) | (refine step_append_g infoIt rfl _ _ 29 rfl Tryz.underlying29 _ _ _ (b.take b.length ++ [⟨N, F, B, C, U⟩]) rfl o7 (Nat.le_trans hzz (Nat.le_refl _)) _ ([] : List It) rfl (R5.out.grow hS7.1) (by simp; omega) ?_; intro v8 w8 o8 hT8; have hS8 := sp_trans V5.out hS7 hT8.low hzc) | (fail))
        all_goals
          go_wp2
          go_ret
          refine ⟨_, b.length, rfl, ?_, hBw5.trans (hS8.1.mono hBw5.size), hk1, hP.out, hKK.out⟩
          have hfin : bhd N (b.drop b.length) = ([] : List It) := by rw [hdr]; exact rfl
          rw [hfin]
          have := o8.wide (lo' := w.heap.size) (Nat.le_trans hBw5.size hzc) (Nat.le_refl _)
          simpa using this
      · go_wp2
        go_quiet (fail)
        generalize hwq : wr.drewN nq = wq
        have hBq : Below wr.heap.size wr wq := hwq ▸ ce.below_drewN _ _
        have hzq := hBq.size
        have hBwq : Below w.heap.size w wq := hBw.trans (hBq.mono hBw.size)
        have Vq : Hid (VBlk wq b1 56 [.string N, .int .i64 F, .string B, .int .i64 C, .int .i64 U]) := vblk_grow (vblk_grow VV.out hBr.out) hBq
        have RT : Hid (Rd encIt wq (.slice (some ⟨ab, off, none⟩) b.length cap) (b.take b.length)) := (R.out.grow hBwq).take b.length hk1
        skip
        have hdl : ([] : List It).length ≤ 1000000 := by simp
        have htl : (b.take b.length).length ≤ 1000000 := by rw [List.length_take]; omega
        clear hwq c0 hBr
        have m4 : Hid True := trivial
        go_wp2_with (first | (clear m4; at_builtin; refine wpList_append_g infoIt rfl _ _ 29 rfl Tryz.underlying29 wq.heap.size _ _ [] rfl (own_zero _ _ _ 0 _) (by simp) _ [] rfl (rd_zero encIt _ _ _ (by unfold maxLen; omega)) (by simp) ?_; intro v4 w4 o4 hT4; rw [List.nil_append] at o4; have hB4 : Below wq.heap.size wq w4 := ((Below.refl _ _).alloc (Nat.le_refl _) _).trans hT4.low) | (fail))
        have hz4 := hB4.size
        have V4 : Hid (VBlk w4 b1 56 [.string N, .int .i64 F, .string B, .int .i64 C, .int .i64 U]) := vblk_grow Vq.out hB4
        have c0 := (cells5 V4.out).1
        obtain ⟨A4, n4, k4, rfl⟩ := o4.slice
        obtain rfl : n4 = 0 := o4.rd.cap.1
        have O4 : Hid (Own encIt w4 wq.heap.size w4.heap.size (.slice A4 0 k4) []) := o4
        clear o4
        go_wp2
        go_quiet (fail)
        generalize hwv : w4.drewN nq = w5
        have hB5 : Below w4.heap.size w4 w5 := hwv ▸ ce.below_drewN _ _
        have hz5 := hB5.size
        have V5 : Hid (VBlk w5 b1 56 [.string N, .int .i64 F, .string B, .int .i64 C, .int .i64 U]) := vblk_grow V4.out hB5
        have RT5 : Hid (Rd encIt w5 (.slice (some ⟨ab, off, none⟩) b.length cap) (b.take b.length)) := (RT.out.grow hB4).grow hB5
        have hBw5 : Below w.heap.size w w5 := (hBwq.trans (hB4.mono hBwq.size)).trans (hB5.mono (Nat.le_trans hBwq.size hz4))
        clear hwv
        have hxl : ([] : List It).length ≤ 1000000 := by first | (rw [← hdr]; exact hdl) | (rw [hdr] at hdl; simp at hdl ⊢; omega) | simp
        have RR4 := O4.out.rd.grow hB5
        clear O4
        have R5 : Hid (Rd encIt w5 _ ([] : List It)) := RR4
        clear RR4
        go_wp2
        have hS0 : Below w5.heap.size w5 w5.drew ∧ w5.drew.cell? ⟨b1, 0, none⟩ = some (.string N) ∧ w5.drew.cell? ⟨b1, 1, none⟩ = some (.int .i64 F) ∧ w5.drew.cell? ⟨b1, 2, none⟩ = some (.string B) ∧ w5.drew.cell? ⟨b1, 3, none⟩ = some (.int .i64 C) ∧ w5.drew.cell? ⟨b1, 4, none⟩ = some (.int .i64 U) := ⟨(Below.refl _ _).drew, cells5 (w := w5.drew) V5.out⟩
        have m7 : Hid True := trivial
        have m8 : Hid True := trivial
        go_region_held3 (fun w' => Below w5.heap.size w5 w' ∧ w'.cell? ⟨b1, 0, none⟩ = some (.string N) ∧ w'.cell? ⟨b1, 1, none⟩ = some (.int .i64 F) ∧ w'.cell? ⟨b1, 2, none⟩ = some (.string B) ∧ w'.cell? ⟨b1, 3, none⟩ = some (.int .i64 C) ∧ w'.cell? ⟨b1, 4, none⟩ = some (.int .i64 U)) (first | with_reducible assumption | with_reducible exact hS0 | with_reducible exact sp_alloc V5.out (by with_reducible assumption) | with_reducible exact sp_alloc_drew V5.out (by with_reducible assumption) | (fail)) (first | (clear m7; refine step_append_g infoIt rfl _ _ 29 rfl Tryz.underlying29 _ 0 _ [] rfl (own_zero _ _ _ _ _) (Nat.le_refl _) _ (b.take b.length) rfl (RT5.out.grow (sp_b (by with_reducible assumption))) (by simp; omega) ?_; intro v6 w6 o6 hT6; rw [List.nil_append] at o6; have hzc := sp_size hT6 (by with_reducible assumption); have hS6 := sp_trans V5.out (by with_reducible assumption) hT6.low hzc) | (clear m8; refine step_append_g infoIt rfl _ _ 29 rfl Tryz.underlying29 _ _ _ (b.take b.length) rfl (o6.grow ((Below.refl _ _).alloc (Nat.le_refl _) _)) (Nat.le_trans hT6.low.size (by simp)) (.slice (some ⟨w6.heap.size, 0, none⟩) 1 1) [⟨N, F, B, C, U⟩] rfl (rd_new (E := encIt) w6 ⟨N, F, B, C, U⟩ #[.string N, .int .i64 F, .string B, .int .i64 C, .int .i64 U] rfl) (by simp; omega) ?_; intro v7 w7 o7 hT7; have hS7 := sp_trans V5.out (by with_reducible assumption) hT7.low hzc; have hzz := Nat.le_trans (Nat.le_trans hT6.low.size (show _ ≤ _ by first | exact Nat.le_refl _ | simp)) hT7.low.size) | (clear m8; refine step_append_g infoIt rfl _ _ 29 rfl Tryz.underlying29 _ _ _ (b.take b.length) rfl o6 (Nat.le_trans hT6.low.size (by simp)) (.slice (some ⟨w5.heap.size + 1, 0, none⟩) 1 1) [⟨N, F, B, C, U⟩] rfl (by have := (rd_new (E := encIt) (w5.alloc (Obj.cells #[] 56)) ⟨N, F, B, C, U⟩ #[.string N, .int .i64 F, .string B, .int .i64 C, .int .i64 U] rfl).drew.grow hT6.low; simpa using this) (by simp; omega) ?_; intro v7 w7 o7 hT7; have hS7 := sp_trans V5.out (by with_reducible assumption) hT7.low hzc; have hzz := Nat.le_trans (Nat.le_trans hT6.low.size (show _ ≤ _ by first | exact Nat.le_refl _ | simp)) hT7.low.size) | (clear m8; refine step_append_g infoIt rfl _ _ 29 rfl Tryz.underlying29 _ _ _ (b.take b.length) rfl o6 (Nat.le_trans hT6.low.size (by simp)) (.slice (some ⟨w5.heap.size, 0, none⟩) 1 1) [⟨N, F, B, C, U⟩] rfl (((rd_new (E := encIt) w5 ⟨N, F, B, C, U⟩ #[.string N, .int .i64 F, .string B, .int .i64 C, .int .i64 U] rfl).grow ((Below.refl _ _).alloc (Nat.le_refl _) (Obj.cells #[] 56))).drew.grow hT6.low) (by simp; omega) ?_; intro v7 w7 o7 hT7; have hS7 := sp_trans V5.out (by with_reducible assumption) hT7.low hzc; have hzz := Nat.le_trans (Nat.le_trans hT6.low.size (show _ ≤ _ by first | exact Nat.le_refl _ | simp)) hT7.low.size) | (refine step_append_g infoIt rfl _ _ 29 rfl Tryz.underlying29 _ _ _ (b.take b.length ++ [⟨N, F, B, C, U⟩]) rfl o7 (Nat.le_trans hzz (Nat.le_refl _)) _ ([] : List It) rfl (R5.out.grow hS7.1) (by simp; omega) ?_; intro v8 w8 o8 hT8; have hS8 := sp_trans V5.out hS7 hT8.low hzc) | (fail))
        all_goals
          go_wp2
          go_ret
          refine ⟨_, b.length, rfl, ?_, hBw5.trans (hS8.1.mono hBw5.size), hk1, hP.out, hKK.out⟩
          have hfin : bhd N (b.drop b.length) = ([] : List It) := by rw [hdr]; exact rfl
          rw [hfin]
          have := o8.wide (lo' := w.heap.size) (Nat.le_trans hBw5.size hzc) (Nat.le_refl _)
          simpa using this
end Go.Proofs.YtjkkjpgebcnhgaaGreatDoor.rg
