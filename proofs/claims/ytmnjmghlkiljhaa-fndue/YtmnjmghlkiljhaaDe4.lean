/- What the laws of chapter 10 draw, last part: books; a thing with a time, a book with a name. -/
import Derived.Test.YtmnjmghlkiljhaaMg03
namespace Go.Proofs.Ytmnjmghlkiljhaa.rg
open Go.ChangeShapes Go.WideShapes Go.ChangeAt Go.RowKit
open Go.Proofs.Ytmnjmghlkiljhaa.ce Go.Proofs.Ytmnjmghlkiljhaa.ro Go.Proofs.Ytmnjmghlkiljhaa.draw
set_option linter.unusedVariables false

/-- while a book is drawn: the cursor in p -/
structure Dk (w : World) (p : Nat) (a0 : Option Addr) (len cap : Nat) (v : Value) (q : List It) (wr : World) : Prop where
  hp : p < w.heap.size
  cur : Cur wr p a0 len cap
  gb : w.grownBy wr (some p)
  o : Own encIt wr w.heap.size wr.heap.size v q
  s : ∀ x ∈ q, SmI x
section
variable {w : World} {p : Nat} {a0 : Option Addr} {len cap : Nat} {v : Value} {q : List It} {wr w' : World}
theorem Dk.size (D : Dk w p a0 len cap v q wr) : w.heap.size ≤ wr.heap.size := D.gb.size
theorem Dk.went (D : Dk w p a0 len cap v q wr) (hc : Cur w' p a0 len cap) (hg : wr.grownBy w' (some p)) : Dk w p a0 len cap v q w' := by
  have hp := D.hp
  exact ⟨D.hp, hc, gb_trans D.gb hg, (D.o.keep fun g h1 h2 => hg.block g h2 (fun e => by cases e; omega)).top, D.s⟩
theorem Dk.step (D : Dk w p a0 len cap v q wr) {lo : Nat} {v' : Value} {q' : List It} (hB : Below w.heap.size wr w') (o : Own encIt w' w.heap.size lo v' q') (s : ∀ x ∈ q', SmI x) : Dk w p a0 len cap v' q' w' :=
  ⟨D.hp, cur_below D.cur hB D.hp, gb_below D.gb hB (Nat.le_refl _), o.top, s⟩
theorem Dk.grow (D : Dk w p a0 len cap v q wr) (hB : Below wr.heap.size wr w') : Dk w p a0 len cap v q w' := D.step (hB.mono D.size) (D.o.grow hB) D.s
theorem dk_new (hc : Cur w p a0 len cap) (hB : Below w.heap.size w w') (a : Option Addr) : Dk w p a0 len cap (.slice a 0 0) [] w' :=
  ⟨hc.1, cur_below hc hB hc.1, gb_below (World.grownBy.refl _ _) hB (Nat.le_refl _), own_zero _ _ _ _ _, fun x hx => by simp at hx⟩
end
theorem si_app {q : List It} {i : It} (h : ∀ x ∈ q, SmI x) (hs : SmI i) : ∀ x ∈ q ++ [i], SmI x := fun x hx => by
  rcases List.mem_append.1 hx with z | z
  · exact h x z
  · rw [List.mem_singleton.1 z]; exact hs
theorem bhd_mem {s : ByteArray} : ∀ {l : List It} {x : It}, x ∈ bhd s l → x ∈ l
  | [], x, h => h
  | y :: r, x, h => by
    rw [show bhd s (y :: r) = if y.N = s then r else y :: r from rfl] at h
    by_cases e : y.N = s
    · rw [if_pos e] at h; exact List.mem_cons_of_mem _ h
    · rw [if_neg e] at h; exact h
theorem bhd_len (s : ByteArray) : ∀ l : List It, (bhd s l).length ≤ l.length
  | [] => Nat.le_refl _
  | y :: r => by
    rw [show bhd s (y :: r) = if y.N = s then r else y :: r from rfl]
    by_cases e : y.N = s
    · rw [if_pos e]; simp
    · rw [if_neg e]; exact Nat.le_refl _
theorem put_sm {q : List It} {k : Nat} {N B : ByteArray} {F C U : Int} (h : ∀ x ∈ q, SmI x) (hN : N.size ≤ 4000) (hB : B.size ≤ 4000) : (∀ x ∈ q.take k ++ ⟨N, F, B, C, U⟩ :: bhd N (q.drop k), SmI x) ∧ (q.take k ++ ⟨N, F, B, C, U⟩ :: bhd N (q.drop k)).length ≤ q.length + 1 := by
  refine ⟨fun x hx => ?_, ?_⟩
  · rcases List.mem_append.1 hx with z | z
    · exact h x (List.mem_of_mem_take z)
    · rcases List.mem_cons.1 z with z | z
      · rw [z]; exact ⟨hN, hB⟩
      · exact h x (List.mem_of_mem_drop (bhd_mem z))
  · have := bhd_len N (q.drop k)
    simp only [List.length_append, List.length_cons, List.length_take, List.length_drop] at this ⊢
    omega

set_option maxRecDepth 100000 in
set_option maxHeartbeats 2000000 in
theorem l10Draw_any (w : World) (p : Nat) (a0 : Option Addr) (len cap : Nat) (hc : Cur w p a0 len cap) :
    Calls Try.prog 117 #[.pointer (some ⟨p, 0, none⟩)] w fun e w' => ∃ v q, e = .returned v ∧ Dk w p a0 len cap v q w' ∧ q.length ≤ 8 := by
  have D0 : Hid (Dk w p a0 len cap (.slice (some ⟨w.heap.size, 0, none⟩) 0 0) [] (w.alloc (.cells #[] 53))) := dk_new hc ((Below.refl _ _).alloc (Nat.le_refl _) _) _
  clear hc
  go_enter Try.func117, Try.ntmps117
  go_wp2_with (first | (go_at_call 73; refine (below_from _ _ p a0 len cap _ (by omega) D0.out.cur (World.grownBy.refl _ _)).mono ?_; rintro e w4 ⟨x, rfl, hx0, hx1, hc4, hg4⟩; have D1 := D0.out.went hc4 hg4; obtain ⟨k0, hk0⟩ : ∃ k : Nat, x = k := ⟨x.toNat, by omega⟩; subst hk0) | (fail))
  have D2 : Hid (Dk w p a0 len cap (.slice (some ⟨w.heap.size, 0, none⟩) 0 0) [] w4) := D1
  clear D0 D1 hc4 hg4
  go_loopw [3, 4] (fun u v wr => ∃ (k g n c : Nat) (q : List It), u = .slice (some ⟨g, 0, none⟩) n c ∧ v = .int .i64 k ∧ k ≤ 6 ∧ Hid (Dk w p a0 len cap (.slice (some ⟨g, 0, none⟩) n c) q wr) ∧ q.length + k ≤ 7) (fun _ v _ => (intOf v).toNat)
  case atStart => exact ⟨k0, _, _, _, [], rfl, rfl, by omega, D2, by simp; omega⟩
  case round =>
    obtain ⟨k, g, n, c, q, rfl, rfl, hk, D, hl⟩ := hrel
    by_cases hk0 : 0 < k
    · have hk0' : (0 : Int) < (k : Int) := by omega
      go_wp2_with (first | (go_at_call 122; refine (l10DrawItem_any wr p a0 len cap D.out.cur).mono ?_; rintro e w5 ⟨N, B, F, C, U, rfl, G5⟩; have D5 := D.out.went G5.cur G5.gb) | (go_at_call 139; refine (l10Put_any q g 0 n c N B F C U _ D5.o.rd (by omega)).mono ?_; rintro e w6 ⟨v6, k6, rfl, o6, hB6, hk6, -, -⟩; have hj := put_sm (k := k6) (F := F) (C := C) (U := U) D5.s G5.sN G5.sB; obtain ⟨q6, hq6⟩ := hid_ex (q.take k6 ++ ⟨N, F, B, C, U⟩ :: bhd N (q.drop k6)); have hq1 : 1 ≤ q6.length := (by rw [← hq6.out]; simp only [List.length_append, List.length_cons]; omega); rw [hq6.out] at o6 hj; obtain ⟨g6, c6, e6, hg6, hg6', hg6''⟩ := o6.form hq1; obtain ⟨n6, hn6⟩ := hid_ex q6.length; rw [hn6.out] at e6; subst e6; have D6 : Hid (Dk w p a0 len cap (.slice (some ⟨g6, 0, none⟩) n6 c6) q6 w6) := D5.step (hB6.mono D5.size) (o6.wide D5.size (Nat.le_refl _)) hj.1) | (fail))
      go_roundw
      case rel => exact ⟨k - 1, g6, n6, c6, q6, rfl, by simp; omega, by omega, D6, by omega⟩
      case measure => simp [intOf]; omega
    · have hk0' : ¬ (0 : Int) < (k : Int) := by omega
      go_wp2
      go_ret
      exact ⟨_, rfl, q, D.out, by omega⟩

theorem rd_new1 {α : Type} {E : Enc α} (w : World) (o : Obj) (x : α) (cs : Array Value) (h : E.put x = cs.toList) : Rd E ((w.alloc o).alloc (.cells cs E.t)) (.slice (some ⟨w.heap.size + 1, 0, none⟩) 1 1) [x] := by
  have := rd_new (w.alloc o) x cs h
  rw [show (w.alloc o).heap.size = w.heap.size + 1 by simp] at this
  exact this
def let1 (d : Nat) : ByteArray := ⟨#[UInt8.ofNat (97 + d)]⟩
theorem let1_conv (d : Nat) (h1 : d ≤ 100) (w : World) : (convert 22 9 (Value.slice (some { block := w.heap.size, off := 0 }) 1 1)).run Try.prog (w.alloc (Obj.cells #[Value.int IntKind.u8 (97 + (d : Int))] 5)) = .ok (.string (let1 d)) (w.alloc (Obj.cells #[Value.int IntKind.u8 (97 + (d : Int))] 5)) :=
  run_convert_bytes_back (P := Try.prog) (w.alloc (Obj.cells #[Value.int IntKind.u8 (97 + (d : Int))] 5)) 22 9 5 ⟨w.heap.size, 0, none⟩ 1 [UInt8.ofNat (97 + d)] Try.underlying22 Try.underlying5 Try.underlying9 (fun j hj => by
    have hj0 : j = 0 := by simpa using hj
    subst hj0
    have e : (((UInt8.ofNat (97 + d)).toNat : Nat) : Int) = 97 + d := by
      rw [UInt8.toNat_ofNat']; omega
    simp only [List.getElem_cons_zero, e]
    show (w.alloc _).cell? ⟨w.heap.size, 0, none⟩ = _
    rw [cell_of_row _ _ 0 _ _ _ (heap_alloc_new w _)]; rfl)

set_option maxRecDepth 100000 in
set_option maxRecDepth 100000 in
set_option maxHeartbeats 4000000 in
theorem l10DrawBook_any (w : World) (p : Nat) (a0 : Option Addr) (len cap : Nat) (hc : Cur w p a0 len cap) :
    Calls Try.prog 72 #[.pointer (some ⟨p, 0, none⟩)] w fun e w' => ∃ v q, e = .returned v ∧ Dk w p a0 len cap v q w' ∧ q.length ≤ 30 := by
  have HC : Hid (Cur w p a0 len cap) := hc
  clear hc
  go_enter Try.func72, Try.ntmps72
  go_upto_if 8 with (first | (go_at_call 117; refine (l10Draw_any w p a0 len cap HC.out).mono ?_; rintro e w3 ⟨v3, q, rfl, D3, hl⟩; obtain ⟨A3, n3, c3, rfl⟩ := D3.o.slice) | (go_at_call 87; refine (once_from w3 w3 p a0 len cap _ (by omega) D3.cur (World.grownBy.refl _ _)).mono ?_; rintro e w4 ⟨x, rfl, hc4, hg4⟩; have D4 := D3.went hc4 hg4) | (fail))
  have DD : Hid (Dk w p a0 len cap (.slice A3 n3 c3) q w4) := D4
  clear D3 D4 hc4 hg4
  have m1 : Hid True := trivial
  go_cut [3] from 8 to 13 (fun u wc => ∃ A n c q, u = .slice A n c ∧ Hid (Dk w p a0 len cap (.slice A n c) q wc) ∧ q.length ≤ 9)
  case first =>
    cases x with
    | false =>
      go_wp2
      go_meet
      case rel => exact ⟨_, _, _, q, rfl, DD, by omega⟩
    | true =>
      go_wp2_with (first | (go_at_call 78; refine (l10DrawAny_any w4 p a0 len cap DD.out.cur).mono ?_; rintro e w5 ⟨N, B, F, C, U, rfl, G5⟩; have D5 := DD.out.went G5.cur G5.gb; have hz5 := D5.size) | (clear m1; at_builtin; refine wpList_append_g infoIt rfl _ _ 47 rfl Try.underlying47 w.heap.size _ _ q rfl (D5.o.grow ((Below.refl _ _).alloc (Nat.le_refl _) _)) (by simp; omega) _ [⟨N, F, B, C, U⟩] rfl (rd_new (E := encIt) w5 ⟨N, F, B, C, U⟩ #[.string N, .int .i64 F, .string B, .int .i64 C, .int .i64 U] rfl) (by simp; omega) ?_; intro v7 w7 o7 hT7; obtain ⟨A7, n7, c7, rfl⟩ := o7.slice) | (fail))
      go_meet
      case rel => exact ⟨_, _, _, q ++ [⟨N, F, B, C, U⟩], rfl, (D5.grow ((Below.refl _ _).alloc (Nat.le_refl _) _)).step hT7.low o7 (si_app D5.s ⟨G5.sN, G5.sB⟩), by simp; omega⟩
  case rest =>
    obtain ⟨A, n, c, q2, rfl, D5, hl2⟩ := hcut
    go_upto_if 15 with (first | (go_at_call 87; refine (once_from wc wc p a0 len cap _ (by omega) D5.out.cur (World.grownBy.refl _ _)).mono ?_; rintro e w6 ⟨y, rfl, hc6, hg6⟩; have D6 := D5.out.went hc6 hg6) | (fail))
    cases y with
    | false =>
      go_wp2
      go_ret
      exact ⟨_, q2, rfl, D6, by omega⟩
    | true =>
      have D7 : Hid (Dk w p a0 len cap (.slice (some ⟨w6.heap.size, 0, none⟩) 0 0) [] (w6.alloc (.cells #[] 53))) := ⟨D6.hp, cur_alloc D6.cur _, gb_alloc D6.gb _, own_zero _ _ _ _ _, fun x hx => by simp at hx⟩
      clear D6 hc6 hg6
      go_wp2
      go_loopw [3, 4] (fun u v wr => ∃ (k : Nat) (A : Option Addr) (n c : Nat) (q : List It), u = .slice A n c ∧ v = .int .i64 k ∧ k ≤ 21 ∧ Hid (Dk w p a0 len cap (.slice A n c) q wr) ∧ q.length ≤ k) (fun _ v _ => 22 - (intOf v).toNat)
      case atStart => exact ⟨0, _, _, _, [], rfl, rfl, by omega, D7, by simp⟩
      case round =>
        obtain ⟨k, A2, n2, c2, q3, rfl, rfl, hk, D, hl3⟩ := hrel
        have mk2 : Hid True := trivial
        have hu1 : IntKind.u8.wrap (k : Int) = (k : Int) := by rw [IntKind.wrap_u8]; omega
        have hu2 : IntKind.u8.wrap (97 + (k : Int)) = 97 + (k : Int) := by rw [IntKind.wrap_u8]; omega
        go_wp2_with (first | (go_at_call 73; refine (below_from wr wr p a0 len cap _ (by omega) D.out.cur (World.grownBy.refl _ _)).mono ?_; rintro e w8 ⟨x, rfl, hx0, hx1, hc8, hg8⟩; have D8 := D.out.went hc8 hg8; have hz8 := D8.size; have hxw : IntKind.i64.wrap (20 + x) = 20 + x := (by rw [IntKind.wrap_i64]; omega); have hcv := let1_conv k (by omega) w8; obtain ⟨T, hT⟩ := hid_ex (let1 k); rw [hT.out] at hcv; have hTs : T.size ≤ 1 := (by rw [← hT.out]; exact Nat.le_refl _); by_cases hgo : (k : Int) < 20 + x) | (clear mk2; at_builtin; refine wpList_append_g infoIt rfl _ _ 47 rfl Try.underlying47 w.heap.size _ _ q3 rfl ((D8.o.grow ((Below.refl _ _).alloc (Nat.le_refl _) _)).grow ((Below.refl _ _).alloc (Nat.le_refl _) _)) (by simp; omega) (.slice (some ⟨w8.heap.size + 1, 0, none⟩) 1 1) [⟨T, 0, ⟨#[]⟩, 1, 0⟩] rfl (rd_new1 (E := encIt) w8 (.cells #[Value.int IntKind.u8 (97 + (k : Int))] 5) ⟨T, 0, ⟨#[]⟩, 1, 0⟩ #[.string T, .int .i64 0, .string ⟨#[]⟩, .int .i64 1, .int .i64 0] rfl) (by simp; omega) ?_; intro v9 w9 o9 hT9; obtain ⟨A9, n9, c9, rfl⟩ := o9.slice) | (fail))
        · go_roundw
          case rel =>
            refine ⟨k + 1, A9, n9, c9, q3 ++ [⟨T, 0, ⟨#[]⟩, 1, 0⟩], rfl, by go_num, by omega, ?_, by simp; omega⟩
            exact ((D8.grow ((Below.refl _ _).alloc (Nat.le_refl _) _)).grow ((Below.refl _ _).alloc (Nat.le_refl _) _)).step hT9.low o9 (si_app D8.s ⟨by show T.size ≤ 4000; omega, by show (0 : Nat) ≤ 4000; omega⟩)
          case measure => simp [intOf]; omega
        · go_ret
          exact ⟨_, q3, rfl, D8, by omega⟩
end Go.Proofs.Ytmnjmghlkiljhaa.rg
