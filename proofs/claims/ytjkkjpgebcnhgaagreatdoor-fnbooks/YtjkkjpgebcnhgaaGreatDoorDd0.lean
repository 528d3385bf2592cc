/- What DidBook wants of books, no Go in sight; two structs as results. -/
import Derived.Test.YtjkkjpgebcnhgaaGreatDoorSn9
import Derived.Test.YtjkkjpgebcnhgaaGreatDoorWr5
import Derived.Test.YtjkkjpgebcnhgaaGreatDoorMg10
namespace Go.Proofs.YtjkkjpgebcnhgaaGreatDoor.rg
open Go.ChangeShapes Go.WideShapes Go.ChangeAt Go.RowKit
open Go.Proofs.YtjkkjpgebcnhgaaGreatDoor.ce Go.Proofs.YtjkkjpgebcnhgaaGreatDoor.ro Go.Proofs.YtjkkjpgebcnhgaaGreatDoor.cm
set_option linter.unusedVariables false

theorem results_cc {fn : Func} {p u : Tmp} {ty ty2 : TypeId} (h : fn.results = #[.cell p ty, .cell u ty2]) (tmps : Array Value) (P : Program) (w : World) :
    (results fn tmps).run P w =
      ((asAddr (tmps.getD p undef)).run P w).andThen fun a w₁ => ((loadVar ty a).run P w₁).andThen fun v w₂ => ((asAddr (tmps.getD u undef)).run P w₂).andThen fun a₂ w₃ => ((loadVar ty2 a₂).run P w₃).andThen fun v₂ w₄ => .ok (.tuple #[v, v₂]) w₄ := by
  simp only [results, h]
  simp [Sem.run_bind, Result.andThen]
theorem row_cc {fn : Func} {p u : Tmp} {ty ty2 : TypeId} (h : fn.results = #[.cell p ty, .cell u ty2]) {R : Ending → World → Prop} {a : Act} {w : World} {b b2 : Nat} {t t2 : TypeId} {vs vs2 : List Value} {fs fs2 : Array Field}
    (hp : a.tmps.getD p undef = .pointer (some ⟨b, 0, none⟩)) (hx : a.tmps.getD u undef = .pointer (some ⟨b2, 0, none⟩)) (hb : VBlk w b t vs) (hb2 : VBlk w b2 t2 vs2) (hu : Tryz.prog.underlying ty = some (.struct fs)) (hu2 : Tryz.prog.underlying ty2 = some (.struct fs2))
    (hi : (Tryz.prog.info? ty).map (·.size) = some vs.length) (hi2 : (Tryz.prog.info? ty2).map (·.size) = some vs2.length) (hdf : a.defers = []) (hR : R (.returned (.tuple #[.agg vs.toArray, .agg vs2.toArray])) w) : bodyPost Tryz.prog fn R .ret a w := by
  have hl := run_loadVar_row (P := Tryz.prog) w b t ty vs.toArray (0, 0) _ hb hu rfl (by rw [hi]; simp)
  have hl2 := run_loadVar_row (P := Tryz.prog) w b2 t2 ty2 vs2.toArray (0, 0) _ hb2 hu2 rfl (by rw [hi2]; simp)
  refine bodyPost_ret ?_ hdf hR
  rw [results_cc h, hp, hx]
  simp [asAddr, hl, hl2]

theorem num_in {s : ByteArray} {a : Int} (h : rdF (bs s) = (a, true)) (h0 : 0 ≤ a) : ∃ n : Nat, a = n ∧ numB s = some n := by
  have hc := rdF_nat (l := bs s) (by rw [h]) (by rw [h]; exact h0)
  have := rdF_yes hc
  rw [h] at this
  refine ⟨val 0 (bs s), congrArg Prod.fst this, ?_⟩
  unfold numB
  rw [if_pos hc]
theorem num_out {s : ByteArray} {a : Int} {b : Bool} (h : rdF (bs s) = (a, b)) (h0 : b = false ∨ a < 0) : numB s = none := by
  unfold numB
  rw [if_neg]
  intro hc
  have := rdF_yes hc
  rw [h] at this
  have e1 := congrArg Prod.fst this
  have e2 := congrArg Prod.snd this
  dsimp only at e1 e2
  rcases h0 with h0 | h0
  · rw [h0] at e2; cases e2
  · omega
theorem up_lt {c : Cm} {n : Nat} (hn : n ≤ 999999999) : upN c n ≤ 999999999 := by
  unfold upN
  split
  · omega
  · omega
theorem put_set {I : List It} (h : Srt I) {k : Nat} (hk : k < I.length) (i : It) (hn : i.N = I[k].N) : putL I i = I.set k i := by
  have hd := drop_at h hk
  have hl : (I.take k).length = k := by rw [List.length_take]; omega
  have hdl : (dropL I i.N) = I.take k ++ I.drop (k + 1) := by rw [hn, hd]
  have hlt : ∀ t (ht : t < I.length), t < k → ltS I[t].N I[k].N = true := fun t ht htk => List.pairwise_iff_getElem.1 h t k ht hk htk
  have hgt : ∀ t (ht : t < I.length), k < t → ltS I[t].N I[k].N = false := fun t ht htk => by
    have := List.pairwise_iff_getElem.1 h k t hk ht htk
    cases e : ltS I[t].N I[k].N with
    | false => rfl
    | true => exact absurd rfl (ltS_ne (ltS_trans this e))
  have hw := with_is h i (k := k) (by rw [hdl, List.length_append, hl]; omega) (fun t ht htk => by
    have e : (dropL I i.N)[t] = I[t]'(by omega) := by simp only [hdl]; rw [List.getElem_append_left (by omega)]; simp
    rw [e, hn]
    exact hlt t _ htk) (fun t ht htk => by
    have ht' : t + 1 < I.length := by rw [hdl, List.length_append, hl, List.length_drop] at ht; omega
    have e : (dropL I i.N)[t] = I[t + 1] := by
      simp only [hdl]
      rw [List.getElem_append_right (by omega), List.getElem_drop]
      congr 1
      rw [hl]; omega
    rw [e, hn]
    exact hgt (t + 1) ht' (by omega))
  rw [← hw, hdl, List.take_left' hl, List.drop_left' hl, List.set_eq_take_append_cons_drop, if_pos hk]
theorem touch_put {I : List It} (h : Srt I) {s : ByteArray} {o : It} (ho : lookI I s = some o) (u : Int) : putL I (touchI u o) = touchL I s u := by
  obtain ⟨-, hn, k, hk, -, e⟩ := look_some ho
  subst e
  rw [put_set h hk (touchI u I[k]) rfl, ← hn, touch_at h hk]
theorem up_stamp {b : Bk} (h : StOk b) {s : ByteArray} {o : It} (ho : lookI b.I s = some o) {m : Nat} (hm : m ≤ 999999999) : stampOk b (withB o (digs m)) = true := by
  obtain ⟨hmem, hn, k, hk, -, e⟩ := look_some ho
  have hi := itemB_iff.1 (h.bk.1 o hmem)
  have hl : (digs m).length ≤ 9 := (canon_iff.1 (canon_digs hm)).2.2.1
  unfold stampOk
  rw [Bool.and_eq_true]
  constructor
  · exact itemB_iff.2 ⟨hi.nm, hi.f0, hi.f1, (show (tx (digs m)).size ≤ 64 by rw [tx_size]; omega), h.x0, h.x1, hi.u0, hi.u1⟩
  · have e2 : (putL b.I (stampI b (withB o (digs m)))).length = b.I.length := (put_len h.bk.srt _).2 ⟨o, hmem, rfl⟩
    rw [e2]
    have := h.bk.2.2
    exact decide_eq_true (by omega)
end Go.Proofs.YtjkkjpgebcnhgaaGreatDoor.rg
