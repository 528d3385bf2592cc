/- Contracts: the program's Chain and Gone. -/
import Derived.Test.YtnjeepmbkogaeaaIt2
import Derived.Test.YtnjeepmbkogaeaaSp6
import Derived.RangeFuncBox
import Derived.Maps.AppendAt
namespace Go.Proofs.Ytnjeepmbkogaeaa.it
open Go.RowKit Go.Shelf Go.Proofs.Ytnjeepmbkogaeaa.ce
set_option linter.unusedVariables false
attribute [local go_sem] Oper.semAt_some

theorem links_fst (H : List C) (L : List Int) : (links H L).map Prod.fst = L := by simp [links, List.map_map, Function.comp_def]

theorem Kp.appended {W w1 : World} {n₀ B : Nat} {t e : TypeId} {size : Nat} {v v' : Value} {k : Nat} {xs : List Value} {tmp : Obj} (hv : Boxed W B t v) (hrow : W.ownsRow n₀ e size v k xs) (hgrow : (W.alloc tmp).grownBy w1 v.ownBlock)
    (hb : Below n₀ W (w1.setCell ⟨B, 0, none⟩ v')) (h1 : T1 ≠ e) (h2 : T2 ≠ e) (h3 : T1 ≠ t) (h4 : T2 ≠ t) : Kp T1 T2 n₀ W (w1.setCell ⟨B, 0, none⟩ v') := by
  refine ⟨hb, fun j s u hs hj => ?_⟩
  have hse : s ≠ e := by rcases hs with rfl | rfl; (· exact h1); (· exact h2)
  have hst : s ≠ t := by rcases hs with rfl | rfl; (· exact h3); (· exact h4)
  refine ((hj.alloc tmp).kept hgrow (hj.not_row hse hrow)).other (fun e' => ?_) _
  subst e'
  have := (show W.heap[j]? = _ from hj).symm.trans hv
  simp at this
  exact hst this.2
theorem grown_refl (W : World) : W.grownBy W none := ⟨rfl, rfl, rfl, Nat.le_refl _, fun _ _ _ => rfl⟩
/-- a block is turned at the function's end that was not there at its beginning -/
theorem below_put {n₀ : Nat} {w W : World} {D : Nat} {o : Obj} (o' : Obj) (hB : Below n₀ w W) (hn : n₀ ≤ D) (hD : W.heap[D]? = some o) : Below n₀ w (W.putObj D o') :=
  hB.trans ((Below.refl n₀ W).grown (grownBy_putObj' W D o') (by have := (Array.getElem?_eq_some_iff.1 hD).1; omega) (fun k e => by cases e; exact hn))

theorem Kp.setBox {W : World} {n₀ B : Nat} {t : TypeId} {v : Value} (u : Value) (hv : Boxed W B t v) (hn : n₀ ≤ B) (h3 : T1 ≠ t) (h4 : T2 ≠ t) : Kp T1 T2 n₀ W (W.setCell ⟨B, 0, none⟩ u) :=
  Kp.grown (grownBy_setCell' W B u) (by have := hv.lt; omega) (fun k e => by
    cases e
    refine ⟨hn, fun s x hs hx => ?_⟩
    have := (show W.heap[B]? = _ from hx).symm.trans hv
    simp at this
    rcases hs with rfl | rfl
    · exact h3 this.2
    · exact h4 this.2)
def cnt (pre : List (Int × C)) : Nat := (pre.filter fun x => x.2.gone).length
theorem cnt_gone (pre : List (Int × C)) (x : Int × C) (h : x.2.gone = true) : cnt (pre ++ [x]) = cnt pre + 1 := by simp [cnt, List.filter_append, h]
theorem cnt_live (pre : List (Int × C)) (x : Int × C) (h : x.2.gone = false) : cnt (pre ++ [x]) = cnt pre := by simp [cnt, List.filter_append, h]
theorem cnt_links (H : List C) (L : List Int) : cnt (links H L) = goneC H L := by simp [cnt, links, goneC, List.filter_map, Function.comp_def]
theorem cnt_len (pre : List (Int × C)) : cnt pre ≤ pre.length := List.length_filter_le _ _

end Go.Proofs.Ytnjeepmbkogaeaa.it
