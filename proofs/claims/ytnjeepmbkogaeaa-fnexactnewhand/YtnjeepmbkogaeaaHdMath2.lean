/- A hand that is right, one small move of it, and what the move keeps: plain mathematics. -/
import Derived.Test.YtnjeepmbkogaeaaHdMath1
namespace Go.Proofs.Ytnjeepmbkogaeaa.ce
open Go.ChangeShapes Go.WideShapes Go.ChangeAt Go.RowKit
set_option linter.unusedVariables false

def there (H : List C) (d : Hd) : Int := if 0 ≤ d.here then (nth H d.here).key else 65536
/-- a hand that is right beside a right heap -/
structure OkH (H : List C) (d : Hd) : Prop where
  kind : 1 ≤ d.kind ∧ d.kind ≤ 3
  key : 1 ≤ d.key ∧ d.key ≤ 65535
  step : 0 ≤ d.step ∧ d.step ≤ 5
  idle : (d.step = 0 ∨ d.step = 5) → d.left = -1 ∧ d.here = -1
  way : ¬ (d.step = 0 ∨ d.step = 5) → has H d.left ∧ (nth H d.left).key < d.key ∧ (d.here = -1 ∨ 1 ≤ d.here ∧ d.here < (H.length : Int))
  told : (d.step = 5 ↔ d.told ≠ 0) ∧ 0 ≤ d.told ∧ d.told ≤ 2
  inH : 0 ≤ d.here → (nth H d.here).gone = false → d.here ∈ chain H
  inL : 0 ≤ d.left → (nth H d.left).gone = false → d.left ∈ chain H
  act : d.step = 2 → d.key ≤ there H d
  link : d.step = 3 → d.key < there H d ∧ d.kind = 1 ∧ 0 ≤ d.own
  mark : d.step = 4 → there H d = d.key ∧ d.kind = 2
  own : d.own = -1 ∨ (d.kind = 1 ∧ (1 ≤ d.own ∧ d.own < (H.length : Int)) ∧ (nth H d.own).key = d.key ∧ (nth H d.own).value = d.value ∧ (d.step = 3 → (nth H d.own).next = d.here) ∧ (d.step = 5 ∨ (nth H d.own).gone = false ∧ d.own ∉ chain H))

def doneD (d : Hd) (yes : Bool) : Hd := { d with step := 5, left := -1, here := -1, told := if yes then 1 else 2 }
def startD (d : Hd) : Hd := { d with step := 0, left := -1, here := -1 }
def found (H : List C) (d : Hd) : Prop := 0 ≤ d.here ∧ (nth H d.here).key = d.key
instance (H : List C) (d : Hd) : Decidable (found H d) := by unfold found; infer_instance
def stops (H : List C) (d : Hd) : Prop := d.here = -1 ∨ (nth H d.here).gone = false ∧ d.key ≤ (nth H d.here).key
instance (H : List C) (d : Hd) : Decidable (stops H d) := by unfold stops; infer_instance
def moveW (H : List C) (d : Hd) : List C × Hd :=
  if stops H d then (H, { d with step := 2 })
  else if (nth H d.here).gone = true then
    (if swapOk H d.left d.here (nth H d.here).next then (swapH H d.left (nth H d.here).next, { d with here := (nth H d.here).next }) else (H, startD d))
  else (H, { d with left := d.here, here := (nth H d.here).next })
def movePut (H : List C) (d : Hd) : List C × Hd :=
  if d.own < 0 then
    (if freshN H d.key d.value d.here < 0 then (H, doneD d false) else (freshH H d.key d.value d.here, { d with own := freshN H d.key d.value d.here, step := 3 }))
  else (swapH H d.own d.here, { d with step := 3 })
def moveA (H : List C) (d : Hd) : List C × Hd :=
  if d.kind = 3 then (H, doneD d (decide (found H d)))
  else if d.kind = 1 ∧ found H d ∨ d.kind = 2 ∧ ¬ found H d then (H, doneD d false)
  else if d.kind = 1 then movePut H d
  else (H, { d with step := 4 })
def moveL (H : List C) (d : Hd) : List C × Hd := if swapOk H d.left d.here d.own then (swapH H d.left d.own, doneD d true) else (H, startD d)
def moveM (H : List C) (d : Hd) : List C × Hd := if (nth H d.here).gone = true then (H, startD d) else (strike1 H d.here (nth H d.here).next, doneD d true)
def move (H : List C) (d : Hd) : List C × Hd :=
  if d.step = 0 then (H, { d with left := 0, here := (nth H 0).next, step := 1 })
  else if d.step = 1 then moveW H d
  else if d.step = 2 then moveA H d
  else if d.step = 3 then moveL H d
  else if d.step = 4 then moveM H d
  else (H, d)

/-- what a move keeps -/
structure Keeps (H : List C) (d : Hd) (H' : List C) (d' : Hd) : Prop where
  heap : heapOk H'
  hand : OkH H' d'
  kind : d'.kind = d.kind
  key : d'.key = d.key
  value : d'.value = d.value
  lives : d'.told = 1 ∧ d.step ≠ 5 ∧ d.kind ≠ 3 ∧ (d.kind = 1 ∧ d.key ∈ living H' ∨ d.kind = 2 ∧ d.key ∉ living H') ∨ (d'.told = 1 → d.step = 5 ∨ d.kind = 3) ∧ living H' = living H

/-- the heap stays -/
theorem keeps_same {H : List C} {d d' : Hd} (hok : heapOk H) (h : OkH H d') (h1 : d'.kind = d.kind) (h2 : d'.key = d.key) (h3 : d'.value = d.value) (h4 : d'.told = 1 → d.step = 5 ∨ d.kind = 3) : Keeps H d H d' := ⟨hok, h, h1, h2, h3, .inr ⟨h4, rfl⟩⟩

/-- of a hand that has begun: its own cell, if it has one, is neither Gone nor in the chain -/
theorem OkH.own' {H : List C} {d : Hd} (h : OkH H d) (hs : d.step ≠ 5) : d.own = -1 ∨ (d.kind = 1 ∧ (1 ≤ d.own ∧ d.own < (H.length : Int)) ∧ (nth H d.own).key = d.key ∧ (nth H d.own).value = d.value ∧ (d.step = 3 → (nth H d.own).next = d.here) ∧ (nth H d.own).gone = false ∧ d.own ∉ chain H) := by
  rcases h.own with e | ⟨a, b, c, e, f, g⟩
  · exact .inl e
  · rcases g with g | g
    · exact absurd g hs
    · exact .inr ⟨a, b, c, e, f, g.1, g.2⟩
theorem done_ok {H : List C} {d : Hd} (h : OkH H d) (yes : Bool) : OkH H (doneD d yes) :=
  { kind := h.kind, key := h.key, step := ⟨by simp [doneD], by simp [doneD]⟩, idle := fun _ => ⟨rfl, rfl⟩, way := fun hn => absurd (.inr rfl) hn
    told := ⟨by simp only [doneD]; cases yes <;> simp, by simp only [doneD]; cases yes <;> simp, by simp only [doneD]; cases yes <;> simp⟩
    inH := fun h0 => by simp [doneD] at h0
    inL := fun h0 => by simp [doneD] at h0
    act := fun e => by simp [doneD] at e
    link := fun e => by simp [doneD] at e
    mark := fun e => by simp [doneD] at e
    own := by
      rcases h.own with e | ⟨a, b, c, e, f, g⟩
      · exact .inl e
      · exact .inr ⟨a, b, c, e, fun e => by simp [doneD] at e, .inl rfl⟩ }
theorem start_ok {H : List C} {d : Hd} (h : OkH H d) (hs : d.step ≠ 5) : OkH H (startD d) :=
  { kind := h.kind, key := h.key, step := ⟨by simp [startD], by simp [startD]⟩, idle := fun _ => ⟨rfl, rfl⟩, way := fun hn => absurd (.inl rfl) hn
    told := by
      have := h.told
      refine ⟨⟨fun e => by simp [startD] at e, fun e => absurd (this.1.2 e) hs⟩, this.2⟩
    inH := fun h0 => by simp [startD] at h0
    inL := fun h0 => by simp [startD] at h0
    act := fun e => by simp [startD] at e
    link := fun e => by simp [startD] at e
    mark := fun e => by simp [startD] at e
    own := by
      rcases h.own' hs with e | ⟨a, b, c, e, f, g⟩
      · exact .inl e
      · exact .inr ⟨a, b, c, e, fun e => by simp [startD] at e, .inr g⟩ }
theorem told_of {H : List C} {d : Hd} (h : OkH H d) (hs : d.step ≠ 5) : d.told = 0 := Decidable.byContradiction fun e => hs (h.told.1.2 e)
end Go.Proofs.Ytnjeepmbkogaeaa.ce
