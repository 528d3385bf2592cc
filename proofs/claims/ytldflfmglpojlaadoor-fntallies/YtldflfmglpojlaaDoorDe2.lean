/- What the laws of chapter 10 draw, second part: a thing, or what is none. -/
import Derived.Test.YtldflfmglpojlaaDoorDe1
namespace Go.Proofs.YtldflfmglpojlaaDoor.rg
open Go.ChangeShapes Go.WideShapes Go.ChangeAt Go.RowKit
open Go.Proofs.YtldflfmglpojlaaDoor.ce Go.Proofs.YtldflfmglpojlaaDoor.ro Go.Proofs.YtldflfmglpojlaaDoor.draw
set_option linter.unusedVariables false

def zeros (n : Nat) : ByteArray := ⟨(List.replicate n (0 : UInt8)).toArray⟩
theorem zeros_size (n : Nat) : (zeros n).size = n := by show (List.replicate n (0 : UInt8)).toArray.size = n; simp
/-- new bytes, all zero -/
theorem wpList_make_zeros {o : Oper} {a : Act} {w : World} {ops : Array Oper} {rest : List Oper} {Q : Exit → Act → World → Prop} (hgd : o.guard = none) (l c : Operand) (t : TypeId) (ho : o.op = .makeSlice t l c) (ht : Tryd.prog.underlying t = some (.slice 5)) (n : Nat) (hn : n ≤ 1048576) (hl : a.eval l = .int .i64 n) (hc : a.eval c = .int .i64 n)
    (h : ∀ b w', Below w.heap.size w w' → (convert 22 9 (.slice (some ⟨b, 0, none⟩) n n)).run Tryd.prog w' = .ok (.string (zeros n)) w' → wpList Tryd.prog ops Q rest (a.put o.dst (.slice (some ⟨b, 0, none⟩) n n)) w') : wpList Tryd.prog ops Q (o :: rest) a w := by
  obtain ⟨i0, hi0, hz0, hz1, hz2⟩ := info_parts infoByte
  refine wpList_make_full _ hgd l c t ho w.heap.size 5 i0 _ 1 ht hi0 hz0 hz1 .i64 .i64 n n n hl hc rfl rfl (by rw [hz2]; omega) (by unfold maxLen; omega) (Nat.le_refl _) ?_
  intro w1 h1 h2
  refine h _ w1 (ro.below_grown h2 (Nat.le_refl _) (fun k hk => by cases hk)) ?_
  have hr : (madeCells (Value.cells (Value.int .u8 0)) (n * 1)).toList = List.replicate n (.int .u8 0) := by simp [Value.cells, toList_madeCells_one]
  rw [hr] at h1
  have := run_convert_bytes_back (P := Tryd.prog) w1 22 9 5 ⟨w.heap.size, 0, none⟩ n (List.replicate n (0 : UInt8)) Tryd.underlying22 Tryd.underlying5 Tryd.underlying9 (fun j hj => h1.cells (g := w.heap.size) rfl j _ (by simp at hj; simp [hj]))
  rw [List.length_replicate] at this
  exact this

end Go.Proofs.YtldflfmglpojlaaDoor.rg
