/- Contracts: how a command is shown, the program's. -/
import Derived.Test.YtpngnblfkijkhaaDoorEv1
import Derived.Deep.DeepCutAuto
import Derived.Deep.RegionHeld3
import Derived.BigQuiet
namespace Go.Proofs.YtpngnblfkijkhaaDoor.cm
open Go.ChangeShapes Go.WideShapes Go.ChangeAt Go.RowKit
open Go.Deep Go.Joins
open Go.Proofs.YtpngnblfkijkhaaDoor.ce Go.Proofs.YtpngnblfkijkhaaDoor.ro Go.Proofs.YtpngnblfkijkhaaDoor.rg
set_option linter.unusedVariables false

/-- what adding a word may change: the variable b, and rows of texts from lo on -/
structure Ad (lo b : Nat) (w w' : World) : Prop where
  low : Below lo w w'
  keep : ∀ (k : Nat) (cur : Array Value) (t' : TypeId) (f : Nat × Nat), w.heap[k]? = some (.cells cur t' f) → t' ≠ 9 → k ≠ b → w'.heap[k]? = w.heap[k]?
theorem Ad.vblk {lo b b' : Nat} {w w' : World} {t : TypeId} {vs : List Value} (h : Ad lo b w w') (hb : VBlk w b' t vs) (ht : t ≠ 9) (hn : b' ≠ b) : VBlk w' b' t vs := hb.of (h.keep b' _ t _ hb ht hn)
set_option maxHeartbeats 1000000 in
theorem add_any (t : Bool) (x : ByteArray) (b4 lo hi : Nat) (v : Value) (ws : List ByteArray) (w : World) (hV : VBlk w b4 47 [v]) (own : Own encS w lo hi v ws) (hlo : lo ≤ b4) (hl : ws.length ≤ 100) :
    Calls Tryd.prog 25 #[.bool t, .string x, .pointer (some ⟨b4, 0, none⟩)] w fun e w' => e = .returned (.tuple #[]) ∧ ∃ v', VBlk w' b4 47 [v'] ∧ Own encS w' lo w'.heap.size v' (ws ++ (if t then [x] else [])) ∧ Ad lo b4 w w' := by
  have h4 : lo ≤ w.heap.size := by have := hV.lt; omega
  have VV : Hid (VBlk w b4 47 [v]) := hV
  have OO : Hid (Own encS w lo hi v ws) := own
  have c4 := hV.cell 0 (by simp)
  obtain ⟨A, n, k, rfl⟩ := own.slice
  clear hV own
  cases t with
  | false =>
    go_enter Tryd.func25, Tryd.ntmps25
    go_wp2
    go_end0
    exact ⟨rfl, _, VV.out, by simpa using OO.out.top, Below.refl _ _, fun _ _ _ _ _ _ _ => rfl⟩
  | true =>
    have m1 : Hid True := trivial
    go_enter Tryd.func25, Tryd.ntmps25
    go_wp2_with (first | (clear m1; at_builtin; refine wpList_append_g infoS rfl _ _ 47 rfl Tryd.underlying47 lo _ _ ws rfl (OO.out.grow (bAl w _)) (by simp; omega) _ [x] rfl (rd_new (E := encS) w x #[.string x] rfl) (by simp; omega) ?_; intro v7 w7 o7 hT7; have V7 := hT7.vblk (vblk_grow VV.out (bAl w _)) (by decide); have c7 := V7.cell 0 (by simp); have f7 := V7.frozen 0; obtain ⟨A7, n7, k7, rfl⟩ := o7.slice) | (fail))
    go_end0
    have hO := only_set w7 b4 0 (.slice A7 n7 k7)
    refine ⟨rfl, .slice A7 n7 k7, ?_, ?_, ?_, ?_⟩
    · exact VBlk.set (w := w7) (b := b4) (t := 47) (vs := [.slice A n k]) V7 0 (.slice A7 n7 k7)
    · have := o7.only hO V7 (by decide)
      exact this.top
    · exact (((bAl w _).mono h4).trans hT7.low).trans (hO.2.2 _ hlo)
    · intro g cur t' fz hg ht hn
      have h1 : (w.alloc (.cells #[.string x] 9)).heap[g]? = w.heap[g]? := (bAl w _).block g (Array.getElem?_eq_some_iff.1 hg).1
      rw [hO.2.1 g hn, hT7.keep g cur t' fz (by rw [h1]; exact hg) ht, h1]
end Go.Proofs.YtpngnblfkijkhaaDoor.cm
