/- Mathematics of counts, no Go in sight. -/
import Derived.Test.YtfdkcldbbfgaiaaDoorPx0
namespace Go.Proofs.YtfdkcldbbfgaiaaDoor.rg
open Go.RowKit
open Go.Proofs.YtfdkcldbbfgaiaaDoor.cm
set_option linter.unusedVariables false

/-- how often: asked, hits, stored, drops, overs -/
structure Tl where
  A : Int
  H : Int
  S : Int
  D : Int
  O : Int
def Tl.zero : Tl := ⟨0, 0, 0, 0, 0⟩
def inT (n : Int) : Bool := decide (0 ≤ n) && decide (n ≤ 1000000000)
theorem inT_iff {n : Int} : inT n = true ↔ 0 ≤ n ∧ n ≤ 1000000000 := by simp [inT]
def tallyB (t : Tl) : Bool := inT t.A && inT t.H && inT t.S && inT t.D && inT t.O
structure TlOk (t : Tl) : Prop where
  a : 0 ≤ t.A ∧ t.A ≤ 1000000000
  h : 0 ≤ t.H ∧ t.H ≤ 1000000000
  s : 0 ≤ t.S ∧ t.S ≤ 1000000000
  d : 0 ≤ t.D ∧ t.D ≤ 1000000000
  o : 0 ≤ t.O ∧ t.O ≤ 1000000000
theorem tallyB_iff {t : Tl} : tallyB t = true ↔ TlOk t := by
  simp only [tallyB, Bool.and_eq_true, inT_iff]
  exact ⟨fun ⟨⟨⟨⟨a, b⟩, c⟩, d⟩, e⟩ => ⟨a, b, c, d, e⟩, fun ⟨a, b, c, d, e⟩ => ⟨⟨⟨⟨a, b⟩, c⟩, d⟩, e⟩⟩
theorem tl_zero : TlOk Tl.zero := ⟨by decide, by decide, by decide, by decide, by decide⟩
/-- one more, up to the most -/
def moreT (n : Int) : Int := if n + 1 < 1000000000 then n + 1 else 1000000000
theorem more_ok {n : Int} (h : 0 ≤ n ∧ n ≤ 1000000000) : 0 ≤ moreT n ∧ moreT n ≤ 1000000000 := by unfold moreT; split <;> omega
theorem more_gt {n : Int} (h : 0 ≤ n ∧ n ≤ 1000000000) : n < moreT n ↔ n < 1000000000 := by unfold moreT; split <;> omega
theorem more_is (n : Int) : moreT n = min 1000000000 (n + 1) := by unfold moreT; omega
def getV (c : Cm) : Bool := decide (c.V = 1) || decide (c.V = 2)
def keptK (r : Rp) : Bool := decide (r.K = 1) || decide (r.K = 6)
/-- a command and what is told of it are counted -/
def cntT (t : Tl) (c : Cm) (r : Rp) : Tl :=
  ⟨if getV c = true then moreT t.A else t.A, if r.K = 5 then moreT t.H else t.H, if keptK r = true then moreT t.S else t.S, t.D, t.O⟩
def coT (t : Tl) (c : Cm) (r : Rp) : Tl := if tallyB t = true then cntT t c r else Tl.zero
theorem cnt_ok {t : Tl} (h : TlOk t) (c : Cm) (r : Rp) : TlOk (cntT t c r) := by
  have step : ∀ (p : Prop) [Decidable p] (n : Int), 0 ≤ n ∧ n ≤ 1000000000 → 0 ≤ (if p then moreT n else n) ∧ (if p then moreT n else n) ≤ 1000000000 := fun p _ n hn => by
    by_cases hp : p
    · rw [if_pos hp]; exact more_ok hn
    · rw [if_neg hp]; exact hn
  exact ⟨step _ t.A h.a, step _ t.H h.h, step _ t.S h.s, h.d, h.o⟩
/-- each counts just its own -/
theorem cnt_says {t : Tl} (h : TlOk t) (c : Cm) (r : Rp) :
    (t.A < (cntT t c r).A ↔ getV c = true ∧ t.A < 1000000000) ∧ (t.H < (cntT t c r).H ↔ r.K = 5 ∧ t.H < 1000000000) ∧ (t.S < (cntT t c r).S ↔ keptK r = true ∧ t.S < 1000000000) := by
  have step : ∀ (p : Prop) [Decidable p] (n : Int), 0 ≤ n ∧ n ≤ 1000000000 → (n < (if p then moreT n else n) ↔ p ∧ n < 1000000000) := fun p _ n hn => by
    by_cases hp : p
    · rw [if_pos hp, more_gt hn]
      exact ⟨fun q => ⟨hp, q⟩, fun q => q.2⟩
    · rw [if_neg hp]
      exact ⟨fun q => by omega, fun q => absurd q.1 hp⟩
  exact ⟨step _ t.A h.a, step _ t.H h.h, step _ t.S h.s⟩
/-- how it is shown -/
def showT (t : Tl) : List UInt8 := wordsL ([t.A, t.H, t.S, t.D, t.O].map fun n => digs n.toNat)
def shT (t : Tl) : List UInt8 := if tallyB t = true then showT t else []
end Go.Proofs.YtfdkcldbbfgaiaaDoor.rg
