/-
  scrimlaw08.ArrayLabels, walked.
-/
import Derived.Test.YtlfilpjiepdejaaMrgJ
namespace Go.Proofs.Ytlfilpjiepdejaa
open Go.RowKit Num

theorem tell_same {v : Value} {w w' : World} {e : Ending} (h : e = .returned v ∧ w = w') : Tell v w e w' := ⟨h.1, h.2 ▸ Below.refl _ _⟩

/-- The end of a law that asks of Few arrays alone. -/
theorem u64_zero : (Value.int IntKind.u64 (((0 : Nat) : Int))) = .int .u64 0 := rfl

end Go.Proofs.Ytlfilpjiepdejaa
