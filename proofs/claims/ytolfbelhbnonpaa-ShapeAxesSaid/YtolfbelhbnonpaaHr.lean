/-
  A slice of ints that came in, as the walks speak of it.
-/
import Derived.Test.YtolfbelhbnonpaaHa
import Derived.OpenShut
namespace Go.Proofs.Ytolfbelhbnonpaa
open Go.RowKit

theorem rowz_in (w : World) (a : Option Addr) (len cap : Nat) (zs : List Int)
    (h : (a = none ∧ len = 0 ∧ cap = 0 ∧ zs = []) ∨
      ∃ x, a = some x ∧ len ≤ cap ∧ cap ≤ maxLen ∧ zs.length = cap ∧ (∀ i, i < zs.length → w.cell? (x.add i) = some (.int .i64 (zs.getD i 0))) ∧ ∀ n ∈ zs, (Lit.int .i64 n).wf = true) :
    ∃ f : Nat → Int, len ≤ cap ∧ cap ≤ 9223372036854775807 ∧ SlZ w a len f ∧ ∀ j, j < len → (Lit.int .i64 (f j)).wf = true := by
  rcases h with ⟨rfl, rfl, rfl, rfl⟩ | ⟨x, rfl, hl, hm, hz, hc, hw⟩
  · exact ⟨fun _ => 0, Nat.le_refl _, by omega, .inl rfl, fun _ h => by omega⟩
  · refine ⟨fun j => zs.getD j 0, hl, by unfold maxLen at hm; omega, ?_, fun j hj => ?_⟩
    · by_cases h0 : len = 0
      · exact .inl h0
      · obtain ⟨b, off, rfl, hc'⟩ := ints_at hc (by omega)
        exact .inr ⟨b, off, rfl, fun j hj => hc' j (by omega)⟩
    · have hj' : j < zs.length := by omega
      refine hw _ (show zs.getD j 0 ∈ zs from ?_)
      rw [List.getD_eq_getElem?_getD, List.getElem?_eq_getElem hj']
      exact List.getElem_mem hj'

end Go.Proofs.Ytolfbelhbnonpaa
