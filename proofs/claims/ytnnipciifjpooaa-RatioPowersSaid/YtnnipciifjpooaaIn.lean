/-
  A slice of 32-bit numbers that came in, as the walks speak of it.
-/
import Derived.Test.YtnnipciifjpooaaSl
import Derived.OpenShut
namespace Go.Proofs.Ytnnipciifjpooaa
open Go.RowKit Num

theorem wf_u32 {x : Int} (h : (Lit.int .u32 x).wf = true) : 0 ≤ x ∧ x < 4294967296 := by
  have := bounds_u32 h
  omega

theorem row_in (w : World) (a : Option Addr) (len cap : Nat) (zs : List Int)
    (h : (a = none ∧ len = 0 ∧ cap = 0 ∧ zs = []) ∨
      ∃ x, a = some x ∧ len ≤ cap ∧ cap ≤ maxLen ∧ zs.length = cap ∧ (∀ i, i < zs.length → w.cell? (x.add i) = some (.int .u32 (zs.getD i 0))) ∧ ∀ n ∈ zs, (Lit.int .u32 n).wf = true) :
    ∃ f : Nat → Nat, len ≤ cap ∧ cap ≤ 9223372036854775807 ∧ Sl w a len f ∧ Lim f len := by
  rcases h with ⟨rfl, rfl, rfl, rfl⟩ | ⟨x, rfl, hl, hm, hz, hc, hw⟩
  · exact ⟨fun _ => 0, Nat.le_refl _, by omega, .inl rfl, fun _ h => by omega⟩
  · refine ⟨fun j => (zs.getD j 0).toNat, hl, by unfold maxLen at hm; omega, ?_, ?_⟩
    · by_cases h0 : len = 0
      · exact .inl h0
      · obtain ⟨b, off, rfl, hc'⟩ := ints_at hc (by omega)
        refine .inr ⟨b, off, rfl, fun j hj => ?_⟩
        have hj' : j < zs.length := by omega
        have hb := wf_u32 (hw (zs.getD j 0) (by rw [List.getD_eq_getElem?_getD, List.getElem?_eq_getElem hj']; exact List.getElem_mem hj'))
        rw [hc' j hj', Int.toNat_of_nonneg hb.1]
    · intro j hj
      have hj' : j < zs.length := by omega
      have hb := wf_u32 (hw (zs.getD j 0) (by rw [List.getD_eq_getElem?_getD, List.getElem?_eq_getElem hj']; exact List.getElem_mem hj'))
      show (zs.getD j 0).toNat < 4294967296
      omega

end Go.Proofs.Ytnnipciifjpooaa
