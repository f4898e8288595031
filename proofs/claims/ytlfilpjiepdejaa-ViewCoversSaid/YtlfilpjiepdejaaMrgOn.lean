/-
  array.Cover, told with the blocks that its answer lies in.
-/
import Derived.Test.YtlfilpjiepdejaaMrgJ
import Derived.Test.YtlfilpjiepdejaaMrgVk
namespace Go.Proofs.Ytlfilpjiepdejaa
open Go.RowKit Num

theorem coverQC : CoverQC := fun A l D c0 c1 c2 w h _ hf hl => (coverW A l c0 c1 c2 w (ArrQ.plain _ _ _ _ h) (Nat.le_trans hf.1 (by decide)) hl).mono fun _ _ ⟨d0, d1, d2, e, k, hb⟩ => ⟨⟨d0, d1, d2, e, ArrQ.keep (fun _ _ _ => rfl) (fun _ hq _ => .inr hq) _ _ _ _ k⟩, hb⟩

end Go.Proofs.Ytlfilpjiepdejaa
