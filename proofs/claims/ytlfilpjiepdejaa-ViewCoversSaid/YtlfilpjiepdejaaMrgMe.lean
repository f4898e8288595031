/-
  scrimlaw08.ArraySame, walked.
-/
import Derived.Test.YtlfilpjiepdejaaMrgJ
import Derived.Test.YtlfilpjiepdejaaMrgMd
namespace Go.Proofs.Ytlfilpjiepdejaa
open Go.RowKit Num

end Go.Proofs.Ytlfilpjiepdejaa
