/-
  NARROWER THAN 'FOR EVERY INPUT', by the rows' own cells (each row's printed sentence says how): ArrayRight: loops · ArrayLabels: loops · ArraySame: loops.
  DERIVED. THE GIVEN ROWS OF THIS SEAT. 3 by the template 'for every input the law returns true; each argument reads behind the call as it read before'; 0 by the template 'total and deterministic' (their statements: YtmkjebembicljaaTotals.lean).
  GIVEN WITH THE SEED: the statements are not yours to turn. If you find one false, say at which input.
  Laid BY PROGRAM, IN A SANDBOX (cutbox-rows.mjs): the forced cells as the released guide's own fill.sh prints them over the translation b2f5bea452fc76c4… (all of the seat's roots in one cut). By AI agents, Wed Nov 11 2026. No macro, syntax, notation, axiom, sorry.
-/
import Derived.Test.YtmkjebembicljaaChecked
import GoSem.Claim
import GoSem.ClaimJoined
import GoSem.ClaimMapViews
import Derived.JoinedTies
import Derived.KernelRfl
namespace Go.Proofs.Ytmkjebembicljaa
/- THE CELL 'sum', in the pinned program and in every row, IS THE sha256 OF THE DUMP (.gsa) THAT YtmkjebembicljaaProg.lean LOADS. Nothing in Lean hashes anything: it is a label: what it is worth is what the hold of that sum in a sandbox is worth. -/
noncomputable def Try.pinned : Pinned := { name := "ytmkjebembicljaa", sum := "b2f5bea452fc76c4469db5633af04695a8dd20d641a2e7e95b14447b55448b17", checked := Try.checked }
namespace Rows
def none {H : Type} : Left H := { results := [], args := [] }

/-- 'scrimlaw08.ArrayRight': WHATEVER THE INPUT: true; the input reads as it did. -/
def arrayRightSpec : ChangeSpec := { name := "arrayRight", fn := fun _ => fun
  | [d] => { results := [.lit (.bool true)], args := [d] }
  | _ => none }
def arrayRightRow : OpenClaim := { program := "ytmkjebembicljaa", sum := "b2f5bea452fc76c4469db5633af04695a8dd20d641a2e7e95b14447b55448b17", func := "scrim/scrimlaw08.ArrayRight", spec := "arrayRight", unfollowed := true, recurses := true, named := ["math/bits.overflowError"], loops := true, apart := false }
def ArrayRightSaid : Prop := arrayRightRow.holds Try.pinned (OpenSpec.ofChange arrayRightSpec)

/-- ITS FALSE NEIGHBOUR: 'it returns false'. Refute it at one input. -/
def arrayRightWrong : ChangeSpec := { name := "arrayRight", fn := fun _ => fun
  | [d] => { results := [.lit (.bool false)], args := [d] }
  | _ => none }
def ArrayRightWrongFalsely : Prop := arrayRightRow.holds Try.pinned (OpenSpec.ofChange arrayRightWrong)

/-- 'scrimlaw08.ArrayLabels': WHATEVER THE INPUT: true; the input reads as it did. -/
def arrayLabelsSpec : ChangeSpec := { name := "arrayLabels", fn := fun _ => fun
  | [d1, d2] => { results := [.lit (.bool true)], args := [d1, d2] }
  | _ => none }
def arrayLabelsRow : OpenClaim := { program := "ytmkjebembicljaa", sum := "b2f5bea452fc76c4469db5633af04695a8dd20d641a2e7e95b14447b55448b17", func := "scrim/scrimlaw08.ArrayLabels", spec := "arrayLabels", unfollowed := true, recurses := true, named := ["math/bits.overflowError"], loops := true, apart := false }
def ArrayLabelsSaid : Prop := arrayLabelsRow.holds Try.pinned (OpenSpec.ofChange arrayLabelsSpec)

/-- ITS FALSE NEIGHBOUR: 'it returns false'. Refute it at one input. -/
def arrayLabelsWrong : ChangeSpec := { name := "arrayLabels", fn := fun _ => fun
  | [d1, d2] => { results := [.lit (.bool false)], args := [d1, d2] }
  | _ => none }
def ArrayLabelsWrongFalsely : Prop := arrayLabelsRow.holds Try.pinned (OpenSpec.ofChange arrayLabelsWrong)

/-- 'scrimlaw08.ArraySame': WHATEVER THE INPUT: true; the input reads as it did. -/
def arraySameSpec : ChangeSpec := { name := "arraySame", fn := fun _ => fun
  | [d1, d2] => { results := [.lit (.bool true)], args := [d1, d2] }
  | _ => none }
def arraySameRow : OpenClaim := { program := "ytmkjebembicljaa", sum := "b2f5bea452fc76c4469db5633af04695a8dd20d641a2e7e95b14447b55448b17", func := "scrim/scrimlaw08.ArraySame", spec := "arraySame", unfollowed := true, recurses := true, named := ["math/bits.overflowError"], loops := true, apart := false }
def ArraySameSaid : Prop := arraySameRow.holds Try.pinned (OpenSpec.ofChange arraySameSpec)

/-- ITS FALSE NEIGHBOUR: 'it returns false'. Refute it at one input. -/
def arraySameWrong : ChangeSpec := { name := "arraySame", fn := fun _ => fun
  | [d1, d2] => { results := [.lit (.bool false)], args := [d1, d2] }
  | _ => none }
def ArraySameWrongFalsely : Prop := arraySameRow.holds Try.pinned (OpenSpec.ofChange arraySameWrong)

/- THE SECOND FORM. 'bulk': how many values and letters a reading holds, each counted each time it is reached (what is shared counts as often as it is met; a slice's spare places count too). A statement '..UptoSaid' is the law's where the arguments, and the package variables that the reading takes, are together of bulk at most 1048576: NARROWER than '..Said'. Prove '..Said' where nothing that the law and all that it calls make is longer than what came in: it says more and counts as full. Else prove '..UptoSaid'. A law counts once. -/
mutual
def uptoBulk {H : Type} : DataW H → Nat
  | .lit (.string bytes) => bytes.length + 1
  | .lit _ => 1
  | .nil => 1
  | .ptr d => uptoBulk d + 1
  | .slice elems spare => uptoBulkAll elems + uptoBulkAll spare + 1
  | .agg parts => uptoBulkAll parts + 1
  | .iface _ d => uptoBulk d + 1
  | .map entries => uptoBulkEntries entries + 1
  | .held _ => 1
def uptoBulkAll {H : Type} : List (DataW H) → Nat
  | [] => 0
  | d :: r => uptoBulk d + uptoBulkAll r
def uptoBulkEntries {H : Type} : List (Lit × DataW H) → Nat
  | [] => 0
  | x :: r => uptoBulkEntry x + uptoBulkEntries r
def uptoBulkEntry {H : Type} : Lit × DataW H → Nat
  | (.string bytes, d) => bytes.length + uptoBulk d + 1
  | (_, d) => uptoBulk d + 1
 end
def uptoSmall : (H : Type) → List (DataW H) → Bool := fun _ ds => decide (uptoBulkAll ds ≤ 1048576)
def OpenSpec.upto (s : _root_.Go.ChangeSpec) : _root_.Go.OpenSpec := { _root_.Go.OpenSpec.ofChange s with cond := some uptoSmall }

/-- 'scrimlaw08.ArrayRight', WHERE WHAT IT READS IS OF BULK AT MOST 1048576: true; the input reads as it did. -/
def arrayRightUptoRow : OpenClaim := { program := "ytmkjebembicljaa", sum := "b2f5bea452fc76c4469db5633af04695a8dd20d641a2e7e95b14447b55448b17", func := "scrim/scrimlaw08.ArrayRight", spec := "arrayRight", unfollowed := true, recurses := true, named := ["math/bits.overflowError"], loops := true, apart := false, narrowed := true }
def ArrayRightUptoSaid : Prop := arrayRightUptoRow.holds Try.pinned (OpenSpec.upto arrayRightSpec)

/-- 'scrimlaw08.ArrayLabels', WHERE WHAT IT READS IS OF BULK AT MOST 1048576: true; the input reads as it did. -/
def arrayLabelsUptoRow : OpenClaim := { program := "ytmkjebembicljaa", sum := "b2f5bea452fc76c4469db5633af04695a8dd20d641a2e7e95b14447b55448b17", func := "scrim/scrimlaw08.ArrayLabels", spec := "arrayLabels", unfollowed := true, recurses := true, named := ["math/bits.overflowError"], loops := true, apart := false, narrowed := true }
def ArrayLabelsUptoSaid : Prop := arrayLabelsUptoRow.holds Try.pinned (OpenSpec.upto arrayLabelsSpec)

/-- 'scrimlaw08.ArraySame', WHERE WHAT IT READS IS OF BULK AT MOST 1048576: true; the input reads as it did. -/
def arraySameUptoRow : OpenClaim := { program := "ytmkjebembicljaa", sum := "b2f5bea452fc76c4469db5633af04695a8dd20d641a2e7e95b14447b55448b17", func := "scrim/scrimlaw08.ArraySame", spec := "arraySame", unfollowed := true, recurses := true, named := ["math/bits.overflowError"], loops := true, apart := false, narrowed := true }
def ArraySameUptoSaid : Prop := arraySameUptoRow.holds Try.pinned (OpenSpec.upto arraySameSpec)

end Rows
end Go.Proofs.Ytmkjebembicljaa
