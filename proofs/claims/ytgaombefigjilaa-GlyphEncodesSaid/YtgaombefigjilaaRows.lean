/-
  No cell of these rows narrows 'for every input' (looked for: loops, veiled, ifaces, maps, wideKeys, modest, calm, conditions, laid).
  DERIVED. THE GIVEN ROWS OF THIS SEAT. 3 by the template 'for every input the law returns true; each argument reads behind the call as it read before'; 0 by the template 'total and deterministic' (their statements: YtgaombefigjilaaTotals.lean).
  GIVEN WITH THE SEED: the statements are not yours to turn. If you find one false, say at which input.
  Laid BY PROGRAM, IN A SANDBOX (cutbox-rows.mjs): the forced cells as the released guide's own fill.sh prints them over the translation f040d48d73c2a24a… (all of the seat's roots in one cut). By AI agents, Wed Nov 11 2026. No macro, syntax, notation, axiom, sorry.
-/
import Derived.Test.YtgaombefigjilaaChecked
import GoSem.Claim
import GoSem.ClaimJoined
import GoSem.ClaimMapViews
import Derived.JoinedTies
import Derived.KernelRfl
namespace Go.Proofs.Ytgaombefigjilaa
/- THE CELL 'sum', in the pinned program and in every row, IS THE sha256 OF THE DUMP (.gsa) THAT YtgaombefigjilaaProg.lean LOADS. Nothing in Lean hashes anything: it is a label: what it is worth is what the hold of that sum in a sandbox is worth. -/
noncomputable def Try.pinned : Pinned := { name := "ytgaombefigjilaa", sum := "f040d48d73c2a24a7e5d569d830cf95d3360edd9ac105d6252bd42744b24ef01", checked := Try.checked }
namespace Rows
def none {H : Type} : Left H := { results := [], args := [] }

/-- 'scrimlaw06.GlyphDecodes': WHATEVER THE INPUT: true; the input reads as it did. -/
def glyphDecodesSpec : ChangeSpec := { name := "glyphDecodes", fn := fun _ => fun
  | [d] => { results := [.lit (.bool true)], args := [d] }
  | _ => none }
def glyphDecodesRow : OpenClaim := { program := "ytgaombefigjilaa", sum := "f040d48d73c2a24a7e5d569d830cf95d3360edd9ac105d6252bd42744b24ef01", func := "scrim/scrimlaw06.GlyphDecodes", spec := "glyphDecodes", inPlace := ["internal/abi.NoEscape"], apart := false }
def GlyphDecodesSaid : Prop := glyphDecodesRow.holds Try.pinned (OpenSpec.ofChange glyphDecodesSpec)

/-- ITS FALSE NEIGHBOUR: 'it returns false'. Refute it at one input. -/
def glyphDecodesWrong : ChangeSpec := { name := "glyphDecodes", fn := fun _ => fun
  | [d] => { results := [.lit (.bool false)], args := [d] }
  | _ => none }
def GlyphDecodesWrongFalsely : Prop := glyphDecodesRow.holds Try.pinned (OpenSpec.ofChange glyphDecodesWrong)

/-- 'scrimlaw06.GlyphEncodes': WHATEVER THE INPUT: true; the input reads as it did. -/
def glyphEncodesSpec : ChangeSpec := { name := "glyphEncodes", fn := fun _ => fun
  | [d] => { results := [.lit (.bool true)], args := [d] }
  | _ => none }
def glyphEncodesRow : OpenClaim := { program := "ytgaombefigjilaa", sum := "f040d48d73c2a24a7e5d569d830cf95d3360edd9ac105d6252bd42744b24ef01", func := "scrim/scrimlaw06.GlyphEncodes", spec := "glyphEncodes", inPlace := ["internal/abi.NoEscape"], apart := false }
def GlyphEncodesSaid : Prop := glyphEncodesRow.holds Try.pinned (OpenSpec.ofChange glyphEncodesSpec)

/-- ITS FALSE NEIGHBOUR: 'it returns false'. Refute it at one input. -/
def glyphEncodesWrong : ChangeSpec := { name := "glyphEncodes", fn := fun _ => fun
  | [d] => { results := [.lit (.bool false)], args := [d] }
  | _ => none }
def GlyphEncodesWrongFalsely : Prop := glyphEncodesRow.holds Try.pinned (OpenSpec.ofChange glyphEncodesWrong)

/-- 'scrimlaw06.GlyphClasses': WHATEVER THE INPUT: true; the input reads as it did. -/
def glyphClassesSpec : ChangeSpec := { name := "glyphClasses", fn := fun _ => fun
  | [d] => { results := [.lit (.bool true)], args := [d] }
  | _ => none }
def glyphClassesRow : OpenClaim := { program := "ytgaombefigjilaa", sum := "f040d48d73c2a24a7e5d569d830cf95d3360edd9ac105d6252bd42744b24ef01", func := "scrim/scrimlaw06.GlyphClasses", spec := "glyphClasses", inPlace := ["internal/abi.NoEscape"], apart := false }
def GlyphClassesSaid : Prop := glyphClassesRow.holds Try.pinned (OpenSpec.ofChange glyphClassesSpec)

/-- ITS FALSE NEIGHBOUR: 'it returns false'. Refute it at one input. -/
def glyphClassesWrong : ChangeSpec := { name := "glyphClasses", fn := fun _ => fun
  | [d] => { results := [.lit (.bool false)], args := [d] }
  | _ => none }
def GlyphClassesWrongFalsely : Prop := glyphClassesRow.holds Try.pinned (OpenSpec.ofChange glyphClassesWrong)

/- THE SECOND FORM. 'bulk': how many values and letters a reading holds, each counted each time it is reached (what is shared counts as often as it is met; a slice's spare places count too). A statement '..UptoSaid' is the law's where the arguments, and the package variables that the reading takes, are together of bulk at most 1048576: NARROWER than '..Said'. Prove '..Said' where nothing that the law and all that it calls make is longer than what came in: it says more and counts as full. Else prove '..UptoSaid'. A law counts once. -/
mutual
def uptoBulk {H : Type} : DataW H → Nat
  | .lit (.string bytes) => bytes.length + 1
  | .lit _ => 1
  | .nil => 1
  | .ptr d => uptoBulk d + 1
  | .slice elems spare => uptoBulkAll elems + uptoBulkAll spare + 1
  | .agg parts => uptoBulkAll parts + 1
  | .iface _ d => uptoBulk d + 1
  | .map entries => uptoBulkEntries entries + 1
  | .held _ => 1
def uptoBulkAll {H : Type} : List (DataW H) → Nat
  | [] => 0
  | d :: r => uptoBulk d + uptoBulkAll r
def uptoBulkEntries {H : Type} : List (Lit × DataW H) → Nat
  | [] => 0
  | x :: r => uptoBulkEntry x + uptoBulkEntries r
def uptoBulkEntry {H : Type} : Lit × DataW H → Nat
  | (.string bytes, d) => bytes.length + uptoBulk d + 1
  | (_, d) => uptoBulk d + 1
 end
def uptoSmall : (H : Type) → List (DataW H) → Bool := fun _ ds => decide (uptoBulkAll ds ≤ 1048576)
def OpenSpec.upto (s : _root_.Go.ChangeSpec) : _root_.Go.OpenSpec := { _root_.Go.OpenSpec.ofChange s with cond := some uptoSmall }

/-- 'scrimlaw06.GlyphDecodes', WHERE WHAT IT READS IS OF BULK AT MOST 1048576: true; the input reads as it did. -/
def glyphDecodesUptoRow : OpenClaim := { program := "ytgaombefigjilaa", sum := "f040d48d73c2a24a7e5d569d830cf95d3360edd9ac105d6252bd42744b24ef01", func := "scrim/scrimlaw06.GlyphDecodes", spec := "glyphDecodes", inPlace := ["internal/abi.NoEscape"], apart := false, narrowed := true }
def GlyphDecodesUptoSaid : Prop := glyphDecodesUptoRow.holds Try.pinned (OpenSpec.upto glyphDecodesSpec)

/-- 'scrimlaw06.GlyphEncodes', WHERE WHAT IT READS IS OF BULK AT MOST 1048576: true; the input reads as it did. -/
def glyphEncodesUptoRow : OpenClaim := { program := "ytgaombefigjilaa", sum := "f040d48d73c2a24a7e5d569d830cf95d3360edd9ac105d6252bd42744b24ef01", func := "scrim/scrimlaw06.GlyphEncodes", spec := "glyphEncodes", inPlace := ["internal/abi.NoEscape"], apart := false, narrowed := true }
def GlyphEncodesUptoSaid : Prop := glyphEncodesUptoRow.holds Try.pinned (OpenSpec.upto glyphEncodesSpec)

/-- 'scrimlaw06.GlyphClasses', WHERE WHAT IT READS IS OF BULK AT MOST 1048576: true; the input reads as it did. -/
def glyphClassesUptoRow : OpenClaim := { program := "ytgaombefigjilaa", sum := "f040d48d73c2a24a7e5d569d830cf95d3360edd9ac105d6252bd42744b24ef01", func := "scrim/scrimlaw06.GlyphClasses", spec := "glyphClasses", inPlace := ["internal/abi.NoEscape"], apart := false, narrowed := true }
def GlyphClassesUptoSaid : Prop := glyphClassesUptoRow.holds Try.pinned (OpenSpec.upto glyphClassesSpec)

end Rows
end Go.Proofs.Ytgaombefigjilaa
