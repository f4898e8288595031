/-
  NARROWER THAN 'FOR EVERY INPUT', by the rows' own cells (each row's printed sentence says how): ScalarOne: loops · ScalarTwo: loops · ScalarPicks: loops · ScalarBlind: loops.
  DERIVED. THE GIVEN ROWS OF THIS SEAT. 5 by the template 'for every input the law returns true; each argument reads behind the call as it read before'; 0 by the template 'total and deterministic' (their statements: YtaepelipkkmeaaaGreatTotals.lean).
  GIVEN WITH THE SEED: the statements are not yours to turn. If you find one false, say at which input.
  Laid BY PROGRAM, IN A SANDBOX (cutbox-rows.mjs): the forced cells as the released guide's own fill.sh prints them over the translation 0aa5e928fa026d43… (all of the seat's roots in one cut). By AI agents, Wed Nov 11 2026. No macro, syntax, notation, axiom, sorry.
-/
import Derived.Test.YtaepelipkkmeaaaGreatChecked
import GoSem.Claim
import GoSem.ClaimJoined
import GoSem.ClaimMapViews
import Derived.JoinedTies
import Derived.KernelRfl
namespace Go.Proofs.YtaepelipkkmeaaaGreat
/- THE CELL 'sum', in the pinned program and in every row, IS THE sha256 OF THE DUMP (.gsa) THAT YtaepelipkkmeaaaGreatProg.lean LOADS. Nothing in Lean hashes anything: it is a label: what it is worth is what the hold of that sum in a sandbox is worth. -/
noncomputable def Tryz.pinned : Pinned := { name := "ytaepelipkkmeaaagreat", sum := "0aa5e928fa026d43ba282fb123e49897c0bafff6bb0327699ee6706796032b13", checked := Tryz.checked }
namespace Rows
def none {H : Type} : Left H := { results := [], args := [] }

/-- 'scrimlaw10.ScalarNumbers': WHATEVER THE INPUT: true; the input reads as it did. -/
def scalarNumbersSpec : ChangeSpec := { name := "scalarNumbers", fn := fun _ => fun
  | [d1, d2, d3] => { results := [.lit (.bool true)], args := [d1, d2, d3] }
  | _ => none }
def scalarNumbersRow : OpenClaim := { program := "ytaepelipkkmeaaagreat", sum := "0aa5e928fa026d43ba282fb123e49897c0bafff6bb0327699ee6706796032b13", func := "scrim/scrimlaw10.ScalarNumbers", spec := "scalarNumbers", unfollowed := true, recurses := true, named := ["math/bits.overflowError"], apart := false }
def ScalarNumbersSaid : Prop := scalarNumbersRow.holds Tryz.pinned (OpenSpec.ofChange scalarNumbersSpec)

/-- ITS FALSE NEIGHBOUR: 'it returns false'. Refute it at one input. -/
def scalarNumbersWrong : ChangeSpec := { name := "scalarNumbers", fn := fun _ => fun
  | [d1, d2, d3] => { results := [.lit (.bool false)], args := [d1, d2, d3] }
  | _ => none }
def ScalarNumbersWrongFalsely : Prop := scalarNumbersRow.holds Tryz.pinned (OpenSpec.ofChange scalarNumbersWrong)

/-- 'scrimlaw10.ScalarOne': WHATEVER THE INPUT: true; the input reads as it did. -/
def scalarOneSpec : ChangeSpec := { name := "scalarOne", fn := fun _ => fun
  | [d1, d2] => { results := [.lit (.bool true)], args := [d1, d2] }
  | _ => none }
def scalarOneRow : OpenClaim := { program := "ytaepelipkkmeaaagreat", sum := "0aa5e928fa026d43ba282fb123e49897c0bafff6bb0327699ee6706796032b13", func := "scrim/scrimlaw10.ScalarOne", spec := "scalarOne", unfollowed := true, recurses := true, named := ["math/bits.overflowError"], loops := true, apart := false }
def ScalarOneSaid : Prop := scalarOneRow.holds Tryz.pinned (OpenSpec.ofChange scalarOneSpec)

/-- ITS FALSE NEIGHBOUR: 'it returns false'. Refute it at one input. -/
def scalarOneWrong : ChangeSpec := { name := "scalarOne", fn := fun _ => fun
  | [d1, d2] => { results := [.lit (.bool false)], args := [d1, d2] }
  | _ => none }
def ScalarOneWrongFalsely : Prop := scalarOneRow.holds Tryz.pinned (OpenSpec.ofChange scalarOneWrong)

/-- 'scrimlaw10.ScalarTwo': WHATEVER THE INPUT: true; the input reads as it did. -/
def scalarTwoSpec : ChangeSpec := { name := "scalarTwo", fn := fun _ => fun
  | [d1, d2, d3] => { results := [.lit (.bool true)], args := [d1, d2, d3] }
  | _ => none }
def scalarTwoRow : OpenClaim := { program := "ytaepelipkkmeaaagreat", sum := "0aa5e928fa026d43ba282fb123e49897c0bafff6bb0327699ee6706796032b13", func := "scrim/scrimlaw10.ScalarTwo", spec := "scalarTwo", unfollowed := true, recurses := true, named := ["math/bits.overflowError"], loops := true, apart := false }
def ScalarTwoSaid : Prop := scalarTwoRow.holds Tryz.pinned (OpenSpec.ofChange scalarTwoSpec)

/-- ITS FALSE NEIGHBOUR: 'it returns false'. Refute it at one input. -/
def scalarTwoWrong : ChangeSpec := { name := "scalarTwo", fn := fun _ => fun
  | [d1, d2, d3] => { results := [.lit (.bool false)], args := [d1, d2, d3] }
  | _ => none }
def ScalarTwoWrongFalsely : Prop := scalarTwoRow.holds Tryz.pinned (OpenSpec.ofChange scalarTwoWrong)

/-- 'scrimlaw10.ScalarPicks': WHATEVER THE INPUT: true; the input reads as it did. -/
def scalarPicksSpec : ChangeSpec := { name := "scalarPicks", fn := fun _ => fun
  | [d1, d2] => { results := [.lit (.bool true)], args := [d1, d2] }
  | _ => none }
def scalarPicksRow : OpenClaim := { program := "ytaepelipkkmeaaagreat", sum := "0aa5e928fa026d43ba282fb123e49897c0bafff6bb0327699ee6706796032b13", func := "scrim/scrimlaw10.ScalarPicks", spec := "scalarPicks", unfollowed := true, recurses := true, named := ["math/bits.overflowError"], loops := true, apart := false }
def ScalarPicksSaid : Prop := scalarPicksRow.holds Tryz.pinned (OpenSpec.ofChange scalarPicksSpec)

/-- ITS FALSE NEIGHBOUR: 'it returns false'. Refute it at one input. -/
def scalarPicksWrong : ChangeSpec := { name := "scalarPicks", fn := fun _ => fun
  | [d1, d2] => { results := [.lit (.bool false)], args := [d1, d2] }
  | _ => none }
def ScalarPicksWrongFalsely : Prop := scalarPicksRow.holds Tryz.pinned (OpenSpec.ofChange scalarPicksWrong)

/-- 'scrimlaw10.ScalarBlind': WHATEVER THE INPUT: true; the input reads as it did. -/
def scalarBlindSpec : ChangeSpec := { name := "scalarBlind", fn := fun _ => fun
  | [d1, d2, d3, d4, d5, d6] => { results := [.lit (.bool true)], args := [d1, d2, d3, d4, d5, d6] }
  | _ => none }
def scalarBlindRow : OpenClaim := { program := "ytaepelipkkmeaaagreat", sum := "0aa5e928fa026d43ba282fb123e49897c0bafff6bb0327699ee6706796032b13", func := "scrim/scrimlaw10.ScalarBlind", spec := "scalarBlind", unfollowed := true, recurses := true, named := ["math/bits.overflowError"], loops := true, apart := false }
def ScalarBlindSaid : Prop := scalarBlindRow.holds Tryz.pinned (OpenSpec.ofChange scalarBlindSpec)

/-- ITS FALSE NEIGHBOUR: 'it returns false'. Refute it at one input. -/
def scalarBlindWrong : ChangeSpec := { name := "scalarBlind", fn := fun _ => fun
  | [d1, d2, d3, d4, d5, d6] => { results := [.lit (.bool false)], args := [d1, d2, d3, d4, d5, d6] }
  | _ => none }
def ScalarBlindWrongFalsely : Prop := scalarBlindRow.holds Tryz.pinned (OpenSpec.ofChange scalarBlindWrong)

/- THE SECOND FORM. 'bulk': how many values and letters a reading holds, each counted each time it is reached (what is shared counts as often as it is met; a slice's spare places count too). A statement '..UptoSaid' is the law's where the arguments, and the package variables that the reading takes, are together of bulk at most 1048576: NARROWER than '..Said'. Prove '..Said' where nothing that the law and all that it calls make is longer than what came in: it says more and counts as full. Else prove '..UptoSaid'. A law counts once. -/
mutual
def uptoBulk {H : Type} : DataW H → Nat
  | .lit (.string bytes) => bytes.length + 1
  | .lit _ => 1
  | .nil => 1
  | .ptr d => uptoBulk d + 1
  | .slice elems spare => uptoBulkAll elems + uptoBulkAll spare + 1
  | .agg parts => uptoBulkAll parts + 1
  | .iface _ d => uptoBulk d + 1
  | .map entries => uptoBulkEntries entries + 1
  | .held _ => 1
def uptoBulkAll {H : Type} : List (DataW H) → Nat
  | [] => 0
  | d :: r => uptoBulk d + uptoBulkAll r
def uptoBulkEntries {H : Type} : List (Lit × DataW H) → Nat
  | [] => 0
  | x :: r => uptoBulkEntry x + uptoBulkEntries r
def uptoBulkEntry {H : Type} : Lit × DataW H → Nat
  | (.string bytes, d) => bytes.length + uptoBulk d + 1
  | (_, d) => uptoBulk d + 1
 end
def uptoSmall : (H : Type) → List (DataW H) → Bool := fun _ ds => decide (uptoBulkAll ds ≤ 1048576)
def OpenSpec.upto (s : _root_.Go.ChangeSpec) : _root_.Go.OpenSpec := { _root_.Go.OpenSpec.ofChange s with cond := some uptoSmall }

/-- 'scrimlaw10.ScalarNumbers', WHERE WHAT IT READS IS OF BULK AT MOST 1048576: true; the input reads as it did. -/
def scalarNumbersUptoRow : OpenClaim := { program := "ytaepelipkkmeaaagreat", sum := "0aa5e928fa026d43ba282fb123e49897c0bafff6bb0327699ee6706796032b13", func := "scrim/scrimlaw10.ScalarNumbers", spec := "scalarNumbers", unfollowed := true, recurses := true, named := ["math/bits.overflowError"], apart := false, narrowed := true }
def ScalarNumbersUptoSaid : Prop := scalarNumbersUptoRow.holds Tryz.pinned (OpenSpec.upto scalarNumbersSpec)

/-- 'scrimlaw10.ScalarOne', WHERE WHAT IT READS IS OF BULK AT MOST 1048576: true; the input reads as it did. -/
def scalarOneUptoRow : OpenClaim := { program := "ytaepelipkkmeaaagreat", sum := "0aa5e928fa026d43ba282fb123e49897c0bafff6bb0327699ee6706796032b13", func := "scrim/scrimlaw10.ScalarOne", spec := "scalarOne", unfollowed := true, recurses := true, named := ["math/bits.overflowError"], loops := true, apart := false, narrowed := true }
def ScalarOneUptoSaid : Prop := scalarOneUptoRow.holds Tryz.pinned (OpenSpec.upto scalarOneSpec)

/-- 'scrimlaw10.ScalarTwo', WHERE WHAT IT READS IS OF BULK AT MOST 1048576: true; the input reads as it did. -/
def scalarTwoUptoRow : OpenClaim := { program := "ytaepelipkkmeaaagreat", sum := "0aa5e928fa026d43ba282fb123e49897c0bafff6bb0327699ee6706796032b13", func := "scrim/scrimlaw10.ScalarTwo", spec := "scalarTwo", unfollowed := true, recurses := true, named := ["math/bits.overflowError"], loops := true, apart := false, narrowed := true }
def ScalarTwoUptoSaid : Prop := scalarTwoUptoRow.holds Tryz.pinned (OpenSpec.upto scalarTwoSpec)

/-- 'scrimlaw10.ScalarPicks', WHERE WHAT IT READS IS OF BULK AT MOST 1048576: true; the input reads as it did. -/
def scalarPicksUptoRow : OpenClaim := { program := "ytaepelipkkmeaaagreat", sum := "0aa5e928fa026d43ba282fb123e49897c0bafff6bb0327699ee6706796032b13", func := "scrim/scrimlaw10.ScalarPicks", spec := "scalarPicks", unfollowed := true, recurses := true, named := ["math/bits.overflowError"], loops := true, apart := false, narrowed := true }
def ScalarPicksUptoSaid : Prop := scalarPicksUptoRow.holds Tryz.pinned (OpenSpec.upto scalarPicksSpec)

/-- 'scrimlaw10.ScalarBlind', WHERE WHAT IT READS IS OF BULK AT MOST 1048576: true; the input reads as it did. -/
def scalarBlindUptoRow : OpenClaim := { program := "ytaepelipkkmeaaagreat", sum := "0aa5e928fa026d43ba282fb123e49897c0bafff6bb0327699ee6706796032b13", func := "scrim/scrimlaw10.ScalarBlind", spec := "scalarBlind", unfollowed := true, recurses := true, named := ["math/bits.overflowError"], loops := true, apart := false, narrowed := true }
def ScalarBlindUptoSaid : Prop := scalarBlindUptoRow.holds Tryz.pinned (OpenSpec.upto scalarBlindSpec)

end Rows
end Go.Proofs.YtaepelipkkmeaaaGreat
