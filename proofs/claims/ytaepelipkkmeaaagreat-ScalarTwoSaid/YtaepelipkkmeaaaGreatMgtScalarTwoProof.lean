/-
  scrim/scrimlaw10.ScalarTwo, for every input: it answers true, and what was handed in reads as it did. No condition.
-/
import Derived.Test.YtaepelipkkmeaaaGreatMgtA
import Derived.Test.YtaepelipkkmeaaaGreatMgtB
import Derived.Test.YtaepelipkkmeaaaGreatMgtC
import Derived.Test.YtaepelipkkmeaaaGreatMgtD
import Derived.Test.YtaepelipkkmeaaaGreatMgtE
import Derived.Test.YtaepelipkkmeaaaGreatMgtF
import Derived.Test.YtaepelipkkmeaaaGreatMgtG
import Derived.Test.YtaepelipkkmeaaaGreatMgtH
import Derived.Test.YtaepelipkkmeaaaGreatMgtI
import Derived.Test.YtaepelipkkmeaaaGreatMgtJ
import Derived.Test.YtaepelipkkmeaaaGreatMgtScalarTwo1
import Derived.Test.YtaepelipkkmeaaaGreatMgtScalarTwo2
import Derived.Test.YtaepelipkkmeaaaGreatMgtScalarTwo3
import Derived.Test.YtaepelipkkmeaaaGreatMgtScalarTwo4
import Derived.Test.YtaepelipkkmeaaaGreatRows
import Derived.WalkKit
import Derived.ProofKit
import Derived.OpenShut
import Derived.ShutString
import Derived.ChangeOld
import Derived.Below
import Derived.Lib.SmallJoins
import Derived.SizedLaws
import Derived.Deep.LoopGhost
import Derived.Lib.BitFns
import Derived.Laws.AppendOwn
import Derived.BigQuiet
import Derived.Deep.AppendLies
import Derived.Deep.RegionHeld3
import Derived.Deep.CutRange
import Derived.Deep.DrawnRows
import Derived.Laws.OwnMore
import Derived.Lib.SliceRun
import Derived.Deep.RegionWith
import Derived.WalkSpells
import Derived.WalkLawsBesides
import Derived.Lib.Hide
import Derived.Laws.CopyOwn
import Derived.Deep.RegionLaw
import Derived.Lib.Small
import Derived.Lib.Walk
import Derived.Deep.QuietTactic
set_option maxRecDepth 20000
set_option maxHeartbeats 16000000
namespace Go.Proofs.YtaepelipkkmeaaaGreat.scalarTwo
open Go.ChangeShapes Go.WideShapes Go.ChangeAt Go.RowKit Go.Joins
open Go.ChangeMaps (open_string shut_string)
set_option linter.unusedVariables false
theorem own : ownKnob Tryz.prog.godebug = none := by kernel_rfl
theorem laidOut : laidOutB Tryz.prog = true := by kernel_rfl
theorem walk_any (n0 : Int) (A1 : Tree) (x1_0 x1_1 x1_2 : Value) (A2 : Tree) (x2_0 x2_1 x2_2 : Value) (W : World)
  (w0 : (Lit.int .i64 n0).wf = true)
  (w1 : ArrP W A1 x1_0 x1_1 x1_2)
  (w2 : ArrP W A2 x2_0 x2_1 x2_2) :
  Calls Tryz.prog 5 #[.int .i64 n0, .agg #[x1_0, x1_1, x1_2], .agg #[x2_0, x2_1, x2_2]] W fun e w' => e = .returned (.bool true) ∧ Below W.heap.size W w' := by
 exact two10_walk awake10C twoSC conformC n0 A1 A2 x1_0 x1_1 x1_2 x2_0 x2_1 x2_2 W (bounds_i64 w0) w1 w2
set_option maxRecDepth 100000 in
theorem lifted (os : Os) (started : os.Started) (H : Type) (enc : TypeId × Value → H) :
  ReturnsInHanded {} Tryz.checked os 5 .any (Rows.scalarTwoSpec.pre6 enc Tryz.prog Tryz.f5 Rows.scalarTwoRow.domain false) (Rows.scalarTwoSpec.post enc Tryz.prog Tryz.f5 false true false false) := by
 refine returnsInHanded_of_change_sized (C := Tryz.checked) own started (by kernel_rfl) Tryz.func5
  (ChangeSpec.witness6 (enc := enc) (C := Tryz.checked) false ⟨#[], #[.int .i64 0, .agg #[.int .u64 0, .slice none 0 0, .slice none 0 0], .agg #[.int .u64 0, .slice none 0 0, .slice none 0 0]], []⟩ 8 (by kernel_rfl) (by kernel_rfl) (by kernel_rfl) (by kernel_rfl)) ?_
 intro W base args ds gs before hval0 hW hcnd hsz _
 have hval : ∀ (j : Nat) t v, Tryz.f5.params[j]? = some t → args[j]? = some v → Value.okWide Tryz.prog W .any base t v := hval0
 have hW' := hW
 obtain ⟨p, q, hA0, hV, rfl, hfz, hnd⟩ := hW
 have hA : DataW.TrodAll enc Tryz.prog W 0 (fun _ => true) true Tryz.f5.params.toList args.toList ds p := hA0
 rw [Tryz.params5] at hA hval hsz
 obtain ⟨v0, vs0, d0, ds0, p0, q0, hargs, rfl, rfl, h0, r0⟩ := trodAll_cons hA
 obtain ⟨v1, vs1, d1, ds1, p1, q1, rfl, rfl, rfl, h1, r1⟩ := trodAll_cons r0
 obtain ⟨v2, vs2, d2, ds2, p2, q2, rfl, rfl, rfl, h2, r2⟩ := trodAll_cons r1
 obtain ⟨rfl, rfl, rfl⟩ := trodAll_nil r2
 obtain rfl : args = #[v0, v1, v2] := by cases args; simp_all
 obtain ⟨rfl, rfl⟩ := trodVars_none hV
 obtain ⟨n0, rfl, rfl, rfl, w0⟩ := open_int Tryz.underlying3 (hval 0 3 v0 rfl rfl) h0
 obtain ⟨cs1, rfl, _⟩ := okWide_struct Tryz.underlying45 (hval 1 45 v1 rfl rfl)
 have k1 := h1
 have lt1 : ∀ x ∈ p1, x.block < W.heap.size := by obtain ⟨m, hm⟩ := k1; exact DataW.trod_lt m _ _ _ hm
 obtain ⟨A1, x1_0, x1_1, x1_2, ce1, w1⟩ : ∃ A c0 c1 c2, cs1 = #[c0, c1, c2] ∧ ArrP W A c0 c1 c2 := by
  obtain ⟨fuel, hf⟩ := h1
  obtain ⟨A, c0, c1, c2, e, hA⟩ := arr_in fuel _ _ hf fun k hk => by simpa using List.all_eq_true.1 hsz k (DataW.weights_mem_each (j := 1) rfl rfl k hk)
  exact ⟨A, c0, c1, c2, by cases cs1; simp_all [Value.cells], hA⟩
 subst ce1
 obtain ⟨cs2, rfl, _⟩ := okWide_struct Tryz.underlying45 (hval 2 45 v2 rfl rfl)
 have k2 := h2
 have lt2 : ∀ x ∈ p2, x.block < W.heap.size := by obtain ⟨m, hm⟩ := k2; exact DataW.trod_lt m _ _ _ hm
 obtain ⟨A2, x2_0, x2_1, x2_2, ce2, w2⟩ : ∃ A c0 c1 c2, cs2 = #[c0, c1, c2] ∧ ArrP W A c0 c1 c2 := by
  obtain ⟨fuel, hf⟩ := h2
  obtain ⟨A, c0, c1, c2, e, hA⟩ := arr_in fuel _ _ hf fun k hk => by simpa using List.all_eq_true.1 hsz k (DataW.weights_mem_each (j := 2) rfl rfl k hk)
  exact ⟨A, c0, c1, c2, by cases cs2; simp_all [Value.cells], hA⟩
 subst ce2
 clear hA0 hval0
 refine (walk_any n0 A1 x1_0 x1_1 x1_2 A2 x2_0 x2_1 x2_2 W w0 w1 w2).mono fun e W' ⟨he, bel⟩ => ?_
 subst he
 exact ⟨_, rfl, _, _, _, [], _, [], hW', trodAll_mk1 (shut_bool Tryz.underlying4 _), (trodAll_cons_mk (shut_int Tryz.underlying3 w0) (trodAll_cons_mk (Below.trod laidOut (by kernel_rfl) (of_decide_eq_true (by kernel_rfl)) k1 bel lt1) (trodAll_cons_mk (Below.trod laidOut (by kernel_rfl) (of_decide_eq_true (by kernel_rfl)) k2 bel lt2) trodAll_mk0))), rfl, bel.frame _, fun h => by cases h⟩
theorem over : Rows.scalarTwoRow.holds Tryz.pinned (OpenSpec.ofChange Rows.scalarTwoSpec) :=
 OpenClaim.holds_of_wide 5 Tryz.f5 rfl rfl rfl rfl rfl rfl rfl ⟨rfl, rfl, rfl, rfl, rfl⟩ rfl rfl rfl rfl rfl (by kernel_rfl) Tryz.func5 (by kernel_rfl)
  (of_decide_eq_true (by kernel_rfl)) (by unfold Func.isWrapper; first | (rw [if_pos (by decide +kernel)]; kernel_rfl) | (rw [if_neg (by decide +kernel)]; exact ⟨rfl, rfl⟩))
  (fun os started H enc _ => lifted os started H enc)
theorem proved : Rows.ScalarTwoSaid := over
#print axioms proved
end Go.Proofs.YtaepelipkkmeaaaGreat.scalarTwo
