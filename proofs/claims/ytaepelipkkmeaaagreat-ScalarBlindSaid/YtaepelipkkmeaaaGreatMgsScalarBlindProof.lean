/-
  scrim/scrimlaw10.ScalarBlind, for every input: it answers true, and what was handed in reads as it did. No condition.
-/
import Derived.Test.YtaepelipkkmeaaaGreatMgsA
import Derived.Test.YtaepelipkkmeaaaGreatMgsB
import Derived.Test.YtaepelipkkmeaaaGreatMgsC
import Derived.Test.YtaepelipkkmeaaaGreatMgsD
import Derived.Test.YtaepelipkkmeaaaGreatMgsE
import Derived.Test.YtaepelipkkmeaaaGreatMgsF
import Derived.Test.YtaepelipkkmeaaaGreatMgsG
import Derived.Test.YtaepelipkkmeaaaGreatMgsH
import Derived.Test.YtaepelipkkmeaaaGreatMgsI
import Derived.Test.YtaepelipkkmeaaaGreatMgsJ
import Derived.Test.YtaepelipkkmeaaaGreatMgsK
import Derived.Test.YtaepelipkkmeaaaGreatMgsScalarBlind1
import Derived.Test.YtaepelipkkmeaaaGreatMgsScalarBlind2
import Derived.Test.YtaepelipkkmeaaaGreatMgsScalarBlind3
import Derived.Test.YtaepelipkkmeaaaGreatMgsScalarBlind4
import Derived.Test.YtaepelipkkmeaaaGreatRows
import Derived.WalkKit
import Derived.ProofKit
import Derived.OpenShut
import Derived.ShutString
import Derived.ChangeOld
import Derived.Below
import Derived.Lib.SmallJoins
import Derived.SizedLaws
import Derived.Laws.CopyOwn
import Derived.WalkSpells
import Derived.WalkLawsBesides
import Derived.Lib.Hide
import Derived.Laws.AppendOwn
import Derived.Laws.OwnMore
import Derived.BigQuiet
import Derived.Deep.CutRange
import Derived.Deep.RegionHeld3
import Derived.Deep.RegionLaw
import Derived.Deep.AppendLies
import Derived.Deep.RegionWith
import Derived.Lib.Small
import Derived.Lib.Walk
import Derived.Lib.BitFns
import Derived.Deep.QuietTactic
import Derived.Deep.LoopGhost
import Derived.Lib.SliceRun
import Derived.Deep.DrawnRows
namespace Go.Proofs.YtaepelipkkmeaaaGreat.scalarBlind

open Go.ChangeShapes Go.WideShapes Go.ChangeAt Go.RowKit Go.Joins

open Go.ChangeMaps (open_string shut_string)

set_option linter.unusedVariables false

theorem own : ownKnob Tryz.prog.godebug = none := by kernel_rfl

theorem laidOut : laidOutB Tryz.prog = true := by kernel_rfl

theorem walk_any (n0 : Int) (A1 : Tree) (x1_0 x1_1 x1_2 : Value) (A2 : Tree) (x2_0 x2_1 x2_2 : Value) (A3 : Tree) (x3_0 x3_1 x3_2 : Value) (A4 : Tree) (x4_0 x4_1 x4_2 : Value) (n5 : Int) (W : World)
    (w0 : (Lit.int .i64 n0).wf = true)
    (w1 : ArrP W A1 x1_0 x1_1 x1_2)
    (w2 : ArrP W A2 x2_0 x2_1 x2_2)
    (w3 : ArrP W A3 x3_0 x3_1 x3_2)
    (w4 : ArrP W A4 x4_0 x4_1 x4_2)
    (w5 : (Lit.int .u64 n5).wf = true) :
    Calls Tryz.prog 7 #[.int .i64 n0, .agg #[x1_0, x1_1, x1_2], .agg #[x2_0, x2_1, x2_2], .agg #[x3_0, x3_1, x3_2], .agg #[x4_0, x4_1, x4_2], .int .u64 n5] W fun e w' => e = .returned (.bool true) ∧ Below W.heap.size W w' := by
  obtain ⟨l5, hl5, rfl⟩ := label_in w5
  exact blind10_walk awake10C oneSC twoSC n0 A1 A2 A3 A4 l5 x1_0 x1_1 x1_2 x2_0 x2_1 x2_2 x3_0 x3_1 x3_2 x4_0 x4_1 x4_2 W (bounds_i64 w0) w1 w2 w3 w4 hl5

set_option maxRecDepth 100000 in
theorem lifted (os : Os) (started : os.Started) (H : Type) (enc : TypeId × Value → H) :
    ReturnsInHanded {} Tryz.checked os 7 .any (Rows.scalarBlindSpec.pre6 enc Tryz.prog Tryz.f7 Rows.scalarBlindRow.domain false) (Rows.scalarBlindSpec.post enc Tryz.prog Tryz.f7 false true false false) := by
  refine returnsInHanded_of_change_sized (C := Tryz.checked) own started (by kernel_rfl) Tryz.func7
    (ChangeSpec.witness6 (enc := enc) (C := Tryz.checked) false ⟨#[], #[.int .i64 0, .agg #[.int .u64 0, .slice none 0 0, .slice none 0 0], .agg #[.int .u64 0, .slice none 0 0, .slice none 0 0], .agg #[.int .u64 0, .slice none 0 0, .slice none 0 0], .agg #[.int .u64 0, .slice none 0 0, .slice none 0 0], .int .u64 0], []⟩ 8 (by kernel_rfl) (by kernel_rfl) (by kernel_rfl) (by kernel_rfl)) ?_
  intro W base args ds gs before hval0 hW hcnd hsz _
  have hval : ∀ (j : Nat) t v, Tryz.f7.params[j]? = some t → args[j]? = some v → Value.okWide Tryz.prog W .any base t v := hval0
  have hW' := hW
  obtain ⟨p, q, hA0, hV, rfl, hfz, hnd⟩ := hW
  have hA : DataW.TrodAll enc Tryz.prog W 0 (fun _ => true) true Tryz.f7.params.toList args.toList ds p := hA0
  rw [Tryz.params7] at hA hval hsz
  obtain ⟨v0, vs0, d0, ds0, p0, q0, hargs, rfl, rfl, h0, r0⟩ := trodAll_cons hA
  obtain ⟨v1, vs1, d1, ds1, p1, q1, rfl, rfl, rfl, h1, r1⟩ := trodAll_cons r0
  obtain ⟨v2, vs2, d2, ds2, p2, q2, rfl, rfl, rfl, h2, r2⟩ := trodAll_cons r1
  obtain ⟨v3, vs3, d3, ds3, p3, q3, rfl, rfl, rfl, h3, r3⟩ := trodAll_cons r2
  obtain ⟨v4, vs4, d4, ds4, p4, q4, rfl, rfl, rfl, h4, r4⟩ := trodAll_cons r3
  obtain ⟨v5, vs5, d5, ds5, p5, q5, rfl, rfl, rfl, h5, r5⟩ := trodAll_cons r4
  obtain ⟨rfl, rfl, rfl⟩ := trodAll_nil r5
  obtain rfl : args = #[v0, v1, v2, v3, v4, v5] := by cases args; simp_all
  obtain ⟨rfl, rfl⟩ := trodVars_none hV
  obtain ⟨n0, rfl, rfl, rfl, w0⟩ := open_int Tryz.underlying3 (hval 0 3 v0 rfl rfl) h0
  obtain ⟨cs1, rfl, _⟩ := okWide_struct Tryz.underlying45 (hval 1 45 v1 rfl rfl)
  have k1 := h1
  have lt1 : ∀ x ∈ p1, x.block < W.heap.size := by obtain ⟨m, hm⟩ := k1; exact DataW.trod_lt m _ _ _ hm
  obtain ⟨A1, x1_0, x1_1, x1_2, ce1, w1⟩ : ∃ A c0 c1 c2, cs1 = #[c0, c1, c2] ∧ ArrP W A c0 c1 c2 := by
    obtain ⟨fuel, hf⟩ := h1
    obtain ⟨A, c0, c1, c2, e, hA⟩ := arr_in fuel _ _ hf fun k hk => by simpa using List.all_eq_true.1 hsz k (DataW.weights_mem_each (j := 1) rfl rfl k hk)
    exact ⟨A, c0, c1, c2, by cases cs1; simp_all [Value.cells], hA⟩
  subst ce1
  obtain ⟨cs2, rfl, _⟩ := okWide_struct Tryz.underlying45 (hval 2 45 v2 rfl rfl)
  have k2 := h2
  have lt2 : ∀ x ∈ p2, x.block < W.heap.size := by obtain ⟨m, hm⟩ := k2; exact DataW.trod_lt m _ _ _ hm
  obtain ⟨A2, x2_0, x2_1, x2_2, ce2, w2⟩ : ∃ A c0 c1 c2, cs2 = #[c0, c1, c2] ∧ ArrP W A c0 c1 c2 := by
    obtain ⟨fuel, hf⟩ := h2
    obtain ⟨A, c0, c1, c2, e, hA⟩ := arr_in fuel _ _ hf fun k hk => by simpa using List.all_eq_true.1 hsz k (DataW.weights_mem_each (j := 2) rfl rfl k hk)
    exact ⟨A, c0, c1, c2, by cases cs2; simp_all [Value.cells], hA⟩
  subst ce2
  obtain ⟨cs3, rfl, _⟩ := okWide_struct Tryz.underlying45 (hval 3 45 v3 rfl rfl)
  have k3 := h3
  have lt3 : ∀ x ∈ p3, x.block < W.heap.size := by obtain ⟨m, hm⟩ := k3; exact DataW.trod_lt m _ _ _ hm
  obtain ⟨A3, x3_0, x3_1, x3_2, ce3, w3⟩ : ∃ A c0 c1 c2, cs3 = #[c0, c1, c2] ∧ ArrP W A c0 c1 c2 := by
    obtain ⟨fuel, hf⟩ := h3
    obtain ⟨A, c0, c1, c2, e, hA⟩ := arr_in fuel _ _ hf fun k hk => by simpa using List.all_eq_true.1 hsz k (DataW.weights_mem_each (j := 3) rfl rfl k hk)
    exact ⟨A, c0, c1, c2, by cases cs3; simp_all [Value.cells], hA⟩
  subst ce3
  obtain ⟨cs4, rfl, _⟩ := okWide_struct Tryz.underlying45 (hval 4 45 v4 rfl rfl)
  have k4 := h4
  have lt4 : ∀ x ∈ p4, x.block < W.heap.size := by obtain ⟨m, hm⟩ := k4; exact DataW.trod_lt m _ _ _ hm
  obtain ⟨A4, x4_0, x4_1, x4_2, ce4, w4⟩ : ∃ A c0 c1 c2, cs4 = #[c0, c1, c2] ∧ ArrP W A c0 c1 c2 := by
    obtain ⟨fuel, hf⟩ := h4
    obtain ⟨A, c0, c1, c2, e, hA⟩ := arr_in fuel _ _ hf fun k hk => by simpa using List.all_eq_true.1 hsz k (DataW.weights_mem_each (j := 4) rfl rfl k hk)
    exact ⟨A, c0, c1, c2, by cases cs4; simp_all [Value.cells], hA⟩
  subst ce4
  obtain ⟨n5, rfl, rfl, rfl, w5⟩ := open_int Tryz.underlying42 (hval 5 42 v5 rfl rfl) h5
  clear hA0 hval0
  refine (walk_any n0 A1 x1_0 x1_1 x1_2 A2 x2_0 x2_1 x2_2 A3 x3_0 x3_1 x3_2 A4 x4_0 x4_1 x4_2 n5 W w0 w1 w2 w3 w4 w5).mono fun e W' ⟨he, bel⟩ => ?_
  subst he
  exact ⟨_, rfl, _, _, _, [], _, [], hW', trodAll_mk1 (shut_bool Tryz.underlying4 _), (trodAll_cons_mk (shut_int Tryz.underlying3 w0) (trodAll_cons_mk (Below.trod laidOut (by kernel_rfl) (of_decide_eq_true (by kernel_rfl)) k1 bel lt1) (trodAll_cons_mk (Below.trod laidOut (by kernel_rfl) (of_decide_eq_true (by kernel_rfl)) k2 bel lt2) (trodAll_cons_mk (Below.trod laidOut (by kernel_rfl) (of_decide_eq_true (by kernel_rfl)) k3 bel lt3) (trodAll_cons_mk (Below.trod laidOut (by kernel_rfl) (of_decide_eq_true (by kernel_rfl)) k4 bel lt4) (trodAll_cons_mk (shut_int Tryz.underlying42 w5) trodAll_mk0)))))), rfl, bel.frame _, fun h => by cases h⟩

theorem over : Rows.scalarBlindRow.holds Tryz.pinned (OpenSpec.ofChange Rows.scalarBlindSpec) :=
  OpenClaim.holds_of_wide 7 Tryz.f7 rfl rfl rfl rfl rfl rfl rfl ⟨rfl, rfl, rfl, rfl, rfl⟩ rfl rfl rfl rfl rfl (by kernel_rfl) Tryz.func7 (by kernel_rfl)
    (of_decide_eq_true (by kernel_rfl)) (by unfold Func.isWrapper; first | (rw [if_pos (by decide +kernel)]; kernel_rfl) | (rw [if_neg (by decide +kernel)]; exact ⟨rfl, rfl⟩))
    (fun os started H enc _ => lifted os started H enc)

/-- The statement. -/
theorem proved : Rows.ScalarBlindSaid := over
#print axioms proved

end Go.Proofs.YtaepelipkkmeaaaGreat.scalarBlind
