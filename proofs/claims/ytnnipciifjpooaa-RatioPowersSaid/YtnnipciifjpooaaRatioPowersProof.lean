/-
  scrim/scrimlaw04.RatioPowers, for every input: it answers true, and what was handed in reads as it did. No condition.
-/
import Derived.Test.YtnnipciifjpooaaRows
import Derived.Test.YtnnipciifjpooaaQt
import Derived.Test.YtnnipciifjpooaaIn
import Derived.WalkKit
import Derived.ProofKit
import Derived.OpenShut
import Derived.ShutString
import Derived.ChangeOld
import Derived.Below
import Derived.Lib.SmallJoins
namespace Go.Proofs.Ytnnipciifjpooaa.ratioPowers
open Go.ChangeShapes Go.WideShapes Go.ChangeAt Go.RowKit Go.Joins
open Go.ChangeMaps (open_string shut_string)
set_option linter.unusedVariables false

theorem own : ownKnob Try.prog.godebug = none := by kernel_rfl
theorem laidOut : laidOutB Try.prog = true := by kernel_rfl

theorem walk_any (b0 : Bool) (a0 : Option Addr) (len0 cap0 : Nat) (zs0 : List Int) (a0y : Option Addr) (len0y cap0y : Nat) (zs0y : List Int) (b1 : Bool) (a1 : Option Addr) (len1 cap1 : Nat) (zs1 : List Int) (a1y : Option Addr) (len1y cap1y : Nat) (zs1y : List Int) (n2 : Int) (W : World)
    (w0 : (a0 = none ∧ len0 = 0 ∧ cap0 = 0 ∧ zs0 = []) ∨ ∃ x, a0 = some x ∧ len0 ≤ cap0 ∧ cap0 ≤ maxLen ∧ zs0.length = cap0 ∧ (∀ i, i < zs0.length → W.cell? (x.add i) = some (.int .u32 (zs0.getD i 0))) ∧ ∀ n ∈ zs0, (Lit.int .u32 n).wf = true)
    (w0y : (a0y = none ∧ len0y = 0 ∧ cap0y = 0 ∧ zs0y = []) ∨ ∃ x, a0y = some x ∧ len0y ≤ cap0y ∧ cap0y ≤ maxLen ∧ zs0y.length = cap0y ∧ (∀ i, i < zs0y.length → W.cell? (x.add i) = some (.int .u32 (zs0y.getD i 0))) ∧ ∀ n ∈ zs0y, (Lit.int .u32 n).wf = true)
    (w1 : (a1 = none ∧ len1 = 0 ∧ cap1 = 0 ∧ zs1 = []) ∨ ∃ x, a1 = some x ∧ len1 ≤ cap1 ∧ cap1 ≤ maxLen ∧ zs1.length = cap1 ∧ (∀ i, i < zs1.length → W.cell? (x.add i) = some (.int .u32 (zs1.getD i 0))) ∧ ∀ n ∈ zs1, (Lit.int .u32 n).wf = true)
    (w1y : (a1y = none ∧ len1y = 0 ∧ cap1y = 0 ∧ zs1y = []) ∨ ∃ x, a1y = some x ∧ len1y ≤ cap1y ∧ cap1y ≤ maxLen ∧ zs1y.length = cap1y ∧ (∀ i, i < zs1y.length → W.cell? (x.add i) = some (.int .u32 (zs1y.getD i 0))) ∧ ∀ n ∈ zs1y, (Lit.int .u32 n).wf = true)
    (w2 : (Lit.int .i64 n2).wf = true) :
    Calls Try.prog 5 #[.agg #[.bool b0, .slice a0 len0 cap0, .slice a0y len0y cap0y], .agg #[.bool b1, .slice a1 len1 cap1, .slice a1y len1y cap1y], .int .i64 n2] W fun e w' => e = .returned (.bool true) ∧ Below W.heap.size W w' := by
  obtain ⟨f0, h1_0, h2_0, h3_0, h4_0⟩ := row_in W a0 len0 cap0 zs0 w0
  obtain ⟨f0y, h1_0y, h2_0y, h3_0y, h4_0y⟩ := row_in W a0y len0y cap0y zs0y w0y
  obtain ⟨f1, h1_1, h2_1, h3_1, h4_1⟩ := row_in W a1 len1 cap1 zs1 w1
  obtain ⟨f1y, h1_1y, h2_1y, h3_1y, h4_1y⟩ := row_in W a1y len1y cap1y zs1y w1y
  exact powers4_walk b0 a0 a0y len0 cap0 len0y cap0y f0 f0y b1 a1 a1y len1 cap1 len1y cap1y f1 f1y n2 W ⟨h1_0, h2_0, h3_0, h4_0⟩ ⟨h1_0y, h2_0y, h3_0y, h4_0y⟩ ⟨h1_1, h2_1, h3_1, h4_1⟩ ⟨h1_1y, h2_1y, h3_1y, h4_1y⟩ (by have := bounds_i64 w2; omega) (by have := bounds_i64 w2; omega)

set_option maxRecDepth 100000 in
theorem lifted (os : Os) (started : os.Started) (H : Type) (enc : TypeId × Value → H) :
    ReturnsInHanded {} Try.checked os 5 .any (Rows.ratioPowersSpec.pre6 enc Try.prog Try.f5 Rows.ratioPowersRow.domain false) (Rows.ratioPowersSpec.post enc Try.prog Try.f5 false true false false) := by
  refine returnsInHanded_of_change (C := Try.checked) own started (by kernel_rfl) Try.func5
    (ChangeSpec.witness6 (enc := enc) (C := Try.checked) false ⟨#[], #[.agg #[.bool false, .slice none 0 0, .slice none 0 0], .agg #[.bool false, .slice none 0 0, .slice none 0 0], .int .i64 0], []⟩ 8 (by kernel_rfl) (by kernel_rfl) (by kernel_rfl) (by kernel_rfl)) ?_
  intro W base args ds gs before hval0 hW hcnd _
  have hval : ∀ (j : Nat) t v, Try.f5.params[j]? = some t → args[j]? = some v → Value.okWide Try.prog W .any base t v := hval0
  have hW' := hW
  obtain ⟨p, q, hA0, hV, rfl, hfz, hnd⟩ := hW
  have hA : DataW.TrodAll enc Try.prog W 0 (fun _ => true) true Try.f5.params.toList args.toList ds p := hA0
  rw [Try.params5] at hA hval
  obtain ⟨v0, vs0, d0, ds0, p0, q0, hargs, rfl, rfl, h0, r0⟩ := trodAll_cons hA
  obtain ⟨v1, vs1, d1, ds1, p1, q1, rfl, rfl, rfl, h1, r1⟩ := trodAll_cons r0
  obtain ⟨v2, vs2, d2, ds2, p2, q2, rfl, rfl, rfl, h2, r2⟩ := trodAll_cons r1
  obtain ⟨rfl, rfl, rfl⟩ := trodAll_nil r2
  obtain rfl : args = #[v0, v1, v2] := by cases args; simp_all
  obtain ⟨rfl, rfl⟩ := trodVars_none hV
  have k0 := h0
  have lt0 : ∀ x ∈ p0, x.block < W.heap.size := by obtain ⟨m, hm⟩ := k0; exact DataW.trod_lt m _ _ _ hm
  obtain ⟨b0, c10, c20, rfl, ⟨a0, len0, cap0, z0, rfl, w0⟩, ⟨a0y, len0y, cap0y, z0y, rfl, w0y⟩⟩ : ∃ b c1 c2, v0 = .agg #[.bool b, c1, c2] ∧ (∃ a len cap zs, c1 = .slice a len cap ∧ ((a = none ∧ len = 0 ∧ cap = 0 ∧ zs = []) ∨ ∃ x, a = some x ∧ len ≤ cap ∧ cap ≤ maxLen ∧ zs.length = cap ∧ (∀ i, i < zs.length → W.cell? (x.add i) = some (.int .u32 (zs.getD i 0))) ∧ ∀ n ∈ zs, (Lit.int .u32 n).wf = true)) ∧ (∃ a len cap zs, c2 = .slice a len cap ∧ ((a = none ∧ len = 0 ∧ cap = 0 ∧ zs = []) ∨ ∃ x, a = some x ∧ len ≤ cap ∧ cap ≤ maxLen ∧ zs.length = cap ∧ (∀ i, i < zs.length → W.cell? (x.add i) = some (.int .u32 (zs.getD i 0))) ∧ ∀ n ∈ zs, (Lit.int .u32 n).wf = true)) := by
    obtain ⟨c0, c1, c2, y0, y1, y2, m, hv, _, _, hy0, hy1, hy2⟩ := open_agg3 Try.underlying24 (by kernel_rfl) (by kernel_rfl) (hval 0 24 v0 rfl rfl) h0
    obtain ⟨b, e0, _⟩ := DataW.trod_bool Try.underlying4 hy0
    simp at e0
    refine ⟨b, c1, c2, by rw [hv, e0], ?_, ?_⟩
    · rcases open_ints Try.underlying22 Try.underlying47 (by kernel_rfl) hy1 with ⟨hcs, _⟩ | ⟨x, l, c, zs, hcs, _, hl, hm, hz, _, hcell, hwz⟩
      · simp at hcs
        exact ⟨none, 0, 0, [], hcs, .inl ⟨rfl, rfl, rfl, rfl⟩⟩
      · simp at hcs
        exact ⟨_, l, c, zs, hcs, .inr ⟨x, rfl, hl, hm, by simpa using hz, hcell, hwz⟩⟩
    · rcases open_ints Try.underlying22 Try.underlying47 (by kernel_rfl) hy2 with ⟨hcs, _⟩ | ⟨x, l, c, zs, hcs, _, hl, hm, hz, _, hcell, hwz⟩
      · simp at hcs
        exact ⟨none, 0, 0, [], hcs, .inl ⟨rfl, rfl, rfl, rfl⟩⟩
      · simp at hcs
        exact ⟨_, l, c, zs, hcs, .inr ⟨x, rfl, hl, hm, by simpa using hz, hcell, hwz⟩⟩
  have k1 := h1
  have lt1 : ∀ x ∈ p1, x.block < W.heap.size := by obtain ⟨m, hm⟩ := k1; exact DataW.trod_lt m _ _ _ hm
  obtain ⟨b1, c11, c21, rfl, ⟨a1, len1, cap1, z1, rfl, w1⟩, ⟨a1y, len1y, cap1y, z1y, rfl, w1y⟩⟩ : ∃ b c1 c2, v1 = .agg #[.bool b, c1, c2] ∧ (∃ a len cap zs, c1 = .slice a len cap ∧ ((a = none ∧ len = 0 ∧ cap = 0 ∧ zs = []) ∨ ∃ x, a = some x ∧ len ≤ cap ∧ cap ≤ maxLen ∧ zs.length = cap ∧ (∀ i, i < zs.length → W.cell? (x.add i) = some (.int .u32 (zs.getD i 0))) ∧ ∀ n ∈ zs, (Lit.int .u32 n).wf = true)) ∧ (∃ a len cap zs, c2 = .slice a len cap ∧ ((a = none ∧ len = 0 ∧ cap = 0 ∧ zs = []) ∨ ∃ x, a = some x ∧ len ≤ cap ∧ cap ≤ maxLen ∧ zs.length = cap ∧ (∀ i, i < zs.length → W.cell? (x.add i) = some (.int .u32 (zs.getD i 0))) ∧ ∀ n ∈ zs, (Lit.int .u32 n).wf = true)) := by
    obtain ⟨c0, c1, c2, y0, y1, y2, m, hv, _, _, hy0, hy1, hy2⟩ := open_agg3 Try.underlying24 (by kernel_rfl) (by kernel_rfl) (hval 1 24 v1 rfl rfl) h1
    obtain ⟨b, e0, _⟩ := DataW.trod_bool Try.underlying4 hy0
    simp at e0
    refine ⟨b, c1, c2, by rw [hv, e0], ?_, ?_⟩
    · rcases open_ints Try.underlying22 Try.underlying47 (by kernel_rfl) hy1 with ⟨hcs, _⟩ | ⟨x, l, c, zs, hcs, _, hl, hm, hz, _, hcell, hwz⟩
      · simp at hcs
        exact ⟨none, 0, 0, [], hcs, .inl ⟨rfl, rfl, rfl, rfl⟩⟩
      · simp at hcs
        exact ⟨_, l, c, zs, hcs, .inr ⟨x, rfl, hl, hm, by simpa using hz, hcell, hwz⟩⟩
    · rcases open_ints Try.underlying22 Try.underlying47 (by kernel_rfl) hy2 with ⟨hcs, _⟩ | ⟨x, l, c, zs, hcs, _, hl, hm, hz, _, hcell, hwz⟩
      · simp at hcs
        exact ⟨none, 0, 0, [], hcs, .inl ⟨rfl, rfl, rfl, rfl⟩⟩
      · simp at hcs
        exact ⟨_, l, c, zs, hcs, .inr ⟨x, rfl, hl, hm, by simpa using hz, hcell, hwz⟩⟩
  obtain ⟨n2, rfl, rfl, rfl, w2⟩ := open_int Try.underlying3 (hval 2 3 v2 rfl rfl) h2
  clear hA0 hval0
  refine (walk_any b0 a0 len0 cap0 z0 a0y len0y cap0y z0y b1 a1 len1 cap1 z1 a1y len1y cap1y z1y n2 W w0 w0y w1 w1y w2).mono fun e W' ⟨he, bel⟩ => ?_
  subst he
  exact ⟨_, rfl, _, _, _, [], _, [], hW', trodAll_mk1 (shut_bool Try.underlying4 _), (trodAll_cons_mk (Below.trod laidOut (by kernel_rfl) (of_decide_eq_true (by kernel_rfl)) k0 bel lt0) (trodAll_cons_mk (Below.trod laidOut (by kernel_rfl) (of_decide_eq_true (by kernel_rfl)) k1 bel lt1) (trodAll_cons_mk (shut_int Try.underlying3 w2) trodAll_mk0))), rfl, bel.frame _, fun h => by cases h⟩

theorem over : Rows.ratioPowersRow.holds Try.pinned (OpenSpec.ofChange Rows.ratioPowersSpec) :=
  OpenClaim.holds_of_wide 5 Try.f5 rfl rfl rfl rfl rfl rfl rfl ⟨rfl, rfl, rfl, rfl, rfl⟩ rfl rfl rfl rfl rfl (by kernel_rfl) Try.func5 (by kernel_rfl)
    (of_decide_eq_true (by kernel_rfl)) (by unfold Func.isWrapper; first | (rw [if_pos (by decide +kernel)]; kernel_rfl) | (rw [if_neg (by decide +kernel)]; exact ⟨rfl, rfl⟩))
    (fun os started H enc _ => lifted os started H enc)

/-- The statement. -/
theorem proved : Rows.RatioPowersSaid := over
#print axioms proved
end Go.Proofs.Ytnnipciifjpooaa.ratioPowers
