/-
  scrim/scrimlaw05.DigitsPrints, for every input: it answers true, and what was handed in reads as it did; the row and its tied card. No condition but that package unicode/utf8's tables are as the program's text lays them.
-/
import Derived.Test.YtokdaagjkhkinaaGreatDoorRows
import Derived.Test.YtokdaagjkhkinaaGreatDoorMGj
import Derived.Test.YtokdaagjkhkinaaGreatDoorMF
import Derived.Test.YtokdaagjkhkinaaGreatDoorCards
import Derived.Test.YtokdaagjkhkinaaGreatDoorTie
import Derived.WalkKit
import Derived.ProofKit
import Derived.OpenShut
import Derived.ShutString
import Derived.ChangeOld
import Derived.Below
import Derived.Lib.SmallJoins
import Derived.LaidMore
import Derived.Lay
import Derived.SevenTiedAt
import Derived.Stop.Joined
namespace Go.Proofs.YtokdaagjkhkinaaGreatDoor.digitsPrints
open Go.ChangeShapes Go.WideShapes Go.ChangeAt Go.RowKit Go.Joins
open Go.ChangeMaps (open_string shut_string)
set_option linter.unusedVariables false

theorem own : ownKnob Tryz.prog.godebug = none := by kernel_rfl

theorem laidOut : laidOutB Tryz.prog = true := by kernel_rfl

theorem walk_any (b0 : Bool) (a0 : Option Addr) (len0 cap0 : Nat) (zs0 : List Int) (a0y : Option Addr) (len0y cap0y : Nat) (zs0y : List Int) (W : World)
    (w0 : ((a0 = none ∧ len0 = 0 ∧ cap0 = 0 ∧ zs0 = []) ∨ ∃ x, a0 = some x ∧ len0 ≤ cap0 ∧ cap0 ≤ maxLen ∧ zs0.length = cap0 ∧ (∀ i, i < zs0.length → W.cell? (x.add i) = some (.int .u32 (zs0.getD i 0))) ∧ ∀ n ∈ zs0, (Lit.int .u32 n).wf = true))
    (w0y : ((a0y = none ∧ len0y = 0 ∧ cap0y = 0 ∧ zs0y = []) ∨ ∃ x, a0y = some x ∧ len0y ≤ cap0y ∧ cap0y ≤ maxLen ∧ zs0y.length = cap0y ∧ (∀ i, i < zs0y.length → W.cell? (x.add i) = some (.int .u32 (zs0y.getD i 0))) ∧ ∀ n ∈ zs0y, (Lit.int .u32 n).wf = true)) :
    Calls Tryz.prog 3 #[.agg #[.bool b0, .slice a0 len0 cap0, .slice a0y len0y cap0y]] W fun e w' => e = .returned (.bool true) ∧ Below W.heap.size W w' := by
  obtain ⟨f0, h1_0, h2_0, h3_0, h4_0⟩ := row_in W a0 len0 cap0 zs0 w0
  obtain ⟨f0y, h1_0y, h2_0y, h3_0y, h4_0y⟩ := row_in W a0y len0y cap0y zs0y w0y
  exact prints_walk b0 a0 a0y len0 cap0 len0y cap0y f0 f0y W ⟨h1_0, h2_0, h3_0, h4_0⟩ ⟨h1_0y, h2_0y, h3_0y, h4_0y⟩

set_option maxRecDepth 100000 in
theorem lifted (os : Os) (started : os.Started) (H : Type) (enc : TypeId × Value → H) :
    ReturnsInHanded {} Tryz.checked os 3 .any (fun w args => (Rows.digitsPrintsSpec.pre enc Tryz.prog Tryz.f3 Rows.digitsPrintsRow.domain false w args ∧ laidMetH Tryz.prog Rows.digitsPrintsRow.laid w) ∧ sizedMet enc Tryz.prog Tryz.f3 (OpenSpec.ofChange Rows.digitsPrintsSpec) false w args)
      (Rows.digitsPrintsSpec.post enc Tryz.prog Tryz.f3 false true false false) := by
  refine returnsInHanded_of_change_and (C := Tryz.checked) (X := fun w _ => laidMetH Tryz.prog Rows.digitsPrintsRow.laid w) (fun _ _ _ hh h => h.of_heap hh) own started (by kernel_rfl) Tryz.func3
    (ChangeSpec.witness_shaped (enc := enc) (C := Tryz.checked) (os := os) (X := fun w _ => laidMetH Tryz.prog Rows.digitsPrintsRow.laid w) false (World.laidAll Tryz.prog os Rows.digitsPrintsRow.laid) #[.agg #[.bool false, .slice none 0 0, .slice none 0 0]] 8 (World.laidAll_os _ _ _)
      (World.shaped_of_ZipB (by kernel_rfl) (by kernel_rfl)) (by kernel_rfl) (by kernel_rfl) (by kernel_rfl)
      (by rw [MakeChecks.laidMetH_plain _ _ _ (by kernel_rfl)]; exact laidMet_laidAll _ (by kernel_rfl) (by kernel_rfl))) ?_
  intro W base args ds gs before hval0 hW hcnd _ _ _
  have hval : ∀ (j : Nat) t v, Tryz.f3.params[j]? = some t → args[j]? = some v → Value.okWide Tryz.prog W .any base t v := hval0
  have hW' := hW
  obtain ⟨p, q, hA0, hV, rfl, hfz, hnd⟩ := hW
  have hA : DataW.TrodAll enc Tryz.prog W 0 (fun _ => true) true Tryz.f3.params.toList args.toList ds p := hA0
  rw [Tryz.params3] at hA hval
  obtain ⟨v0, vs0, d0, ds0, p0, q0, hargs, rfl, rfl, h0, r0⟩ := trodAll_cons hA
  obtain ⟨rfl, rfl, rfl⟩ := trodAll_nil r0
  obtain rfl : args = #[v0] := by cases args; simp_all
  obtain ⟨rfl, rfl⟩ := trodVars_none hV
  have k0 := h0
  have lt0 : ∀ x ∈ p0, x.block < W.heap.size := by obtain ⟨m, hm⟩ := k0; exact DataW.trod_lt m _ _ _ hm
  obtain ⟨b0, c10, c20, rfl, ⟨a0, len0, cap0, z0, rfl, w0⟩, ⟨a0y, len0y, cap0y, z0y, rfl, w0y⟩⟩ : ∃ b c1 c2, v0 = .agg #[.bool b, c1, c2] ∧ (∃ a len cap zs, c1 = .slice a len cap ∧ ((a = none ∧ len = 0 ∧ cap = 0 ∧ zs = []) ∨ ∃ x, a = some x ∧ len ≤ cap ∧ cap ≤ maxLen ∧ zs.length = cap ∧ (∀ i, i < zs.length → W.cell? (x.add i) = some (.int .u32 (zs.getD i 0))) ∧ ∀ n ∈ zs, (Lit.int .u32 n).wf = true)) ∧ (∃ a len cap zs, c2 = .slice a len cap ∧ ((a = none ∧ len = 0 ∧ cap = 0 ∧ zs = []) ∨ ∃ x, a = some x ∧ len ≤ cap ∧ cap ≤ maxLen ∧ zs.length = cap ∧ (∀ i, i < zs.length → W.cell? (x.add i) = some (.int .u32 (zs.getD i 0))) ∧ ∀ n ∈ zs, (Lit.int .u32 n).wf = true)) := by
    obtain ⟨c0, c1, c2, y0, y1, y2, m, hv, _, _, hy0, hy1, hy2⟩ := open_agg3 Tryz.underlying24 (by kernel_rfl) (by kernel_rfl) (hval 0 24 v0 rfl rfl) h0
    obtain ⟨b, e0, _⟩ := DataW.trod_bool Tryz.underlying4 hy0
    simp at e0
    refine ⟨b, c1, c2, by rw [hv, e0], ?_, ?_⟩
    · rcases open_ints Tryz.underlying22 Tryz.underlying35 (by kernel_rfl) hy1 with ⟨hcs, _⟩ | ⟨x, l, c, zs, hcs, _, hl, hm, hz, _, hcell, hwz⟩
      · simp at hcs
        exact ⟨none, 0, 0, [], hcs, .inl ⟨rfl, rfl, rfl, rfl⟩⟩
      · simp at hcs
        exact ⟨_, l, c, zs, hcs, .inr ⟨x, rfl, hl, hm, by simpa using hz, hcell, hwz⟩⟩
    · rcases open_ints Tryz.underlying22 Tryz.underlying35 (by kernel_rfl) hy2 with ⟨hcs, _⟩ | ⟨x, l, c, zs, hcs, _, hl, hm, hz, _, hcell, hwz⟩
      · simp at hcs
        exact ⟨none, 0, 0, [], hcs, .inl ⟨rfl, rfl, rfl, rfl⟩⟩
      · simp at hcs
        exact ⟨_, l, c, zs, hcs, .inr ⟨x, rfl, hl, hm, by simpa using hz, hcell, hwz⟩⟩
  clear hA0 hval0
  refine (walk_any b0 a0 len0 cap0 z0 a0y len0y cap0y z0y W w0 w0y).mono fun e W' ⟨he, bel⟩ => ?_
  subst he
  exact ⟨_, rfl, _, _, _, [], _, [], hW', trodAll_mk1 (shut_bool Tryz.underlying4 _), (trodAll_cons_mk (Below.trod laidOut (by kernel_rfl) (of_decide_eq_true (by kernel_rfl)) k0 bel lt0) trodAll_mk0), rfl, bel.frame _, fun h => by cases h⟩

theorem over : Rows.digitsPrintsRow.holds Tryz.pinned (OpenSpec.ofChange Rows.digitsPrintsSpec) :=
  OpenClaim.holds_of_wide 3 Tryz.f3 rfl rfl rfl rfl rfl rfl rfl ⟨rfl, rfl, rfl, rfl, rfl⟩ rfl rfl rfl rfl rfl (by kernel_rfl) Tryz.func3 (by kernel_rfl)
    (of_decide_eq_true (by kernel_rfl)) (by unfold Func.isWrapper; first | (rw [if_pos (by decide +kernel)]; kernel_rfl) | (rw [if_neg (by decide +kernel)]; exact ⟨rfl, rfl⟩))
    (fun os started H enc _ => lifted os started H enc)

/-- The statement: the tied card. -/
theorem proved : Rows.DigitsPrintsCardSaid :=
  Claim7.holds_tied_plain_at .later [] [.data, .pinned] true (true, "3bc7490511c93cd836913697980ec71bb0338da2773b56263cf4ee5c6bcfe1b9") false over (fun _ h => by cases h) (by kernel_rfl) (fun _ h => by cases h) digitsPrints_row_tie rfl ⟨rfl, rfl⟩ (by kernel_rfl) rfl
    (fun f fn hf hfn => by
      obtain rfl : f = 3 := Option.some.inj ((show Tryz.prog.funcNamed "scrim/scrimlaw05.DigitsPrints" = some 3 by kernel_rfl).symm.trans hf) |>.symm
      obtain rfl : fn = Tryz.f3 := (Option.some.inj (Tryz.func3.symm.trans hfn)).symm
      exact ⟨by kernel_rfl, fun j t ht => by
        rw [Tryz.params3] at ht
        have hm : t ∈ [24] := by simpa using Array.mem_of_getElem? ht
        have hall : ([24].all fun u => !Tryz.prog.wantsStandIn u) = true := by kernel_rfl
        exact (show Tryz.prog.wantsStandIn t = false by simpa using List.all_eq_true.1 hall t hm)⟩)
    (by kernel_rfl)
#print axioms proved
end Go.Proofs.YtokdaagjkhkinaaGreatDoor.digitsPrints
