/-
  scrimref02.Same and Norm, scrimlaw02.few and awake.
-/
import Derived.Test.YtnnipciifjpooaaGcd
import Derived.Test.YtnnipciifjpooaaApp
namespace Go.Proofs.Ytnnipciifjpooaa
open Go.RowKit Num

set_option maxHeartbeats 400000 in
/-- Same, of the same limbs. -/
theorem same_yes (ao bo : Option Addr) (n nc mc : Nat) (f g : Nat → Nat) (w : World) (hn : n ≤ 9223372036854775807) (hf : Sl w ao n f) (hg : Sl w bo n g) (he : ∀ j, j < n → f j = g j) :
    Calls Try.prog 56 #[.slice ao n nc, .slice bo n mc] w fun e w' => e = .returned (.bool true) ∧ ∃ q, w' = w.drewN q := by
  have he' := Lib.hid he
  clear he
  go_enter Try.func56, Try.ntmps56
  go_wp2_with fail
  go_loopw [5] (fun i wr => ∃ j : Nat, j ≤ n ∧ i = .int .i64 j ∧ ∃ q, wr = w.drewN q) (fun i _ => n - (intOf i).toNat)
  case atStart => exact ⟨0, Nat.zero_le _, rfl, 0, rfl⟩
  case round =>
    obtain ⟨j, hj, rfl, q, rfl⟩ := hrel
    by_cases hlt : j < n
    · rcases hf with h | ⟨b, off, rfl, hc⟩
      · omega
      rcases hg with h | ⟨b', off', rfl, hc'⟩
      · omega
      have c1 := hc j hlt
      have c2 := hc' j hlt
      rw [← he'.out j hlt] at c2
      clear hc hc'
      go_wp2_with fail
      go_quiet (fail)
      go_wp2_with fail
      go_roundw
      case rel => exact ⟨j + 1, by omega, by go_num, _, rfl⟩
      case measure => simp [intOf]; omega
    · go_wp2_with fail
      go_ret
      exact ⟨rfl, q, rfl⟩

theorem same_canon (ao bo : Option Addr) (v n nc m mc : Nat) (f g : Nat → Nat) (w : World) (hn : n ≤ nc) (hnc : nc ≤ 9223372036854775807) (hf : Sl w ao n f) (hg : Sl w bo m g) (cf : Canon v n f) (cg : Canon v m g) :
    Calls Try.prog 56 #[.slice ao n nc, .slice bo m mc] w fun e w' => e = .returned (.bool true) ∧ ∃ q, w' = w.drewN q := by
  obtain rfl := cf.len cg
  exact same_yes ao bo n nc mc f g w (by omega) hf hg (cf.eq cg)

theorem owns_slice {w : World} {base n : Nat} {t : TypeId} {v : Value} {f : Nat → Nat} (h : w.ownsRow base t 1 v n (limbCells f n)) :
    ∃ ao cap, v = .slice ao n cap ∧ n ≤ cap ∧ cap ≤ 9223372036854775807 ∧ Sl w ao n f := by
  rcases h.2 with ⟨rfl, rfl⟩ | ⟨g, cap, cur, hv, hb, hg, hnc, hcm, hcs, ht⟩
  · exact ⟨none, 0, rfl, Nat.le_refl _, by omega, .inl rfl⟩
  · subst hv
    refine ⟨_, cap, rfl, hnc, by unfold maxLen at hcm; omega, ?_⟩
    by_cases h0 : n = 0
    · exact .inl h0
    · refine .inr ⟨g, 0, rfl, fun j hj => ?_⟩
      rw [Nat.zero_add, h.cellAt j (by omega), limbCells_get f n j hj]

set_option maxHeartbeats 1000000 in
theorem refNorm_any (ao : Option Addr) (n nc : Nat) (f : Nat → Nat) (w : World) (A : Arg w ao n nc f) :
    Calls Try.prog 82 #[.slice ao n nc] w (NumPost (val f n) w) := by
  obtain ⟨i32, hi, hz0, hz1, hz2⟩ := info_parts info32
  obtain ⟨hn, hnc, hnb, hf, lf⟩ := A
  have lf' := Lib.hid lf
  clear lf
  rcases hf with rfl | ⟨b, off, rfl, hc⟩
  · go_enter Try.func82, Try.ntmps82
    go_wp2_with fail
    go_loop [3] (fun i => i = .int .i64 0) (fun i => (intOf i).toNat)
    case atStart => exact rfl
    case round =>
      obtain rfl := hrel
      go_wp2_with (at_builtin; refine wpList_append_empty rfl (.tmp 19) (.tmp 22) 22 rfl 47 i32 Try.underlying22 hi _ _ rfl rfl ?_)
      all_goals
        go_ret
        exact ⟨none, 0, 0, f, rfl, Nat.le_refl _, by omega, .inl rfl, canon_zero f, Below.refl _ _⟩
  · go_enter Try.func82, Try.ntmps82
    go_wp2_with fail
    go_loop [3] (fun i => ∃ k : Nat, k ≤ n ∧ i = .int .i64 k ∧ val f k = val f n) (fun i => (intOf i).toNat)
    case atStart => exact ⟨n, Nat.le_refl _, rfl, rfl⟩
    case round =>
      obtain ⟨k, hk, rfl, hv0⟩ := hrel
      have hv := Lib.hid hv0; clear hv0
      by_cases h0 : k = 0
      · subst h0
        go_wp2_with (at_builtin; refine wpList_append_empty rfl (.tmp 19) (.tmp 22) 22 rfl 47 i32 Try.underlying22 hi _ _ rfl rfl ?_)
        go_ret
        exact ⟨none, 0, 0, f, rfl, Nat.le_refl _, by omega, .inl rfl, by rw [← hv.out]; exact canon_zero f, Below.refl _ _⟩
      · have hpos : 0 < k := by omega
        have hcell := hc (k - 1) (by omega)
        have hc' := Lib.hid hc
        clear hc
        by_cases hz : f (k - 1) = 0
        · have hzi : ((f (k - 1) : Int) == 0) = true := by simp [hz]
          have hz' := Lib.hid hz; clear hz
          go_wp2_with fail
          go_round
          case rel =>
            have hk1 : k = k - 1 + 1 := by omega
            have e := val_nought hz'.out
            rw [← hk1] at e
            exact ⟨k - 1, by omega, int_eq (by omega), e.symm.trans hv.out⟩
          case measure => simp [intOf]; omega
        · have hzi : ((f (k - 1) : Int) == 0) = false := by simp [hz]
          have hone := limbCells_one f k
          have hlen := limbCells_length f k
          have hat := limbCells_at (w := w) (b := b) (off := off) (n := k) (f := f) (fun j hj => hc'.out j (by omega))
          obtain ⟨cs, hcs⟩ : ∃ cs, cs = limbCells f k := ⟨_, rfl⟩
          rw [← hcs] at hone hlen hat
          have hcs' := Lib.hid hcs; have hlen' := Lib.hid hlen
          clear hcs hlen
          go_wp2_with (at_builtin; refine wpList_append_own _ rfl (.tmp 19) (.tmp 22) 22 rfl w.heap.size 47 i32 (.int .u32 0) 1 4 Try.underlying22 hi hz0 hz1 hz2 rfl (by decide) _ _ _ rfl (World.ownsRow_nil _ _ _ _) ⟨b, off, none⟩ k nc cs rfl (by rw [hlen'.out]; omega) hat hone (by unfold maxLen; omega) (by omega) (Nat.le_refl _) ?_)
          intro v' w1 hown hgr hnil
          rw [hcs'.out] at hown
          obtain ⟨ao', cap', rfl, g1, g2, g3⟩ := owns_slice hown
          have g3' := Lib.hid g3
          have hb := Lib.hid ((Below.refl w.heap.size w).grown hgr (Nat.le_refl _) (fun _ h => by cases h))
          clear hown hgr hnil g3
          go_wp2_with fail
          go_ret
          exact ⟨ao', k, cap', f, rfl, g1, g2, g3'.out, ⟨lf'.out.mono hk, .inr hz, hv.out⟩, hb.out⟩

end Go.Proofs.Ytnnipciifjpooaa
