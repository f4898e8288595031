/-
  nat.trim and nat.limb: what a call of each comes to.
-/
import Derived.Test.YtnnipciifjpooaaProg
import Derived.Test.YtnnipciifjpooaaSl
namespace Go.Proofs.Ytnnipciifjpooaa
open Go.RowKit Num

theorem ret_int {k : IntKind} {a b : Int} (h : a = b) : Ending.returned (.int k a) = .returned (.int k b) := by rw [h]

/-- nat.trim hands back the same limbs, without the noughts on top. -/
def TrimPost (ao : Option Addr) (n cap : Nat) (f : Nat → Nat) (w : World) (e : Ending) (w' : World) : Prop :=
  ∃ k, k ≤ n ∧ e = .returned (.slice ao k cap) ∧ Top f k ∧ val f k = val f n ∧ w = w'

set_option maxHeartbeats 400000 in
theorem trim_some (b off n cap : Nat) (f : Nat → Nat) (w : World) (hcap : n ≤ cap) (hmax : cap ≤ 9223372036854775807)
    (hc : ∀ j, j < n → w.cell? ⟨b, off + j, none⟩ = some (.int .u32 (f j))) :
    Calls Try.prog 93 #[.slice (some ⟨b, off, none⟩) n cap] w (TrimPost (some ⟨b, off, none⟩) n cap f w) := by
  go_enter Try.func93, Try.ntmps93
  go_wp2
  go_loop [0] (fun a => ∃ k : Nat, k ≤ n ∧ a = .slice (some ⟨b, off, none⟩) k cap ∧ val f k = val f n) (fun a => lenOf a)
  case atStart => exact ⟨n, Nat.le_refl _, rfl, rfl⟩
  case round =>
    obtain ⟨k, hk, rfl, hv0⟩ := hrel
    have hv := Lib.hid hv0; clear hv0
    by_cases h0 : k = 0
    · subst h0
      go_wp2
      go_ret
      exact ⟨0, Nat.zero_le _, rfl, .inl rfl, hv.out, rfl⟩
    · have hpos : 0 < k := by omega
      have hcell := hc (k - 1) (by omega)
      clear hc
      by_cases hz : f (k - 1) = 0
      · have hzi : ((f (k - 1) : Int) == 0) = true := by simp [hz]
        have hz' := Lib.hid hz; clear hz
        go_wp2
        go_round
        case rel =>
          have hk1 : k = k - 1 + 1 := by omega
          have e := val_nought hz'.out
          rw [← hk1] at e
          exact ⟨k - 1, by omega, rfl, e.symm.trans hv.out⟩
        case measure => simp [lenOf]; omega
      · have hzi : ((f (k - 1) : Int) == 0) = false := by simp [hz]
        go_wp2
        go_ret
        exact ⟨k, hk, rfl, .inr hz, hv.out, rfl⟩

set_option maxHeartbeats 400000 in
theorem trim_none (ao : Option Addr) (cap : Nat) (f : Nat → Nat) (w : World) :
    Calls Try.prog 93 #[.slice ao 0 cap] w (TrimPost ao 0 cap f w) := by
  go_enter Try.func93, Try.ntmps93
  go_wp2
  go_loop [0] (fun a => a = .slice ao 0 cap) (fun a => lenOf a)
  case atStart => exact rfl
  case round =>
    obtain rfl := hrel
    go_wp2
    go_ret
    exact ⟨0, Nat.zero_le _, rfl, .inl rfl, rfl, rfl⟩

theorem trim_any (ao : Option Addr) (n cap : Nat) (f : Nat → Nat) (w : World) (hcap : n ≤ cap) (hmax : cap ≤ 9223372036854775807) (hs : Sl w ao n f) :
    Calls Try.prog 93 #[.slice ao n cap] w (TrimPost ao n cap f w) := by
  rcases hs with rfl | ⟨b, off, rfl, hc⟩
  · exact trim_none ao cap f w
  · exact trim_some b off n cap f w hcap hmax hc

set_option maxHeartbeats 400000 in
/-- nat.limb: the limb at a place, 0 above the top. -/
theorem limb_any (ao : Option Addr) (n cap : Nat) (i : Int) (f : Nat → Nat) (w : World) (h0 : 0 ≤ i) (hs : Sl w ao n f) :
    Calls Try.prog 95 #[.slice ao n cap, .int .i64 i] w fun e w' => e = .returned (.int .u32 (at0 f n i.toNat)) ∧ w = w' := by
  obtain ⟨i, rfl⟩ := Int.eq_ofNat_of_zero_le h0
  rw [Int.toNat_natCast]
  by_cases h : i < n
  · rw [at0_in h]
    rcases hs with rfl | ⟨b, off, rfl, hc⟩
    · omega
    · have hcell := hc i h
      clear hc
      go_enter Try.func95, Try.ntmps95
      go_wp2
      go_ret
      exact ⟨rfl, rfl⟩
  · rw [at0_out (by omega)]
    clear hs
    go_enter Try.func95, Try.ntmps95
    go_wp2
    go_ret
    exact ⟨rfl, rfl⟩

end Go.Proofs.Ytnnipciifjpooaa
