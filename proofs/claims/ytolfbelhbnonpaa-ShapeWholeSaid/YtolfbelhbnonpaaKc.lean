/-
  shape.Index.
-/
import Derived.Test.YtolfbelhbnonpaaKb
namespace Go.Proofs.Ytolfbelhbnonpaa
open Go.RowKit

def IndexPost (f : Nat → Int) (n : Nat) (g : Nat → Int) (m : Nat) (w : World) (e : Ending) (w' : World) : Prop :=
  (∃ (k : Int) (ok : Bool), e = .returned (.tuple #[.int .i64 k, .bool ok]) ∧ IndexB f n g m k ok) ∧ w = w'

set_option maxRecDepth 20000 in
set_option maxHeartbeats 2000000 in
theorem indexW (ao bo : Option Addr) (n nc m mc : Nat) (f g : Nat → Int) (w : World) (hf : SlZ w ao n f) (hm : m ≤ 9223372036854775807) (hg : SlZ w bo m g) :
    Calls Try.prog 10 #[.slice ao n nc, .slice bo m mc] w (IndexPost f n g m w) := by
  go_enter Try.func10, Try.ntmps10
  go_wp2_with fail
  refine (countW ao n nc f w hf).mono ?_
  rintro e w1 ⟨⟨N, E, rfl, hC⟩, rfl⟩
  by_cases hE : E = 0
  · have hS := Lib.hid (hC.shape hE)
    subst hE
    have hn6 := hS.out.rank
    clear hC
    by_cases hmn : m = n
    · subst hmn
      go_wp2_with fail
      by_cases hz : ∃ j, j < m ∧ f j = 0
      · obtain ⟨j0, hj0, hz⟩ := hz
        have hno := Lib.hid (show ∀ c, ¬ PlaceIs f g m c from fun c hc => by have := hc.1 j0 hj0; omega)
        go_loopw [8, 27] (fun x i wr => ∃ (j : Nat) (c : Int), j ≤ j0 ∧ i = .int .i64 j ∧ x = .int .i64 c ∧ wr = w) (fun _ i _ => m - (intOfZ i).toNat)
        case atStart => exact ⟨0, 0, Nat.zero_le _, rfl, rfl, rfl⟩
        case round =>
          obtain ⟨j, c, hj, rfl, rfl, rfl⟩ := hrel
          have hlt : j < m := by omega
          rcases hf with h | ⟨b, off, rfl, hc⟩
          · omega
          rcases hg with h | ⟨b', off', rfl, hc'⟩
          · omega
          have c1 := hc j hlt
          have c2 := hc' j hlt
          clear hc hc'
          by_cases hneg : g j < 0
          · go_wp2_with fail
            go_ret2
            exact ⟨⟨0, false, rfl, .inr ⟨rfl, rfl, fun ⟨_, _, c, hc⟩ => hno.out c hc⟩⟩, rfl⟩
          · by_cases hge : f j ≤ g j
            · go_wp2_with fail
              go_ret2
              exact ⟨⟨0, false, rfl, .inr ⟨rfl, rfl, fun ⟨_, _, c, hc⟩ => hno.out c hc⟩⟩, rfl⟩
            · have hne : j ≠ j0 := fun e => by rw [e] at hneg hge; omega
              go_wp2_with fail
              go_roundw
              case rel => exact ⟨j + 1, _, by omega, by go_num, rfl, by trivial⟩
              case measure => simp [intOfZ]; omega
      · have hlo := Lib.hid (show ∀ j, j < m → 1 ≤ f j from fun j hj => by
          have h1 := hS.out.low j hj
          have h2 : f j ≠ 0 := fun e => hz ⟨j, hj, e⟩
          omega)
        clear hz
        go_loopw [8, 27] (fun x i wr => ∃ j : Nat, j ≤ m ∧ i = .int .i64 j ∧ x = .int .i64 (cellZ f g j) ∧ Hid (Fits f g j) ∧ wr = w) (fun _ i _ => m - (intOfZ i).toNat)
        case atStart => exact ⟨0, Nat.zero_le _, rfl, rfl, Lib.hid fun t h => by omega, rfl⟩
        case round =>
          obtain ⟨j, hj, rfl, rfl, hfit, rfl⟩ := hrel
          by_cases hlt : j < m
          · rcases hf with h | ⟨b, off, rfl, hc⟩
            · omega
            rcases hg with h | ⟨b', off', rfl, hc'⟩
            · omega
            have c1 := hc j hlt
            have c2 := hc' j hlt
            clear hc hc'
            by_cases hin : 0 ≤ g j ∧ g j < f j
            · obtain ⟨q1, q2⟩ := hin
              have q3 : ¬ g j < 0 := by omega
              have q4 : ¬ f j ≤ g j := by omega
              have hfit2 := Lib.hid (show Fits f g (j + 1) from fun t ht => by
                by_cases e : t = j
                · rw [e]; exact ⟨q1, q2⟩
                · exact hfit.out t (by omega))
              have hb := cellZ_bound (j + 1) hfit2.out
              have hb2 := (cellZ_bound j hfit.out).1
              have hpm := prodZ_mono m hlo.out (show j + 1 ≤ m by omega)
              have hp := hS.out.all
              have hp2 := hS.out.most
              obtain ⟨x, hx⟩ : ∃ x, x = cellZ f g j := ⟨_, rfl⟩
              obtain ⟨y, hy⟩ : ∃ y, y = f j := ⟨_, rfl⟩
              obtain ⟨v, hv⟩ : ∃ v, v = g j := ⟨_, rfl⟩
              obtain ⟨z, hz⟩ : ∃ z, z = x * y := ⟨_, rfl⟩
              have e1 : cellZ f g (j + 1) = z + v := by rw [hz, hx, hy, hv]; rfl
              have hz0 : 0 ≤ z := by rw [hz]; rw [← hx] at hb2; rw [← hy, ← hv] at q2; rw [← hv] at q1; exact Int.mul_nonneg hb2 (by omega)
              rw [e1] at hb
              rw [← hx]
              rw [← hy] at c1 q2 q4
              rw [← hv] at c2 q1 q2 q3 q4
              have hw : IntKind.i64.wrap (x * y) = z := by rw [← hz]; simp [IntKind.wrap, IntKind.bits, IntKind.signed]; omega
              have hw2 : IntKind.i64.wrap (z + v) = z + v := by simp [IntKind.wrap, IntKind.bits, IntKind.signed]; omega
              have e1' := Lib.hid e1
              clear hz hx hy hv hb hb2 hpm hp hp2 e1 hz0
              go_wp2_with fail
              go_roundw
              case rel => exact ⟨j + 1, by omega, by go_num, by rw [e1'.out], hfit2, by trivial⟩
              case measure => simp [intOfZ]; omega
            · have hno := Lib.hid (show ∀ c, ¬ PlaceIs f g m c from fun c hc => hin (hc.1 j hlt))
              by_cases hneg : g j < 0
              · clear hin
                go_wp2_with fail
                go_ret2
                exact ⟨⟨0, false, rfl, .inr ⟨rfl, rfl, fun ⟨_, _, c, hc⟩ => hno.out c hc⟩⟩, rfl⟩
              · have hge : f j ≤ g j := by omega
                clear hin
                go_wp2_with fail
                go_ret2
                exact ⟨⟨0, false, rfl, .inr ⟨rfl, rfl, fun ⟨_, _, c, hc⟩ => hno.out c hc⟩⟩, rfl⟩
          · obtain rfl : j = m := by omega
            go_wp2_with fail
            go_ret2
            exact ⟨⟨_, true, rfl, .inl ⟨⟨N, hS.out⟩, rfl, ⟨hfit.out, rfl⟩, rfl⟩⟩, rfl⟩
    · have hmb : ((m : Int) != (n : Int)) = true := by rw [bne_iff_ne]; omega
      have hmn' := Lib.hid hmn
      have hmp : ¬ ((m : Int) = (n : Int)) := by omega
      clear hmn
      go_wp2_with fail
      go_ret2
      exact ⟨⟨0, false, rfl, .inr ⟨rfl, rfl, fun h => hmn'.out h.2.1⟩⟩, rfl⟩
  · have hno := Lib.hid ((hC.none hE).2.2)
    have hEb : (E != 0) = true := by rw [bne_iff_ne]; exact hE
    clear hC hE
    go_wp2_with fail
    go_ret2
    exact ⟨⟨0, false, rfl, .inr ⟨rfl, rfl, fun ⟨⟨M, h⟩, _⟩ => hno.out M h⟩⟩, rfl⟩

theorem indexC : IndexC := fun ao bo n nc m mc f g w _ _ hf hm hmc hg => (indexW ao bo n nc m mc f g w hf (by omega) hg).mono fun _ _ ⟨h, e⟩ => ⟨h, e ▸ Below.refl _ _⟩

end Go.Proofs.Ytolfbelhbnonpaa
