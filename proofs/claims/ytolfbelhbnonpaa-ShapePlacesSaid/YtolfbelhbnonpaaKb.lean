/-
  shape.Count.
-/
import Derived.Test.YtolfbelhbnonpaaKa
namespace Go.Proofs.Ytolfbelhbnonpaa
open Go.RowKit

set_option maxRecDepth 20000 in
set_option maxHeartbeats 2000000 in
theorem countW (ao : Option Addr) (n nc : Nat) (f : Nat → Int) (w : World) (hf : SlZ w ao n f) :
    Calls Try.prog 7 #[.slice ao n nc] w fun e w' => (∃ N E : Int, e = .returned (.tuple #[.int .i64 N, .int .i64 E]) ∧ CountIs f n N E) ∧ w = w' := by
  by_cases h6 : 6 < n
  · have h6' : (6 : Int) < (n : Int) := by omega
    go_enter Try.func7, Try.ntmps7
    go_wp2_with fail
    go_ret2
    exact ⟨⟨0, 7, rfl, .inl ⟨h6, rfl, rfl⟩⟩, rfl⟩
  · have h6' : ¬ (6 : Int) < (n : Int) := by omega
    have h6n : n ≤ 6 := by omega
    clear h6
    go_enter Try.func7, Try.ntmps7
    go_wp2_with fail
    refine (containsFunc_below ao n nc f w (by omega) hf).mono ?_
    rintro e w1 ⟨⟨b, rfl, hb⟩, rfl⟩
    cases b with
    | true =>
      have hb' := Lib.hid (hb.1 rfl)
      clear hb hf
      go_wp2_with fail
      go_ret2
      obtain ⟨j, h1, h2⟩ := hb'.out
      exact ⟨⟨0, 3, rfl, .inr ⟨h6n, .inl ⟨⟨j, h1, of_decide_eq_true h2⟩, rfl, rfl⟩⟩⟩, rfl⟩
    | false =>
      have hlo := Lib.hid (show ∀ j, j < n → 0 ≤ f j from fun j hj => Int.not_lt.1 fun h => Bool.false_ne_true (hb.2 ⟨j, hj, decide_eq_true h⟩))
      clear hb
      go_wp2_with fail
      refine (containsFunc_above ao n nc f w (by omega) hf).mono ?_
      rintro e w1 ⟨⟨b, rfl, hb⟩, rfl⟩
      cases b with
      | true =>
        have hb' := Lib.hid (hb.1 rfl)
        clear hb hf
        go_wp2_with fail
        go_ret2
        obtain ⟨j, h1, h2⟩ := hb'.out
        exact ⟨⟨0, 7, rfl, .inr ⟨h6n, .inr ⟨hlo.out, .inl ⟨⟨j, h1, of_decide_eq_true h2⟩, rfl, rfl⟩⟩⟩⟩, rfl⟩
      | false =>
        have hhi := Lib.hid (show ∀ j, j < n → f j ≤ 2048 from fun j hj => Int.not_lt.1 fun h => Bool.false_ne_true (hb.2 ⟨j, hj, decide_eq_true h⟩))
        clear hb
        go_wp2_with fail
        refine (product_any ao n nc f w (by omega) hf fun j hj => ⟨hlo.out j hj, hhi.out j hj⟩).mono ?_
        rintro e w1 ⟨⟨N, ok, rfl, hN, hok⟩, rfl⟩
        have hN' := Lib.hid hN
        cases ok with
        | true =>
          have hp := Lib.hid (hok.1 rfl)
          clear hok hf hN
          go_wp2_with fail
          go_ret2
          exact ⟨⟨_, 0, rfl, .inr ⟨h6n, .inr ⟨hlo.out, .inr ⟨hhi.out, .inr ⟨hp.out, hN'.out.trans (capZ_le hp.out), rfl⟩⟩⟩⟩⟩, rfl⟩
        | false =>
          have hp := Lib.hid (show 2048 < prodZ f n from Int.not_le.1 fun h => Bool.false_ne_true (hok.2 h))
          clear hok hf hN
          go_wp2_with fail
          go_ret2
          exact ⟨⟨0, 7, rfl, .inr ⟨h6n, .inr ⟨hlo.out, .inr ⟨hhi.out, .inl ⟨hp.out, rfl, rfl⟩⟩⟩⟩⟩, rfl⟩

theorem countC : CountC := fun ao n nc f w _ _ hf => (countW ao n nc f w hf).mono fun _ _ ⟨h, e⟩ => ⟨h, e ▸ Below.refl _ _⟩

end Go.Proofs.Ytolfbelhbnonpaa
