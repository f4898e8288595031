/-
  shape.Around.
-/
import Derived.Test.YtolfbelhbnonpaaKc
namespace Go.Proofs.Ytolfbelhbnonpaa
open Go.RowKit

def AroundPost (f : Nat → Int) (n : Nat) (axis : Int) (w : World) (e : Ending) (w' : World) : Prop :=
  (∃ b k a ok, e = .returned (.tuple #[.int .i64 b, .int .i64 k, .int .i64 a, .bool ok]) ∧ AroundIs f n axis b k a ok) ∧ Below w.heap.size w w'

set_option maxRecDepth 20000 in
set_option maxHeartbeats 2000000 in
theorem aroundW (ao : Option Addr) (n nc : Nat) (f : Nat → Int) (axis : Int) (w : World) (hn : n ≤ nc) (hnc : nc ≤ 9223372036854775807) (hf : SlZ w ao n f) :
    Calls Try.prog 15 #[.slice ao n nc, .int .i64 axis] w (AroundPost f n axis w) := by
  go_enter Try.func15, Try.ntmps15
  go_wp2_with fail
  refine (countW ao n nc f w hf).mono ?_
  rintro e w1 ⟨⟨N, E, rfl, hC⟩, rfl⟩
  by_cases hE : E = 0
  · have hS := Lib.hid (hC.shape hE)
    subst hE
    have hn6 := hS.out.rank
    clear hC
    go_wp2_with fail
    refine (has_any ao n nc axis w).mono ?_
    rintro e w1 ⟨rfl, rfl⟩
    by_cases hx : 0 ≤ axis ∧ axis < n
    · rw [decide_eq_true hx]
      obtain ⟨x, rfl⟩ := Int.eq_ofNat_of_zero_le hx.1
      have hxn : x < n := by omega
      clear hx
      rcases hf with h | ⟨b, off, rfl, hc⟩
      · omega
      have hc' := Lib.hid hc
      have c1 := hc x hxn
      clear hc
      go_wp2_with fail
      refine (product_any _ x nc f w (by omega) (.inr ⟨b, off, rfl, fun j hj => hc'.out j (by omega)⟩) fun j hj => ⟨hS.out.low j (by omega), hS.out.high j (by omega)⟩).mono ?_
      rintro e w1 ⟨⟨N1, k1, rfl, hN1, _⟩, rfl⟩
      have hb1 := Lib.hid hN1
      clear hN1
      by_cases hcap : nc = x + 1
      all_goals
        go_wp2_with fail
        first
          | (have hnx : n - (x + 1) = 0 := by omega
             have hT := Lib.hid (product_any (some ⟨b, off, none⟩) (n - (x + 1)) 0 (fun j => f (x + 1 + j)) w (by omega) (.inl hnx) fun j hj => ⟨hS.out.low _ (by omega), hS.out.high _ (by omega)⟩)
             clear hnx)
          | (have hT := Lib.hid (product_any (some ⟨b, off + (x + 1), none⟩) (n - (x + 1)) (nc - (x + 1)) (fun j => f (x + 1 + j)) w (by omega) (slz_tail hc'.out) fun j hj => ⟨hS.out.low _ (by omega), hS.out.high _ (by omega)⟩))
        refine hT.out.mono ?_
        clear hT
        rintro e w1 ⟨⟨N2, k2, rfl, hN2, _⟩, rfl⟩
        have hb2 := Lib.hid hN2
        clear hN2
        go_wp2_with fail
        go_quiet (fail)
        go_wp2_with fail
        (try simp only [Exit.inBlock, Exit.then]); refine bodyPost_ret (results_tmp4 rfl _ _ _) rfl ?_
        exact ⟨⟨_, _, _, _, rfl, .inl ⟨x, rfl, hxn, ⟨N, hS.out⟩, rfl, hb1.out, hb2.out, rfl⟩⟩, below_drewN (Below.refl _ _) _⟩
    · rw [decide_eq_false hx]
      have hx' := Lib.hid hx
      clear hx
      go_wp2_with fail
      (try simp only [Exit.inBlock, Exit.then]); refine bodyPost_ret (results_tmp4 rfl _ _ _) rfl ?_
      exact ⟨⟨_, _, _, _, rfl, .inr ⟨fun h => hx'.out h.2, rfl, rfl, rfl, rfl⟩⟩, Below.refl _ _⟩
  · have hno := (hC.none hE).2.2
    have hno' := Lib.hid (show ¬ ((∃ N, Shape f n N) ∧ 0 ≤ axis ∧ axis < n) from fun ⟨⟨M, h⟩, _⟩ => hno M h)
    have hEb : (E != 0) = true := by rw [bne_iff_ne]; exact hE
    clear hC hno hE
    go_wp2_with fail
    (try simp only [Exit.inBlock, Exit.then]); refine bodyPost_ret (results_tmp4 rfl _ _ _) rfl ?_
    exact ⟨⟨_, _, _, _, rfl, .inr ⟨hno'.out, rfl, rfl, rfl, rfl⟩⟩, Below.refl _ _⟩

theorem aroundC : AroundC := fun ao n nc f axis w hn hnc hf _ _ => aroundW ao n nc f axis w hn hnc hf

end Go.Proofs.Ytolfbelhbnonpaa
