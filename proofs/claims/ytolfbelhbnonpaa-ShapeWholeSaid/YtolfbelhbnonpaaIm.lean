/-
  The place of a cell by dividing, plain: from the last axis on, the rest is the number there, the quotient goes on.
-/
import Derived.Test.YtolfbelhbnonpaaIb
namespace Go.Proofs.Ytolfbelhbnonpaa

/-- The cell that q at the axes ahead of i makes with k numbers more. -/
def fromZ (f g : Nat → Int) (q : Int) (i : Nat) : Nat → Int
  | 0 => q
  | k + 1 => fromZ f g q i k * f (i + k) + g (i + k)

theorem from_front (f g : Nat → Int) (q : Int) (i : Nat) : ∀ k, fromZ f g q i (k + 1) = fromZ f g (q * f i + g i) (i + 1) k
  | 0 => rfl
  | k + 1 => by
    show fromZ f g q i (k + 1) * f (i + (k + 1)) + g (i + (k + 1)) = fromZ f g (q * f i + g i) (i + 1) k * f (i + 1 + k) + g (i + 1 + k)
    rw [from_front f g q i k, show i + (k + 1) = i + 1 + k by omega]

theorem from_zero (f g : Nat → Int) : ∀ k, fromZ f g 0 0 k = cellZ f g k
  | 0 => rfl
  | k + 1 => by
    show fromZ f g 0 0 k * f (0 + k) + g (0 + k) = cellZ f g k * f k + g k
    rw [from_zero f g k, Nat.zero_add]

theorem from_congr {f g h : Nat → Int} {q : Int} {i : Nat} : ∀ k, (∀ t, t < k → g (i + t) = h (i + t)) → fromZ f g q i k = fromZ f h q i k
  | 0, _ => rfl
  | k + 1, e => by
    show fromZ f g q i k * f (i + k) + g (i + k) = fromZ f h q i k * f (i + k) + h (i + k)
    rw [from_congr k fun t ht => e t (by omega), e k (by omega)]

/-- The axes from i on have their numbers; q is left for those ahead. -/
def Divided (f g : Nat → Int) (n : Nat) (c q : Int) (i : Nat) : Prop :=
  i ≤ n ∧ 0 ≤ q ∧ q < prodZ f i ∧ (∀ j, i ≤ j → j < n → 0 ≤ g j ∧ g j < f j) ∧ fromZ f g q i (n - i) = c

theorem divided_start {f g : Nat → Int} {n : Nat} {c : Int} (h0 : 0 ≤ c) (h1 : c < prodZ f n) : Divided f g n c c n :=
  ⟨Nat.le_refl _, h0, h1, fun j a b => by omega, by rw [Nat.sub_self]; rfl⟩

theorem divided_step {f g : Nat → Int} {n i : Nat} {c q : Int} (h : Divided f g n c q (i + 1)) (hf : 0 < f i) : Divided f (putZ g i (q % f i)) n c (q / f i) i := by
  obtain ⟨h1, h2, h3, h4, h5⟩ := h
  have e := Int.mul_ediv_add_emod q (f i)
  have m0 := Int.emod_nonneg q (show f i ≠ 0 by omega)
  have m1 := Int.emod_lt_of_pos q hf
  refine ⟨by omega, Int.ediv_nonneg h2 (by omega), ?_, fun j a b => ?_, ?_⟩
  · have h6 : q < prodZ f i * f i := h3
    exact Int.ediv_lt_of_lt_mul hf h6
  · unfold putZ
    by_cases k : j = i
    · rw [if_pos k, k]; exact ⟨m0, m1⟩
    · rw [if_neg k]; exact h4 j (by omega) b
  · rw [show n - i = (n - (i + 1)) + 1 by omega, from_front]
    have e2 : q / f i * f i + putZ g i (q % f i) i = q := by
      unfold putZ
      rw [if_pos rfl, Int.mul_comm]
      exact e
    rw [e2, ← h5]
    refine from_congr _ fun t ht => ?_
    unfold putZ
    rw [if_neg (by omega)]

theorem divided_done {f g : Nat → Int} {n : Nat} {c q : Int} (h : Divided f g n c q 0) : PlaceIs f g n c := by
  obtain ⟨_, h2, h3, h4, h5⟩ := h
  have h3' : q < 1 := h3
  obtain rfl : q = 0 := by omega
  rw [Nat.sub_zero, from_zero] at h5
  exact ⟨fun j hj => h4 j (by omega) hj, h5⟩

end Go.Proofs.Ytolfbelhbnonpaa
