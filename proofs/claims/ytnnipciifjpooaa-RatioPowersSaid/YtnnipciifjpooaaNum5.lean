/-
  Plain facts on the document's answers: numbers doubled, their bits, products and quotients bit by bit, the steps of a greatest divisor.
-/
import Derived.Test.YtnnipciifjpooaaNum2
namespace Go.Proofs.Ytnnipciifjpooaa.Num

theorem twice_step {S A c c' s x P b : Nat} (h : S + c * P = 2 * A + b) (e : s + 4294967296 * c' = 2 * x + c) : S + s * P + c' * (4294967296 * P) = 2 * (A + x * P) + b := by
  have e' := congrArg (· * P) e
  simp only [Nat.add_mul] at e'
  have h1 : c' * (4294967296 * P) = 4294967296 * c' * P := by rw [Nat.mul_left_comm, Nat.mul_assoc]
  have h2 : 2 * (A + x * P) = 2 * A + 2 * x * P := by rw [Nat.mul_add, Nat.mul_assoc]
  omega

theorem twice_end {S A c b n : Nat} (h : S + c * pw (n + 1) = 2 * A + b) (hA : A < pw n) (hb : b ≤ 1) : S = 2 * A + b := by
  have hp := pw_pos n
  rw [pw_succ] at h
  by_cases h0 : c = 0
  · subst h0; omega
  · have : 1 * (4294967296 * pw n) ≤ c * (4294967296 * pw n) := Nat.mul_le_mul_right _ (by omega)
    omega

theorem sub_end {S c A B P : Nat} (h : S + B = A + c * P) (hS : S < P) (hBA : B ≤ A) : S = A - B := by
  by_cases h0 : c = 0
  · subst h0; omega
  · have : 1 * P ≤ c * P := Nat.mul_le_mul_right _ (by omega)
    omega

theorem pw_two (n : Nat) : pw n = 2 ^ (32 * n) := by
  induction n with
  | zero => rfl
  | succ n ih =>
    rw [pw_succ, ih, show 32 * (n + 1) = 32 * n + 32 by omega, Nat.pow_add, Nat.mul_comm]

/-- The i-th bit. -/
def bitAt (f : Nat → Nat) (n i : Nat) : Nat := at0 f n (i / 32) / 2 ^ (i % 32) % 2

theorem bitAt_le (f : Nat → Nat) (n i : Nat) : bitAt f n i ≤ 1 := by unfold bitAt; omega

theorem bit_low {a R s : Nat} (hs : s < 32) : (a + 4294967296 * R) / 2 ^ s % 2 = a / 2 ^ s % 2 := by
  have e : (4294967296 : Nat) = 2 ^ s * (2 * 2 ^ (31 - s)) := by
    have e1 : (2 : Nat) * 2 ^ (31 - s) = 2 ^ (32 - s) := by
      rw [Nat.mul_comm, ← Nat.pow_succ]
      congr 1
      omega
    rw [e1, ← Nat.pow_add]
    have : s + (32 - s) = 32 := by omega
    rw [this]
  have e2 : 4294967296 * R = 2 ^ s * (2 * (2 ^ (31 - s) * R)) := by
    rw [e]
    simp only [Nat.mul_assoc]
  rw [e2, Nat.add_mul_div_left _ _ (Nat.pow_pos (by decide))]
  omega

theorem val_bit {f : Nat → Nat} {n : Nat} (lf : Lim f n) (i : Nat) : val f n / 2 ^ i % 2 = bitAt f n i := by
  unfold bitAt
  have hi : i = 32 * (i / 32) + i % 32 := by omega
  have hp : (2 : Nat) ^ i = pw (i / 32) * 2 ^ (i % 32) := by
    rw [pw_two, ← Nat.pow_add, ← hi]
  rw [hp, ← Nat.div_div_eq_div_mul]
  generalize hm : i / 32 = m
  have hs : i % 32 < 32 := Nat.mod_lt _ (by decide)
  generalize i % 32 = s at hs
  by_cases h : m < n
  · rw [at0_in h]
    obtain ⟨d, rfl⟩ := Nat.le.dest (show m + 1 ≤ n by omega)
    have e : val f (m + 1 + d) = val f m + pw m * (f m + 4294967296 * val (fun j => f (m + 1 + j)) d) := by
      rw [val_add, val_succ, pw_succ, Nat.mul_add, Nat.mul_comm (f m), ← Nat.add_assoc]
      congr 1
      rw [Nat.mul_left_comm, Nat.mul_assoc, Nat.mul_left_comm]
    rw [e, Nat.add_mul_div_left _ _ (pw_pos m), Nat.div_eq_of_lt (val_lt (lf.mono (by omega))), Nat.zero_add]
    exact bit_low hs
  · rw [at0_out (by omega)]
    have : val f n < pw m := Nat.lt_of_lt_of_le (val_lt lf) (pw_le (by omega))
    rw [Nat.div_eq_of_lt this]

/-- The bits from place j on, and the one below. -/
theorem val_top {f : Nat → Nat} {n : Nat} (lf : Lim f n) (j : Nat) : val f n / 2 ^ j = 2 * (val f n / 2 ^ (j + 1)) + bitAt f n j := by
  rw [← val_bit lf j]
  have e : val f n / 2 ^ (j + 1) = val f n / 2 ^ j / 2 := by rw [Nat.pow_succ, Nat.div_div_eq_div_mul]
  rw [e]
  omega

theorem val_none {f : Nat → Nat} {n : Nat} (lf : Lim f n) : val f n / 2 ^ (32 * n) = 0 := by
  rw [← pw_two]; exact Nat.div_eq_of_lt (val_lt lf)

/-- A bit more: the quotient and the rest. -/
theorem div_bit {Z Y b : Nat} (hY : 0 < Y) (hb : b ≤ 1) :
    (Y ≤ 2 * (Z % Y) + b → (2 * Z + b) / Y = 2 * (Z / Y) + 1 ∧ (2 * Z + b) % Y = 2 * (Z % Y) + b - Y) ∧
    (2 * (Z % Y) + b < Y → (2 * Z + b) / Y = 2 * (Z / Y) ∧ (2 * Z + b) % Y = 2 * (Z % Y) + b) := by
  have e := Nat.div_add_mod Z Y
  have hr := Nat.mod_lt Z hY
  generalize hq : Z / Y = q at *
  generalize hm : Z % Y = r at *
  constructor
  · intro h
    have e1 : Y * (2 * q + 1) = 2 * (Y * q) + Y := by rw [Nat.mul_add, Nat.mul_left_comm]; omega
    exact (Nat.div_mod_unique hY).2 ⟨by omega, by omega⟩
  · intro h
    have e1 : Y * (2 * q) = 2 * (Y * q) := Nat.mul_left_comm _ _ _
    exact (Nat.div_mod_unique hY).2 ⟨by omega, by omega⟩

/-- A step of a greatest divisor halves the product. -/
theorem gcd_step {x y k T : Nat} (hyx : y < x) (hy : 0 < y) (h : x * y * 2 ^ k ≤ T) : x % y < y ∧ y * (x % y) * 2 ^ (k + 1) ≤ T := by
  have hm := Nat.mod_lt x hy
  refine ⟨hm, ?_⟩
  have e := Nat.div_add_mod x y
  have q1 : 1 ≤ x / y := (Nat.le_div_iff_mul_le hy).2 (by omega)
  have q2 : y * 1 ≤ y * (x / y) := Nat.mul_le_mul_left _ q1
  have h2 : 2 * (x % y) ≤ x := by omega
  have h3 : y * (x % y) * 2 ^ (k + 1) = y * (2 * (x % y)) * 2 ^ k := by
    rw [Nat.pow_succ, Nat.mul_comm (2 ^ k) 2, ← Nat.mul_assoc, Nat.mul_assoc y, Nat.mul_comm (x % y) 2]
  rw [h3]
  refine Nat.le_trans (Nat.mul_le_mul_right _ (Nat.mul_le_mul_left _ h2)) ?_
  rw [Nat.mul_comm y x]; exact h

theorem gcd_start {x y n m : Nat} (hx : x ≤ pw n) (hy : y ≤ pw n) (hm : 64 * n + 1 ≤ m) : x * y * 2 ^ 1 ≤ 2 ^ m := by
  have a : x * y ≤ pw n * pw n := Nat.mul_le_mul hx hy
  rw [pw_two, ← Nat.pow_add] at a
  have b : x * y * 2 ^ 1 ≤ 2 ^ (32 * n + 32 * n) * 2 ^ 1 := Nat.mul_le_mul_right _ a
  rw [← Nat.pow_add] at b
  exact Nat.le_trans b (Nat.pow_le_pow_right (by decide) (by omega))

theorem gcd_few {x y k m : Nat} (hyx : y < x) (hy : 0 < y) (h : x * y * 2 ^ k ≤ 2 ^ m) : k ≤ m := by
  have h1 : 1 ≤ x * y := Nat.mul_pos (by omega) hy
  have h2 : 1 * 2 ^ k ≤ x * y * 2 ^ k := Nat.mul_le_mul_right _ h1
  have h3 : 2 ^ k ≤ 2 ^ m := by omega
  exact (Nat.pow_le_pow_iff_right (by decide)).1 h3

end Go.Proofs.Ytnnipciifjpooaa.Num
