/-
  Plain facts on limbs moved up and down, and on the steps of a division.
-/
import Derived.Test.YtnnipciifjpooaaNum2
import Derived.Test.YtnnipciifjpooaaBitsNum
namespace Go.Proofs.Ytnnipciifjpooaa.Num

/-- Moving up, a step: the limb's low part goes beside what is there, the high part above. -/
theorem up_parts {x P E : Nat} (hPE : P * E = 4294967296) (hx : x < 4294967296) (hP : 0 < P) : x * P % 4294967296 = P * (x % E) ∧ x * P / 4294967296 < P := by
  constructor
  · rw [← hPE, Nat.mul_comm x P, Nat.mul_mod_mul_left]
  · rw [Nat.div_lt_iff_lt_mul (by decide), Nat.mul_comm P]
    exact (Nat.mul_lt_mul_right hP).2 hx

theorem or_low {a u m : Nat} (ha : a < 2 ^ u) : a ||| 2 ^ u * m = a + 2 ^ u * m := by
  rw [Nat.or_comm, ← Nat.two_pow_add_eq_or_of_lt ha m, Nat.add_comm]

theorem wrap_u64 (n : Nat) (h : n < 18446744073709551616) : IntKind.u64.wrap (n : Int) = (n : Int) := by
  simp [IntKind.wrap, IntKind.signed, IntKind.bits]
  omega

theorem pow_parts {u : Nat} (hu : u < 32) : 2 ^ u * 2 ^ (32 - u) = 4294967296 := by
  rw [← Nat.pow_add]
  have : u + (32 - u) = 32 := by omega
  rw [this]

theorem cast_mul_pow (x u : Nat) : (x : Int) * 2 ^ u = ((x * 2 ^ u : Nat) : Int) := by
  rw [Int.natCast_mul, Int.natCast_pow]; rfl

theorem mul_pow_lt {x u : Nat} (hu : u < 32) (hx : x < 4294967296) : x * 2 ^ u < 18446744073709551616 := by
  have h1 := pow_parts hu
  have h2 : 0 < 2 ^ (32 - u) := Nat.pow_pos (by decide)
  have h3 : 2 ^ u * 1 ≤ 2 ^ u * 2 ^ (32 - u) := Nat.mul_le_mul_left _ h2
  have h4 : x * 2 ^ u ≤ 4294967295 * 2 ^ u := Nat.mul_le_mul_right _ (by omega)
  omega

theorem up_lo {a x u : Nat} (hu : u < 32) (hx : x < 4294967296) (ha : a < 2 ^ u) :
    bits BinOp.or IntKind.u32 (a : Int) (IntKind.u64.wrap ((x : Int) * 2 ^ u) % 4294967296) = ((a + x * 2 ^ u % 4294967296 : Nat) : Int) := by
  have h1 := pow_parts hu
  have h2 : 0 < 2 ^ (32 - u) := Nat.pow_pos (by decide)
  have h3 : 2 ^ u * 1 ≤ 2 ^ u * 2 ^ (32 - u) := Nat.mul_le_mul_left _ h2
  have e : ((x * 2 ^ u : Nat) : Int) % 4294967296 = ((x * 2 ^ u % 4294967296 : Nat) : Int) := by omega
  rw [cast_mul_pow, wrap_u64 _ (mul_pow_lt hu hx), e, or32 _ _ (by omega) (Nat.mod_lt _ (by decide)), (up_parts h1 hx (Nat.pow_pos (by decide))).1, or_low ha]

theorem up_hi {x u : Nat} (hu : u < 32) (hx : x < 4294967296) : IntKind.u64.wrap ((x : Int) * 2 ^ u) / 4294967296 % 4294967296 = ((x * 2 ^ u / 4294967296 : Nat) : Int) := by
  have h := mul_pow_lt hu hx
  rw [cast_mul_pow, wrap_u64 _ h]
  omega

theorem up_lo_lt {a x u : Nat} (hu : u < 32) (hx : x < 4294967296) (ha : a < 2 ^ u) : a + x * 2 ^ u % 4294967296 < 4294967296 ∧ x * 2 ^ u / 4294967296 < 2 ^ u ∧ x * 2 ^ u / 4294967296 < 4294967296 := by
  have h1 := pow_parts hu
  have h2 : 0 < 2 ^ (32 - u) := Nat.pow_pos (by decide)
  have h3 : 2 ^ u * 1 ≤ 2 ^ u * 2 ^ (32 - u) := Nat.mul_le_mul_left _ h2
  obtain ⟨e1, e2⟩ := up_parts h1 hx (Nat.pow_pos (by decide))
  refine ⟨?_, e2, by omega⟩
  have h4 : x % 2 ^ (32 - u) < 2 ^ (32 - u) := Nat.mod_lt _ h2
  have h5 : 2 ^ u * (x % 2 ^ (32 - u) + 1) ≤ 2 ^ u * 2 ^ (32 - u) := Nat.mul_le_mul_left _ h4
  rw [e1]
  rw [Nat.mul_add] at h5
  omega

/-- Moving up, a round. -/
theorem up_round {F : Nat → Nat} {j x u V : Nat} (hV : val F (j + 1) = V * 2 ^ u) :
    val (put (put F j (F j + x * 2 ^ u % 4294967296)) (j + 1) (x * 2 ^ u / 4294967296)) (j + 1 + 1) = (V + x * pw j) * 2 ^ u := by
  rw [val_put_succ, val_put_succ, pw_succ]
  rw [val_succ] at hV
  rw [Nat.add_mul V, ← hV, Nat.add_mul (F j)]
  have e : x * pw j * 2 ^ u = x * 2 ^ u * pw j := by rw [Nat.mul_right_comm]
  have e2 : x * 2 ^ u * pw j = (x * 2 ^ u % 4294967296 + 4294967296 * (x * 2 ^ u / 4294967296)) * pw j := by rw [Nat.mod_add_div]
  have e3 : x * 2 ^ u / 4294967296 * (4294967296 * pw j) = 4294967296 * (x * 2 ^ u / 4294967296) * pw j := by rw [Nat.mul_left_comm, Nat.mul_assoc]
  rw [e, e2, e3, Nat.add_mul]
  omega

/-- Moving down: what one limb becomes. -/
theorem down_limb {h l D E : Nat} (hDE : D * E = 4294967296) (hl : l < 4294967296) (hD : 0 < D) : (h * 4294967296 + l) / D % 4294967296 = h % D * E + l / D ∧ h % D * E + l / D < 4294967296 := by
  have hE : 0 < E := Nat.pos_of_ne_zero (fun e => by rw [e] at hDE; simp at hDE)
  have e1 : h * 4294967296 + l = D * (h * E) + l := by rw [← hDE, Nat.mul_left_comm]
  have e2 : (h * 4294967296 + l) / D = h * E + l / D := by rw [e1, Nat.mul_add_div hD]
  have e3 : h * E = h / D * 4294967296 + h % D * E := by
    have := Nat.div_add_mod h D
    have e4 : h * E = (D * (h / D) + h % D) * E := by rw [this]
    rw [e4, Nat.add_mul, ← hDE]
    congr 1
    rw [Nat.mul_comm D (h / D), Nat.mul_assoc]
  have b1 : l / D < E := by rw [Nat.div_lt_iff_lt_mul hD, Nat.mul_comm, hDE]; exact hl
  have b2 : h % D < D := Nat.mod_lt _ hD
  have b3 : (h % D + 1) * E ≤ D * E := Nat.mul_le_mul_right _ b2
  rw [Nat.add_mul, hDE] at b3
  rw [e2, e3]
  generalize h % D * E = g at *
  generalize l / D = q at *
  omega

theorem down_word {h l u : Nat} (hu : u < 32) (hh : h < 4294967296) (hl : l < 4294967296) :
    bits BinOp.or IntKind.u64 (IntKind.u64.wrap (IntKind.u64.wrap (h : Int) * 4294967296)) (IntKind.u64.wrap (l : Int)) / 2 ^ u % 4294967296 = ((h % 2 ^ u * 2 ^ (32 - u) + l / 2 ^ u : Nat) : Int) := by
  rw [wrap_u64 h (by omega), wrap_u64 l (by omega)]
  have e1 : (h : Int) * 4294967296 = ((h * 4294967296 : Nat) : Int) := by omega
  rw [e1, wrap_u64 _ (by omega), ← e1, or_shift _ _ (by omega) (by omega) (by omega) (by omega)]
  have e2 : (h : Int) * 4294967296 + l = ((h * 4294967296 + l : Nat) : Int) := by omega
  have e3 : (2 : Int) ^ u = ((2 ^ u : Nat) : Int) := by rw [Int.natCast_pow]; rfl
  rw [e2, e3, ← Int.natCast_ediv]
  have e4 : (((h * 4294967296 + l) / 2 ^ u : Nat) : Int) % 4294967296 = (((h * 4294967296 + l) / 2 ^ u % 4294967296 : Nat) : Int) := by omega
  rw [e4, (down_limb (pow_parts hu) hl (Nat.pow_pos (by decide))).1]

/-- Moving down, a step. -/
theorem down_step {G V r D E P h l : Nat} (hDE : D * E = 4294967296) (h0 : D * G + r = V + l % D * P) : D * (G + (h % D * E + l / D) * P) + r = V + l * P + h % D * (4294967296 * P) := by
  have e1 : D * ((h % D * E + l / D) * P) = h % D * (4294967296 * P) + D * (l / D) * P := by
    rw [Nat.add_mul, Nat.mul_add, ← hDE]
    congr 1
    · rw [Nat.mul_assoc, Nat.mul_left_comm, Nat.mul_assoc]
    · rw [Nat.mul_assoc]
  have e2 : l * P = D * (l / D) * P + l % D * P := by rw [← Nat.add_mul, Nat.div_add_mod]
  rw [Nat.mul_add, e1]
  omega

/-- The carry of 'take x times b off' stays a limb. -/
theorem take_carry {c x y r : Nat} (hc : c < 4294967296) (hx : x < 4294967296) (hy : y < 4294967296) (hr : r < 4294967296) (b : Nat) (hb : b = 0 ∨ (b = 1 ∧ r < (c + x * y) % 4294967296)) :
    c + x * y < 18446744073709551616 ∧ (c + x * y) / 4294967296 + b < 4294967296 := by
  have h1 : x * y ≤ 4294967295 * 4294967295 := Nat.mul_le_mul (by omega) (by omega)
  omega

/-- A step of taking x times a number off. -/
theorem take_step {S A B c c' s y x d b P : Nat} (h : S + x * B = A + c * P) (e : s + (c + x * y) % 4294967296 = d + 4294967296 * b) (hc : c' = (c + x * y) / 4294967296 + b) :
    S + s * P + x * (B + y * P) = A + d * P + c' * (4294967296 * P) := by
  have e0 : s + (c + x * y) = d + 4294967296 * c' := by omega
  have e' := congrArg (· * P) e0
  simp only [Nat.add_mul] at e'
  have h1 : c' * (4294967296 * P) = 4294967296 * c' * P := by rw [Nat.mul_left_comm, Nat.mul_assoc]
  have h2 : x * (B + y * P) = x * B + x * y * P := by rw [Nat.mul_add, Nat.mul_assoc]
  omega

end Go.Proofs.Ytnnipciifjpooaa.Num
