/-
  More plain facts on limbs: order, products, differences.
-/
import Derived.Test.YtnnipciifjpooaaNum
namespace Go.Proofs.Ytnnipciifjpooaa.Num

theorem val_lt_of_len {f g : Nat → Nat} {n m : Nat} (lf : Lim f n) (tg : Top g m) (h : n < m) : val f n < val g m := by
  rcases tg with rfl | t
  · omega
  · have a := val_lt lf
    have b : pw (m - 1) ≤ val g m := by
      have hm : m = m - 1 + 1 := by omega
      rw [hm]; exact val_ge t
    have c : pw n ≤ pw (m - 1) := pw_le (by omega)
    omega

/-- Where two numbers agree above a place, that place decides. -/
theorem val_lt_of_top {f g : Nat → Nat} {k : Nat} (lf : Lim f k) (j : Nat) (hj : j < k) (he : ∀ t, j < t → t < k → f t = g t) (hlt : f j < g j) : val f k < val g k := by
  induction k with
  | zero => omega
  | succ k ih =>
    rw [val_succ, val_succ]
    by_cases c : j = k
    · subst c
      have a := val_lt (lf.mono (Nat.le_succ j))
      have b : (f j + 1) * pw j ≤ g j * pw j := Nat.mul_le_mul_right _ hlt
      rw [Nat.add_mul] at b
      omega
    · have := ih (lf.mono (Nat.le_succ k)) (by omega) (fun t h1 h2 => he t h1 (by omega))
      rw [he k (by omega) (by omega)]
      omega

theorem dif_end {S c A B N : Nat} (h : S + B = A + c * pw N) (hS : S < pw N) (hc : c ≤ 1) : (c = 0 → B ≤ A ∧ S = A - B) ∧ (c ≠ 0 → A < B) := by
  constructor
  · rintro rfl; omega
  · intro h0
    have : c = 1 := by omega
    subst this
    omega

/-- A step of adding x times a number to a sum. -/
theorem mul_step {S A B c c' s y x d P : Nat} (h : S + c * P = A + x * B) (e : s + 4294967296 * c' = c + (x * y + d)) : S + s * P + c' * (4294967296 * P) = A + d * P + x * (B + y * P) := by
  have e' := congrArg (· * P) e
  simp only [Nat.add_mul] at e'
  have h1 : c' * (4294967296 * P) = 4294967296 * c' * P := by rw [Nat.mul_left_comm, Nat.mul_assoc]
  have h2 : x * (B + y * P) = x * B + x * y * P := by rw [Nat.mul_add, Nat.mul_assoc]
  omega

theorem mul_fits {x y d c : Nat} (hx : x < 4294967296) (hy : y < 4294967296) (hd : d < 4294967296) (hc : c < 4294967296) : c + (x * y + d) < 18446744073709551616 := by
  have : x * y ≤ 4294967295 * 4294967295 := Nat.mul_le_mul (by omega) (by omega)
  omega

theorem val_add (f : Nat → Nat) (n m : Nat) : val f (n + m) = val f n + pw n * val (fun j => f (n + j)) m := by
  induction m with
  | zero => simp [val]
  | succ m ih =>
    rw [← Nat.add_assoc, val_succ, ih, val_succ, pw_add, Nat.mul_add, Nat.add_assoc]
    congr 1
    rw [Nat.mul_left_comm]

theorem val_noughts (n : Nat) : val (fun _ => 0) n = 0 := by
  induction n with
  | zero => rfl
  | succ n ih => rw [val_succ, ih]; simp

/-- Adding x times a number from limb j on. -/
theorem mul_round {F F' g : Nat → Nat} {j l c x V : Nat} (h0 : ∀ t, t < j → F' t = F t) (h : val (fun t => F' (j + t)) l + c * pw l = val (fun t => F (j + t)) l + x * val g l) (hV : val F (j + l) = V * val g l) :
    val (put F' (j + l) c) (j + 1 + l) = (V + x * pw j) * val g l := by
  have e0 : j + 1 + l = j + l + 1 := by omega
  rw [e0, val_put_succ, val_add, val_congr (g := F) h0, Nat.add_mul, ← hV, val_add, pw_add]
  have e1 := congrArg (pw j * ·) h
  simp only [Nat.mul_add] at e1
  have e2 : pw j * (c * pw l) = c * (pw j * pw l) := Nat.mul_left_comm _ _ _
  have e3 : pw j * (x * val g l) = x * pw j * val g l := by rw [Nat.mul_left_comm, Nat.mul_assoc]
  omega

theorem val_shift_congr {F G : Nat → Nat} {o n : Nat} (h : ∀ j, o ≤ j → j < o + n → F j = G j) : val (fun j => F (o + j)) n = val (fun j => G (o + j)) n :=
  val_congr fun j hj => h (o + j) (by omega) (by omega)

end Go.Proofs.Ytnnipciifjpooaa.Num
