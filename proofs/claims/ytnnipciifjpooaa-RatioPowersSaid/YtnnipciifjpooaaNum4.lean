/-
  Plain facts on long division: a guess from the top limbs is never too small; what a guess that is not too great means; the whole division.
-/
import Derived.Test.YtnnipciifjpooaaNum2
namespace Go.Proofs.Ytnnipciifjpooaa.Num

theorem guess_ok {F g : Nat → Nat} {m : Nat} (lF : Lim F (m + 1 + 1)) (hlt : F (m + 1) < g m) :
    val F (m + 1 + 1) / val g (m + 1) ≤ (F (m + 1) * 4294967296 + F m) / g m := by
  have hg : 0 < g m := by omega
  have hp := pw_pos m
  rw [Nat.le_div_iff_mul_le hg]
  have h1 : val F (m + 1 + 1) / val g (m + 1) * val g (m + 1) ≤ val F (m + 1 + 1) := Nat.div_mul_le_self _ _
  have h2 : val F (m + 1 + 1) < (F (m + 1) * 4294967296 + F m + 1) * pw m := by
    have a := val_lt (lF.mono (show m ≤ m + 1 + 1 by omega))
    rw [val_succ, val_succ, pw_succ, Nat.add_mul, Nat.add_mul, Nat.mul_assoc]
    omega
  generalize val F (m + 1 + 1) / val g (m + 1) = q at *
  have h3 : q * (g m * pw m) ≤ q * val g (m + 1) := Nat.mul_le_mul_left _ (by rw [val_succ]; omega)
  have h4 : q * g m * pw m < (F (m + 1) * 4294967296 + F m + 1) * pw m := by
    rw [Nat.mul_assoc]; omega
  exact Nat.lt_succ_iff.1 ((Nat.mul_lt_mul_right hp).1 h4)

/-- Nothing is left to give back: the guess is the quotient. -/
theorem guess_done {T q D R : Nat} (h : T + q * D = R) (hq : R / D ≤ q) (hD : 0 < D) : q = R / D ∧ T = R % D := by
  have a : q ≤ R / D := by rw [Nat.le_div_iff_mul_le hD]; omega
  have e : q = R / D := by omega
  refine ⟨e, ?_⟩
  have := Nat.div_add_mod' R D
  rw [← e] at this
  omega

/-- Something is to be given back: the guess is too great. -/
theorem guess_great {T q D R P : Nat} (h : T + q * D = R + P) (hT : T < P) (hD : 0 < D) : R / D + 1 ≤ q := by
  rw [Nat.succ_le_iff, Nat.div_lt_iff_lt_mul hD]
  omega

theorem give_back {T T' q D R P B : Nat} (h : T + (q + 1) * D = R + P) (h' : T' + B * P = T + D) (hB : B ≤ 1) : T' + q * D = R + (1 - B) * P := by
  rw [Nat.add_mul] at h
  have : B = 0 ∨ B = 1 := by omega
  rcases this with rfl | rfl <;> omega

/-- A number below D times 2^(32 j) has nothing from limb j + m on, if D is of m limbs. -/
theorem high_noughts {F : Nat → Nat} {N j m D : Nat} (hD : D ≤ pw m) (h : val F N < D * pw j) : ∀ t, j + m ≤ t → t < N → F t = 0 := by
  intro t h1 h2
  apply Classical.byContradiction
  intro h0
  have a := val_ge h0
  have b : val F (t + 1) ≤ val F N := by
    obtain ⟨k, rfl⟩ := Nat.le.dest (show t + 1 ≤ N by omega)
    rw [val_add F (t + 1) k]
    omega
  have c : pw (j + m) ≤ pw t := pw_le h1
  have d : D * pw j ≤ pw m * pw j := Nat.mul_le_mul_right _ hD
  rw [pw_add, Nat.mul_comm] at c
  omega

theorem val_window {F : Nat → Nat} {N i k : Nat} (hk : i + k ≤ N) (hz : ∀ t, i + k ≤ t → t < N → F t = 0) : val F N = val F i + pw i * val (fun t => F (i + t)) k := by
  rw [← val_add]
  obtain ⟨d, rfl⟩ := Nat.le.dest hk
  rw [val_add F (i + k) d]
  have : val (fun t => F (i + k + t)) d = 0 := by
    rw [val_congr (g := fun _ => 0) (fun t ht => hz (i + k + t) (by omega) (by omega)), val_noughts]
  rw [this]; simp

theorem val_cons (h : Nat → Nat) (n : Nat) : val h (n + 1) = h 0 + 4294967296 * val (fun j => h (j + 1)) n := by
  have e := val_add h 1 n
  rw [Nat.add_comm 1 n] at e
  rw [e, val_congr (f := fun j => h (1 + j)) (g := fun j => h (j + 1)) (fun j _ => by rw [Nat.add_comm])]
  simp [val, pw]

/-- Where a division begins: what is divided is below the divisor times 2^(32 (t + 1)). -/
theorem div_start {x y u k l t : Nat} (hx : x < pw k) (hk : k = l + 1 + t) (hy : 2147483648 * pw l ≤ y) (hu : u < 32) : x * 2 ^ u < y * pw (t + 1) := by
  have h1 : (2 : Nat) ^ u ≤ 2147483648 := by
    have : (2 : Nat) ^ u ≤ 2 ^ 31 := Nat.pow_le_pow_right (by decide) (by omega)
    exact this
  have h2 : x * 2 ^ u < pw k * 2 ^ u := (Nat.mul_lt_mul_right (Nat.pow_pos (by decide))).2 hx
  have h3 : pw k * 2 ^ u ≤ pw k * 2147483648 := Nat.mul_le_mul_left _ h1
  have h4 : 2147483648 * pw l * pw (t + 1) ≤ y * pw (t + 1) := Nat.mul_le_mul_right _ hy
  rw [Nat.mul_assoc, ← pw_add] at h4
  have h5 : l + (t + 1) = k := by omega
  rw [h5, Nat.mul_comm] at h4
  omega

theorem lead_big {g : Nat → Nat} {l P : Nat} (h : 2147483648 ≤ g l * P) : 2147483648 * pw l ≤ val g (l + 1) * P := by
  rw [val_succ, Nat.add_mul]
  have h1 : 2147483648 * pw l ≤ g l * P * pw l := Nat.mul_le_mul_right _ h
  have h2 : g l * pw l * P = g l * P * pw l := Nat.mul_right_comm _ _ _
  omega

/-- One limb of the quotient. -/
theorem div_round {V V' L P Rw D Q A q : Nat} (hV : V = L + P * Rw) (hV' : V' = L + P * (Rw % D)) (hA : V + D * (P * 4294967296) * Q = A) (hq : q = Rw / D) (hL : L < P) (hD : 0 < D) :
    V' + D * P * (q + 4294967296 * Q) = A ∧ V' < D * P := by
  have e := Nat.div_add_mod Rw D
  have e1 : P * Rw = D * P * q + P * (Rw % D) := by
    rw [hq]
    have : P * Rw = P * (D * (Rw / D) + Rw % D) := by rw [e]
    rw [this, Nat.mul_add, ← Nat.mul_assoc, Nat.mul_comm P D]
  constructor
  · rw [Nat.mul_add]
    have e2 : D * P * (4294967296 * Q) = D * (P * 4294967296) * Q := by rw [← Nat.mul_assoc, Nat.mul_assoc D P]
    omega
  · have h1 : P * (Rw % D + 1) ≤ P * D := Nat.mul_le_mul_left _ (Nat.mod_lt _ hD)
    rw [Nat.mul_add, Nat.mul_comm P D] at h1
    omega

theorem div_window {V L P Rw D : Nat} (hV : V = L + P * Rw) (h : V < D * (P * 4294967296)) : Rw < 4294967296 * D := by
  have e : D * (P * 4294967296) = P * (4294967296 * D) := by rw [Nat.mul_left_comm, Nat.mul_comm D]
  rw [e, hV] at h
  have : P * Rw < P * (4294967296 * D) := by omega
  exact Nat.lt_of_mul_lt_mul_left this

/-- The whole division: by a divisor and a number, both moved up. -/
theorem div_whole {V D Q A x y u : Nat} (hA : V + D * Q = A) (hx : A = x * 2 ^ u) (hy : D = y * 2 ^ u) (hV : V < D) : Q = x / y ∧ V / 2 ^ u = x % y := by
  have hp : 0 < 2 ^ u := Nat.pow_pos (by decide)
  have hy0 : 0 < y := Nat.pos_of_ne_zero (fun e => by rw [hy, e] at hV; omega)
  have e1 : D * Q = y * Q * 2 ^ u := by rw [hy, Nat.mul_right_comm]
  have hQ : y * Q * 2 ^ u ≤ x * 2 ^ u := by omega
  have hQ' : y * Q ≤ x := Nat.le_of_mul_le_mul_right hQ hp
  have e2 : V = (x - y * Q) * 2 ^ u := by rw [Nat.sub_mul]; omega
  have e3 : V / 2 ^ u = x - y * Q := by rw [e2, Nat.mul_div_cancel _ hp]
  have lt : x - y * Q < y := by
    rw [e2, hy] at hV
    exact (Nat.mul_lt_mul_right hp).1 hV
  have := Nat.div_mod_unique (b := y) (a := x) (c := x - y * Q) (d := Q) hy0
  obtain ⟨a, b⟩ := this.2 ⟨by omega, lt⟩
  exact ⟨a.symm, by rw [e3, b]⟩

/-- Moved up till its top bit is 1, a number has as many limbs. -/
theorem lead_len {g : Nat → Nat} {m P : Nat} (lg : Lim g m) (h : g m * P < 4294967296) (hPE : ∃ E, P * E = 4294967296) : val g (m + 1) * P < pw (m + 1) := by
  obtain ⟨E, hE⟩ := hPE
  have hP : 0 < P := Nat.pos_of_ne_zero (fun e => by rw [e] at hE; simp at hE)
  have h1 : g m < E := by
    rw [← hE, Nat.mul_comm P] at h
    exact (Nat.mul_lt_mul_right hP).1 h
  have h2 : val g (m + 1) < (g m + 1) * pw m := by
    have := val_lt lg
    rw [val_succ, Nat.add_mul]; omega
  have h3 : (g m + 1) * pw m ≤ E * pw m := Nat.mul_le_mul_right _ h1
  have h4 : val g (m + 1) * P < E * pw m * P := (Nat.mul_lt_mul_right hP).2 (by omega)
  have h5 : E * pw m * P = pw (m + 1) := by rw [pw_succ, ← hE, Nat.mul_right_comm, Nat.mul_comm E]
  omega

end Go.Proofs.Ytnnipciifjpooaa.Num
