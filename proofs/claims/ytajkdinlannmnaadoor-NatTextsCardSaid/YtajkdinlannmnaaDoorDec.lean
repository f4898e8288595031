/-
  Plain facts on decimal digits, the lowest first: the value of n digits, that digits without noughts on top are one value's alone.
-/
import Derived.Test.YtajkdinlannmnaaDoorNum2
namespace Go.Proofs.YtajkdinlannmnaaDoor.Num

/-- The value of the first n digits, the lowest first. -/
def dval (f : Nat → Nat) : Nat → Nat
  | 0 => 0
  | n + 1 => dval f n + f n * 10 ^ n

theorem dval_succ (f : Nat → Nat) (n : Nat) : dval f (n + 1) = dval f n + f n * 10 ^ n := rfl

/-- Each of the first n is a digit. -/
def Dig (f : Nat → Nat) (n : Nat) : Prop := ∀ j, j < n → f j < 10
theorem Dig.mono {f : Nat → Nat} {n m : Nat} (h : Dig f n) (hm : m ≤ n) : Dig f m := fun j hj => h j (Nat.lt_of_lt_of_le hj hm)

theorem ten_pos (n : Nat) : 0 < 10 ^ n := Nat.pow_pos (by decide)
theorem ten_succ (n : Nat) : 10 ^ (n + 1) = 10 * 10 ^ n := by rw [Nat.pow_succ, Nat.mul_comm]

theorem dval_lt {f : Nat → Nat} {n : Nat} (h : Dig f n) : dval f n < 10 ^ n := by
  induction n with
  | zero => exact Nat.zero_lt_one
  | succ n ih =>
    have a := ih (h.mono (Nat.le_succ n))
    have b : (f n + 1) * 10 ^ n ≤ 10 * 10 ^ n := Nat.mul_le_mul_right _ (h n (Nat.lt_succ_self n))
    rw [Nat.add_mul] at b
    rw [dval_succ, ten_succ]
    omega

theorem dval_congr {f g : Nat → Nat} {n : Nat} (h : ∀ j, j < n → f j = g j) : dval f n = dval g n := by
  induction n with
  | zero => rfl
  | succ n ih => rw [dval_succ, dval_succ, ih (fun j hj => h j (Nat.lt_succ_of_lt hj)), h n (Nat.lt_succ_self n)]

theorem dval_ge {f : Nat → Nat} {n : Nat} (h : f n ≠ 0) : 10 ^ n ≤ dval f (n + 1) := by
  rw [dval_succ]
  have : 1 * 10 ^ n ≤ f n * 10 ^ n := Nat.mul_le_mul_right _ (by omega)
  omega

theorem dval_nought {f : Nat → Nat} {n : Nat} (h : f n = 0) : dval f (n + 1) = dval f n := by rw [dval_succ, h]; simp

theorem dval_inj {f g : Nat → Nat} {n : Nat} (hf : Dig f n) (hg : Dig g n) (h : dval f n = dval g n) : ∀ j, j < n → f j = g j := by
  induction n with
  | zero => intro j hj; omega
  | succ n ih =>
    have a := dval_lt (hf.mono (Nat.le_succ n))
    have b := dval_lt (hg.mono (Nat.le_succ n))
    rw [dval_succ, dval_succ] at h
    have e : f n = g n := by
      have h1 := congrArg (· / 10 ^ n) h
      simp only [Nat.add_mul_div_right _ _ (ten_pos n), Nat.div_eq_of_lt a, Nat.div_eq_of_lt b, Nat.zero_add] at h1
      exact h1
    have e2 : dval f n = dval g n := by rw [e] at h; omega
    intro j hj
    by_cases c : j = n
    · subst c; exact e
    · exact ih (hf.mono (Nat.le_succ n)) (hg.mono (Nat.le_succ n)) e2 j (by omega)

theorem ten_le {n m : Nat} (h : n ≤ m) : 10 ^ n ≤ 10 ^ m := Nat.pow_le_pow_right (by decide) h

theorem pw_two' (n : Nat) : pw n = 2 ^ (32 * n) := by
  induction n with
  | zero => rfl
  | succ n ih =>
    rw [pw_succ, ih, show 32 * (n + 1) = 32 * n + 32 by omega, Nat.pow_add, Nat.mul_comm]

/-- n digits without noughts on top, whose value is v. -/
structure Dcan (v n : Nat) (f : Nat → Nat) : Prop where
  dig : Dig f n
  top : Top f n
  val : dval f n = v

theorem dlen_le {f g : Nat → Nat} {n m : Nat} (hg : Dig g m) (tf : Top f n) (h : dval f n ≤ dval g m) : n ≤ m := by
  rcases tf with rfl | tf
  · omega
  · apply Nat.le_of_not_lt
    intro hlt
    have hn : n = n - 1 + 1 := by omega
    have a : 10 ^ (n - 1) ≤ dval f n := by
      rw [hn]
      exact dval_ge tf
    have b := dval_lt hg
    have c : 10 ^ m ≤ 10 ^ (n - 1) := ten_le (by omega)
    omega

theorem Dcan.len {v n m : Nat} {f g : Nat → Nat} (a : Dcan v n f) (b : Dcan v m g) : n = m :=
  Nat.le_antisymm (dlen_le b.dig a.top (Nat.le_of_eq (a.val.trans b.val.symm))) (dlen_le a.dig b.top (Nat.le_of_eq (b.val.trans a.val.symm)))
theorem Dcan.eq {v n m : Nat} {f g : Nat → Nat} (a : Dcan v n f) (b : Dcan v m g) : ∀ j, j < n → f j = g j := by
  obtain rfl := a.len b
  exact dval_inj a.dig b.dig (a.val.trans b.val.symm)

theorem dval_put (f : Nat → Nat) (i x n : Nat) (h : n ≤ i) : dval (put f i x) n = dval f n := dval_congr fun j hj => put_ne (by omega)
theorem dval_put_succ (f : Nat → Nat) (i x : Nat) : dval (put f i x) (i + 1) = dval f i + x * 10 ^ i := by rw [dval_succ, dval_put f i x i (Nat.le_refl _), put_at]
theorem put_dig {f : Nat → Nat} {n x : Nat} (h : Dig f n) (hx : x < 10) : Dig (put f n x) (n + 1) := by
  intro j hj
  by_cases c : j = n
  · rw [c, put_at]; exact hx
  · rw [put_ne c]; exact h j (by omega)

/-- The text of n digits, the highest first; of none it is 0. -/
def digBytes (f : Nat → Nat) (n : Nat) : List UInt8 := ((List.range n).map fun j => UInt8.ofNat (48 + f (n - 1 - j)))
def decText (f : Nat → Nat) (n : Nat) : List UInt8 := if n = 0 then [48] else digBytes f n

theorem decText_eq {v n m : Nat} {f g : Nat → Nat} (a : Dcan v n f) (b : Dcan v m g) : decText f n = decText g m := by
  obtain rfl := a.len b
  unfold decText
  split
  · rfl
  · exact List.map_congr_left fun j hj => by rw [a.eq b _ (by have := List.mem_range.1 hj; omega)]

/-- A limb from the top on: what 'divide by D' does to it and to the rest. -/
theorem short_div {U D x : Nat} (hD : 0 < D) (hx : x < 4294967296) :
    (x + 4294967296 * U) / D = (U % D * 4294967296 + x) / D + 4294967296 * (U / D) ∧ (x + 4294967296 * U) % D = (U % D * 4294967296 + x) % D ∧ (U % D * 4294967296 + x) / D < 4294967296 := by
  have e := Nat.div_add_mod U D
  have e1 : x + 4294967296 * U = (U % D * 4294967296 + x) + D * (4294967296 * (U / D)) := by
    have : 4294967296 * U = 4294967296 * (D * (U / D)) + 4294967296 * (U % D) := by rw [← Nat.mul_add, e]
    have e2 : 4294967296 * (D * (U / D)) = D * (4294967296 * (U / D)) := Nat.mul_left_comm _ _ _
    omega
  refine ⟨?_, ?_, ?_⟩
  · rw [e1, Nat.add_mul_div_left _ _ hD]
  · rw [e1, Nat.add_mul_mod_self_left]
  · rw [Nat.div_lt_iff_lt_mul hD]
    have : (U % D + 1) * 4294967296 ≤ D * 4294967296 := Nat.mul_le_mul_right _ (Nat.mod_lt _ hD)
    rw [Nat.add_mul] at this
    rw [Nat.mul_comm 4294967296 D]
    omega

theorem val_cons' (h : Nat → Nat) (j n : Nat) : val (fun t => h (j + t)) (n + 1) = h j + 4294967296 * val (fun t => h (j + 1 + t)) n := by
  have e := val_add (fun t => h (j + t)) 1 n
  rw [Nat.add_comm 1 n] at e
  rw [e, val_congr (f := fun t => h (j + (1 + t))) (g := fun t => h (j + 1 + t)) (fun t _ => by rw [Nat.add_assoc])]
  simp [val, pw]

/-- Digits so far, and what is still to come. -/
theorem dec_step {d : Nat → Nat} {L V R G : Nat} (h : dval d L + 10 ^ L * (G + R) = V) : dval (put d L (G % 10)) (L + 1) + 10 ^ (L + 1) * (G / 10) + 10 ^ L * R = V := by
  rw [dval_put_succ, ten_succ]
  have e := Nat.mod_add_div G 10
  have e1 : 10 ^ L * G = G % 10 * 10 ^ L + 10 * 10 ^ L * (G / 10) := by
    have : 10 ^ L * G = 10 ^ L * (G % 10 + 10 * (G / 10)) := by rw [e]
    rw [this, Nat.mul_add, Nat.mul_comm (10 ^ L) (G % 10), ← Nat.mul_assoc, Nat.mul_comm (10 ^ L) 10]
  rw [Nat.mul_add] at h
  omega

end Go.Proofs.YtajkdinlannmnaaDoor.Num
