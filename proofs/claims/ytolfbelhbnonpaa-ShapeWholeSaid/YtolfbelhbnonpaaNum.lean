/-
  Plain facts on numbers that are limbs of 32 bits, the lowest one first: the value of n limbs, its bounds, that limbs without noughts on top are one value's alone. No program is named here.
-/
namespace Go.Proofs.Ytolfbelhbnonpaa.Num

/-- 2^(32 n). -/
def pw : Nat → Nat
  | 0 => 1
  | n + 1 => 4294967296 * pw n

theorem pw_pos (n : Nat) : 0 < pw n := by
  induction n with
  | zero => decide
  | succ n ih => show 0 < 4294967296 * pw n; omega

theorem pw_succ (n : Nat) : pw (n + 1) = 4294967296 * pw n := rfl

theorem pw_add (n m : Nat) : pw (n + m) = pw n * pw m := by
  induction m with
  | zero => simp [pw]
  | succ m ih => rw [← Nat.add_assoc, pw_succ, ih, pw_succ, Nat.mul_left_comm]

theorem pw_le {n m : Nat} (h : n ≤ m) : pw n ≤ pw m := by
  obtain ⟨k, rfl⟩ := Nat.le.dest h
  rw [pw_add]
  exact Nat.le_mul_of_pos_right _ (pw_pos k)

/-- The value of the first n limbs. -/
def val (f : Nat → Nat) : Nat → Nat
  | 0 => 0
  | n + 1 => val f n + f n * pw n

theorem val_zero (f : Nat → Nat) : val f 0 = 0 := rfl

theorem val_succ (f : Nat → Nat) (n : Nat) : val f (n + 1) = val f n + f n * pw n := rfl

/-- Each of the first n is a limb. -/
def Lim (f : Nat → Nat) (n : Nat) : Prop := ∀ j, j < n → f j < 4294967296

theorem Lim.mono {f : Nat → Nat} {n m : Nat} (h : Lim f n) (hm : m ≤ n) : Lim f m := fun j hj => h j (Nat.lt_of_lt_of_le hj hm)

theorem mul_lt_pw {x n : Nat} (h : x < 4294967296) : x * pw n + pw n ≤ pw (n + 1) := by
  rw [pw_succ, ← Nat.succ_mul]
  exact Nat.mul_le_mul_right _ h

theorem val_lt {f : Nat → Nat} {n : Nat} (h : Lim f n) : val f n < pw n := by
  induction n with
  | zero => exact Nat.zero_lt_one
  | succ n ih =>
    have a := ih (h.mono (Nat.le_succ n))
    have b := mul_lt_pw (n := n) (h n (Nat.lt_succ_self n))
    rw [val_succ]
    omega

theorem val_congr {f g : Nat → Nat} {n : Nat} (h : ∀ j, j < n → f j = g j) : val f n = val g n := by
  induction n with
  | zero => rfl
  | succ n ih => rw [val_succ, val_succ, ih (fun j hj => h j (Nat.lt_succ_of_lt hj)), h n (Nat.lt_succ_self n)]

theorem val_ge {f : Nat → Nat} {n : Nat} (h : f n ≠ 0) : pw n ≤ val f (n + 1) := by
  rw [val_succ]
  have : 1 * pw n ≤ f n * pw n := Nat.mul_le_mul_right _ (by omega)
  omega

theorem val_nought {f : Nat → Nat} {n : Nat} (h : f n = 0) : val f (n + 1) = val f n := by rw [val_succ, h]; simp

/-- Equal values, equal limbs. -/
theorem val_inj {f g : Nat → Nat} {n : Nat} (hf : Lim f n) (hg : Lim g n) (h : val f n = val g n) : ∀ j, j < n → f j = g j := by
  induction n with
  | zero => intro j hj; omega
  | succ n ih =>
    have a := val_lt (hf.mono (Nat.le_succ n))
    have b := val_lt (hg.mono (Nat.le_succ n))
    rw [val_succ, val_succ] at h
    have e : f n = g n := by
      have h1 := congrArg (· / pw n) h
      simp only [Nat.add_mul_div_right _ _ (pw_pos n), Nat.div_eq_of_lt a, Nat.div_eq_of_lt b, Nat.zero_add] at h1
      exact h1
    have e2 : val f n = val g n := by rw [e] at h; omega
    intro j hj
    by_cases c : j = n
    · subst c; exact e
    · exact ih (hf.mono (Nat.le_succ n)) (hg.mono (Nat.le_succ n)) e2 j (by omega)

/-- No nought on top. -/
def Top (f : Nat → Nat) (n : Nat) : Prop := n = 0 ∨ f (n - 1) ≠ 0

theorem len_le_of_val_le {f g : Nat → Nat} {n m : Nat} (hg : Lim g m) (tf : Top f n) (h : val f n ≤ val g m) : n ≤ m := by
  rcases tf with rfl | tf
  · omega
  · apply Nat.le_of_not_lt
    intro hlt
    have hn : n = n - 1 + 1 := by omega
    have a : pw (n - 1) ≤ val f n := by
      rw [hn]
      exact val_ge tf
    have b := val_lt hg
    have c : pw m ≤ pw (n - 1) := pw_le (by omega)
    omega

theorem canon_len {f g : Nat → Nat} {n m : Nat} (hf : Lim f n) (hg : Lim g m) (tf : Top f n) (tg : Top g m) (h : val f n = val g m) : n = m :=
  Nat.le_antisymm (len_le_of_val_le hg tf (Nat.le_of_eq h)) (len_le_of_val_le hf tg (Nat.le_of_eq h.symm))

/-- n limbs without noughts on top, whose value is v. -/
structure Canon (v : Nat) (n : Nat) (f : Nat → Nat) : Prop where
  lim : Lim f n
  top : Top f n
  val : val f n = v

theorem Canon.len {v n m : Nat} {f g : Nat → Nat} (a : Canon v n f) (b : Canon v m g) : n = m := canon_len a.lim b.lim a.top b.top (a.val.trans b.val.symm)

theorem Canon.eq {v n m : Nat} {f g : Nat → Nat} (a : Canon v n f) (b : Canon v m g) : ∀ j, j < n → f j = g j := by
  obtain rfl := a.len b
  exact val_inj a.lim b.lim (a.val.trans b.val.symm)

theorem Canon.zero {n : Nat} {f : Nat → Nat} (a : Canon 0 n f) : n = 0 := a.len (g := f) ⟨fun j hj => by omega, .inl rfl, rfl⟩

theorem Canon.ne_zero {v n : Nat} {f : Nat → Nat} (a : Canon v n f) : n = 0 ↔ v = 0 := by
  constructor
  · rintro rfl; exact a.val.symm
  · rintro rfl; exact a.zero

theorem canon_zero (f : Nat → Nat) : Canon 0 0 f := ⟨fun j hj => by omega, .inl rfl, rfl⟩

theorem Canon.lt_pw {v n : Nat} {f : Nat → Nat} (a : Canon v n f) : v < pw n := by rw [← a.val]; exact val_lt a.lim

theorem Canon.len_le {v n k : Nat} {f : Nat → Nat} (a : Canon v n f) (h : v < pw k) : n ≤ k := by
  rcases a.top with rfl | t
  · omega
  · apply Nat.le_of_not_lt
    intro hlt
    have hn : n = n - 1 + 1 := by omega
    have e : pw (n - 1) ≤ Num.val f n := by
      rw [hn]
      exact val_ge t
    have c : pw k ≤ pw (n - 1) := pw_le (by omega)
    have := a.val
    omega

/-- The limb at a place, which may be above the top. -/
def at0 (f : Nat → Nat) (n i : Nat) : Nat := if i < n then f i else 0

theorem at0_lt {f : Nat → Nat} {n : Nat} (h : Lim f n) (i : Nat) : at0 f n i < 4294967296 := by
  unfold at0
  split
  · exact h i ‹_›
  · decide

theorem at0_in {f : Nat → Nat} {n i : Nat} (h : i < n) : at0 f n i = f i := if_pos h

theorem at0_out {f : Nat → Nat} {n i : Nat} (h : n ≤ i) : at0 f n i = 0 := if_neg (by omega)

theorem val_at0_le {f : Nat → Nat} {n m : Nat} (h : m ≤ n) : val (at0 f n) m = val f m := val_congr fun j hj => at0_in (by omega)

theorem val_at0_ge {f : Nat → Nat} {n m : Nat} (h : n ≤ m) : val (at0 f n) m = val f n := by
  induction m with
  | zero => obtain rfl : n = 0 := by omega
            rfl
  | succ m ih =>
    by_cases c : n = m + 1
    · subst c; exact val_at0_le (Nat.le_refl _)
    · rw [val_succ, ih (by omega), at0_out (by omega)]; simp

theorem at0_lim {f : Nat → Nat} {n : Nat} (h : Lim f n) (m : Nat) : Lim (at0 f n) m := fun i _ => at0_lt h i

/-- A limb put at a place. -/
def put (f : Nat → Nat) (i x : Nat) : Nat → Nat := fun j => if j = i then x else f j

theorem put_at (f : Nat → Nat) (i x : Nat) : put f i x i = x := if_pos rfl

theorem put_ne {f : Nat → Nat} {i x j : Nat} (h : j ≠ i) : put f i x j = f j := if_neg h

theorem val_put (f : Nat → Nat) (i x n : Nat) (h : n ≤ i) : val (put f i x) n = val f n := val_congr fun j hj => put_ne (by omega)

theorem val_put_succ (f : Nat → Nat) (i x : Nat) : val (put f i x) (i + 1) = val f i + x * pw i := by rw [val_succ, val_put f i x i (Nat.le_refl _), put_at]

theorem put_lim {f : Nat → Nat} {n i x : Nat} (h : Lim f n) (hx : x < 4294967296) : Lim (put f i x) n := by
  intro j hj
  by_cases c : j = i
  · subst c; rw [put_at]; exact hx
  · rw [put_ne c]; exact h j hj

/-- A step of a sum with carries: what it does to the values. -/
theorem sum_step {A B S c c' s x y P : Nat} (h : S + c * P = A + B) (e : s + 4294967296 * c' = x + y + c) : S + s * P + c' * (4294967296 * P) = A + x * P + (B + y * P) := by
  have e' := congrArg (· * P) e
  simp only [Nat.add_mul] at e'
  have : c' * (4294967296 * P) = 4294967296 * c' * P := by rw [Nat.mul_left_comm, Nat.mul_assoc]
  omega

/-- A step of a difference with borrows. -/
theorem dif_step {A B D c c' d x y P : Nat} (h : D + B = A + c * P) (e : d + y + c = x + 4294967296 * c') : D + d * P + (B + y * P) = A + x * P + c' * (4294967296 * P) := by
  have e' := congrArg (· * P) e
  simp only [Nat.add_mul] at e'
  have : c' * (4294967296 * P) = 4294967296 * c' * P := by rw [Nat.mul_left_comm, Nat.mul_assoc]
  omega

theorem sum_end {S c A B N : Nat} (h : S + c * pw (N + 1) = A + B) (hA : A < pw N) (hB : B < pw N) : S = A + B ∧ c = 0 := by
  have hp := pw_pos N
  rw [pw_succ] at h
  by_cases h0 : c = 0
  · subst h0; omega
  · have : 1 * (4294967296 * pw N) ≤ c * (4294967296 * pw N) := Nat.mul_le_mul_right _ (by omega)
    omega

end Go.Proofs.Ytolfbelhbnonpaa.Num
