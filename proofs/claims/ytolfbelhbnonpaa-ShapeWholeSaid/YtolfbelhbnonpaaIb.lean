/-
  Places of a shape, plain: which numbers are the place of a cell; the place behind a place.
-/
import Derived.Test.YtolfbelhbnonpaaIa
import Derived.Test.YtolfbelhbnonpaaHs
namespace Go.Proofs.Ytolfbelhbnonpaa
open Go.RowKit

/-- The cell that stands at the first numbers of a place. -/
def cellZ (f g : Nat → Int) : Nat → Int
  | 0 => 0
  | n + 1 => cellZ f g n * f n + g n

/-- Each number is one of its axis'. -/
def Fits (f g : Nat → Int) (n : Nat) : Prop := ∀ j, j < n → 0 ≤ g j ∧ g j < f j

/-- g is the place of the cell c. -/
def PlaceIs (f g : Nat → Int) (n : Nat) (c : Int) : Prop := Fits f g n ∧ cellZ f g n = c

theorem Fits.mono {f g : Nat → Int} {n m : Nat} (h : Fits f g n) (hm : m ≤ n) : Fits f g m := fun j hj => h j (by omega)

theorem cellZ_congr {f g k : Nat → Int} : ∀ n, (∀ j, j < n → g j = k j) → cellZ f g n = cellZ f k n
  | 0, _ => rfl
  | n + 1, h => by
    show cellZ f g n * f n + g n = cellZ f k n * f n + k n
    rw [cellZ_congr n fun j hj => h j (by omega), h n (by omega)]

theorem cellZ_bound {f g : Nat → Int} : ∀ n, Fits f g n → 0 ≤ cellZ f g n ∧ cellZ f g n < prodZ f n
  | 0, _ => by show (0 : Int) ≤ 0 ∧ (0 : Int) < 1; decide
  | n + 1, h => by
    obtain ⟨a, b⟩ := cellZ_bound n (h.mono (by omega))
    obtain ⟨c, d⟩ := h n (by omega)
    show 0 ≤ cellZ f g n * f n + g n ∧ cellZ f g n * f n + g n < prodZ f n * f n
    have e1 : 0 ≤ cellZ f g n * f n := Int.mul_nonneg a (by omega)
    have e2 : (cellZ f g n + 1) * f n ≤ prodZ f n * f n := Int.mul_le_mul_of_nonneg_right (by omega) (by omega)
    rw [Int.add_mul, Int.one_mul] at e2
    omega

theorem mul_uniq {a b x y s : Int} (h : a * s + x = b * s + y) (hx0 : 0 ≤ x) (hx : x < s) (hy0 : 0 ≤ y) (hy : y < s) : a = b ∧ x = y := by
  have e : a = b := by
    refine Int.le_antisymm (Int.not_lt.1 fun k => ?_) (Int.not_lt.1 fun k => ?_)
    · have := Int.mul_le_mul_of_nonneg_right (show b + 1 ≤ a by omega) (show 0 ≤ s by omega)
      rw [Int.add_mul, Int.one_mul] at this
      omega
    · have := Int.mul_le_mul_of_nonneg_right (show a + 1 ≤ b by omega) (show 0 ≤ s by omega)
      rw [Int.add_mul, Int.one_mul] at this
      omega
  subst e
  exact ⟨rfl, by omega⟩

/-- Each cell has one place. -/
theorem place_uniq {f g k : Nat → Int} : ∀ n, Fits f g n → Fits f k n → cellZ f g n = cellZ f k n → ∀ j, j < n → g j = k j
  | 0, _, _, _, j, hj => by omega
  | n + 1, a, b, h, j, hj => by
    obtain ⟨a0, a1⟩ := a n (by omega)
    obtain ⟨b0, b1⟩ := b n (by omega)
    obtain ⟨e1, e2⟩ := mul_uniq h a0 a1 b0 b1
    by_cases e : j = n
    · rw [e]; exact e2
    · exact place_uniq n (a.mono (by omega)) (b.mono (by omega)) e1 j (by omega)

/-- The product of k lengths from i on. -/
def tailZ (f : Nat → Int) (i : Nat) : Nat → Int
  | 0 => 1
  | k + 1 => tailZ f i k * f (i + k)

theorem tail_front (f : Nat → Int) (i : Nat) : ∀ k, tailZ f i (k + 1) = f i * tailZ f (i + 1) k
  | 0 => by show 1 * f (i + 0) = f i * 1; rw [Int.one_mul, Int.mul_one]; rfl
  | k + 1 => by
    show tailZ f i (k + 1) * f (i + (k + 1)) = f i * (tailZ f (i + 1) k * f (i + 1 + k))
    rw [tail_front f i k, Int.mul_assoc, show i + (k + 1) = i + 1 + k by omega]

theorem prod_tail (f : Nat → Int) (i : Nat) : ∀ k, prodZ f (i + k) = prodZ f i * tailZ f i k
  | 0 => (Int.mul_one _).symm
  | k + 1 => by
    show prodZ f (i + k) * f (i + k) = prodZ f i * (tailZ f i k * f (i + k))
    rw [prod_tail f i k, Int.mul_assoc]

/-- Zeros behind: the cell is that of the first numbers times the product of the lengths behind. -/
theorem cellZ_zeros {f g : Nat → Int} {i : Nat} : ∀ k, (∀ t, t < k → g (i + t) = 0) → cellZ f g (i + k) = cellZ f g i * tailZ f i k
  | 0, _ => (Int.mul_one _).symm
  | k + 1, h => by
    show cellZ f g (i + k) * f (i + k) + g (i + k) = cellZ f g i * (tailZ f i k * f (i + k))
    rw [cellZ_zeros k fun t ht => h t (by omega), h k (by omega), Int.add_zero, Int.mul_assoc]

/-- Where the next place stands: the axes from i on are at their ends, and read as zeros already. -/
def Carried (f g h : Nat → Int) (n i : Nat) (c : Int) : Prop :=
  i ≤ n ∧ (∀ j, j < i → h j = g j) ∧ (∀ j, i ≤ j → j < n → h j = 0) ∧ c + 1 = (cellZ f g i + 1) * tailZ f i (n - i)

theorem carried_start {f g h : Nat → Int} {n : Nat} {c : Int} (a : PlaceIs f g n c) (e : ∀ j, j < n → h j = g j) : Carried f g h n n c :=
  ⟨Nat.le_refl _, e, fun j h1 h2 => by omega, by rw [Nat.sub_self]; show c + 1 = (cellZ f g n + 1) * 1; rw [a.2, Int.mul_one]⟩

/-- One axis further: this one is at its end, too. -/
theorem carried_step {f g h : Nat → Int} {n i : Nat} {c : Int} (a : Carried f g h n (i + 1) c) (e : g i + 1 = f i) : Carried f g (putZ h i 0) n i c := by
  obtain ⟨h1, h2, h3, h4⟩ := a
  refine ⟨by omega, fun j hj => ?_, fun j hj hj2 => ?_, ?_⟩
  · unfold putZ; rw [if_neg (by omega)]; exact h2 j (by omega)
  · unfold putZ
    by_cases k : j = i
    · rw [if_pos k]
    · rw [if_neg k]; exact h3 j (by omega) hj2
  · rw [h4, show n - i = (n - (i + 1)) + 1 by omega, tail_front, ← Int.mul_assoc]
    congr 1
    show cellZ f g i * f i + g i + 1 = (cellZ f g i + 1) * f i
    rw [Int.add_mul, Int.one_mul]
    omega

/-- It ends here: the place behind is told. -/
theorem carried_done {f g h : Nat → Int} {n i : Nat} {c : Int} (p : PlaceIs f g n c) (a : Carried f g h n (i + 1) c) (lt : g i + 1 < f i) : PlaceIs f (putZ h i (g i + 1)) n (c + 1) := by
  obtain ⟨h1, h2, h3, h4⟩ := a
  have hk : ∀ j, j < i → putZ h i (g i + 1) j = g j := fun j hj => by unfold putZ; rw [if_neg (by omega)]; exact h2 j (by omega)
  have hi : putZ h i (g i + 1) i = g i + 1 := by unfold putZ; rw [if_pos rfl]
  have hz : ∀ j, i + 1 ≤ j → j < n → putZ h i (g i + 1) j = 0 := fun j hj hj2 => by unfold putZ; rw [if_neg (by omega)]; exact h3 j hj hj2
  refine ⟨fun j hj => ?_, ?_⟩
  · have := p.1 j hj
    by_cases e : j < i
    · rw [hk j e]; exact this
    · by_cases e2 : j = i
      · subst e2; rw [hi]; omega
      · rw [hz j (by omega) hj]; omega
  · have e1 : n = (i + 1) + (n - (i + 1)) := by omega
    rw [e1, cellZ_zeros (n - (i + 1)) fun t ht => hz _ (by omega) (by omega), h4]
    congr 1
    show cellZ f (putZ h i (g i + 1)) i * f i + putZ h i (g i + 1) i = cellZ f g i * f i + g i + 1
    rw [hi, cellZ_congr i hk]
    omega

/-- It ended at no axis: the place was the last one. -/
theorem carried_last {f g h : Nat → Int} {n : Nat} {c : Int} (a : Carried f g h n 0 c) : c + 1 = prodZ f n := by
  have e := prod_tail f 0 n
  have h4 := a.2.2.2
  rw [Nat.sub_zero] at h4
  rw [Nat.zero_add] at e
  rw [h4, e]
  rfl

/-- No numbers but zeros: the first cell's place. -/
theorem place_zero {f : Nat → Int} {n : Nat} (h : ∀ j, j < n → 0 < f j) : PlaceIs f (fun _ => 0) n 0 := by
  refine ⟨fun j hj => ⟨Int.le_refl _, h j hj⟩, ?_⟩
  have e := cellZ_zeros (f := f) (g := fun _ => 0) (i := 0) n fun _ _ => rfl
  rw [Nat.zero_add] at e
  rw [e]
  exact Int.zero_mul _

end Go.Proofs.Ytolfbelhbnonpaa
