/-
  scrimref07.Around: the cells ahead of an axis, along it, and behind it.
  scrimref07.With, Without: a shape with another length of an axis; one without an axis.
  What the functions of package shape are to tell (as hypotheses of the walks of the statements); scrimlaw07.awake, ShapeCounts.
  The place of a cell by dividing, plain: from the last axis on, the rest is the number there, the quotient goes on.
  Package shape, first: has, below, above; slices.IndexFunc, ContainsFunc, Index, Contains over ints; product.
  shape.Count.
  glyph.May, Class.
  array.rightCell, rightIn, Right.
  Arrays that agree, label by label as a function says: slices.Equal over ints, slices.EqualFunc over cells and over arrays, the closures that are handed to it.
  array.cellsAgree, arraysAgree; Same, Match.
  scrimlaw08.awake, of the project's functions.
-/
import Derived.Test.YtmkjebembicljaaGreatMrgH
namespace Go.Proofs.YtmkjebembicljaaGreat
open Go.RowKit

/-- A product, if it may be. -/
def capZ (p : Int) : Int := if p ≤ 2048 then p else 0

/-- Ahead, along, behind; or there is no such axis. -/
def AroundIs (f : Nat → Int) (n : Nat) (axis b k a : Int) (ok : Bool) : Prop :=
  (∃ x : Nat, axis = x ∧ x < n ∧ (∃ N, Shape f n N) ∧ k = f x ∧ b = capZ (prodZ f x) ∧ a = capZ (prodZ (fun j => f (x + 1 + j)) (n - (x + 1))) ∧ ok = true) ∨
  (¬ ((∃ N, Shape f n N) ∧ 0 ≤ axis ∧ axis < n) ∧ b = 0 ∧ k = 0 ∧ a = 0 ∧ ok = false)

theorem AroundIs.uniq {f : Nat → Int} {n : Nat} {axis b k a c l d : Int} {p q : Bool} (h : AroundIs f n axis b k a p) (i : AroundIs f n axis c l d q) : b = c ∧ k = l ∧ a = d ∧ p = q := by
  rcases h with ⟨x, h1, h2, h3, h4, h5, h6, h7⟩ | ⟨h1, h2, h3, h4, h5⟩ <;> rcases i with ⟨y, i1, i2, i3, i4, i5, i6, i7⟩ | ⟨i1, i2, i3, i4, i5⟩
  · obtain rfl : x = y := by omega
    exact ⟨h5.trans i5.symm, h4.trans i4.symm, h6.trans i6.symm, h7.trans i7.symm⟩
  · exact absurd ⟨h3, by omega, by omega⟩ i1
  · exact absurd ⟨i3, by omega, by omega⟩ h1
  · exact ⟨h2.trans i2.symm, h3.trans i3.symm, h4.trans i4.symm, h5.trans i5.symm⟩

/-- Of a part of a shape only the product can be too great. -/
theorem CountIs.cap {g : Nat → Int} {m : Nat} {M e : Int} (hm : m ≤ 6) (hg : ∀ j, j < m → 0 ≤ g j ∧ g j ≤ 2048) (c : CountIs g m M e) : M = capZ (prodZ g m) := by
  unfold capZ
  rcases c with ⟨a1, a2, a3⟩ | ⟨a1, ⟨⟨j, hj, a2⟩, a3, a4⟩ | ⟨a2, ⟨⟨j, hj, a3⟩, a4, a5⟩ | ⟨a3, ⟨a4, a5, a6⟩ | ⟨a4, a5, a6⟩⟩⟩⟩
  · omega
  · have := hg j hj; omega
  · have := hg j hj; omega
  · rw [if_neg (by omega)]; exact a5
  · rw [if_pos a4]; exact a5

theorem results_tmp4 {fn : Func} {t u v x : Tmp} (h : fn.results = #[.tmp t, .tmp u, .tmp v, .tmp x]) (tmps : Array Value) (P : Program) (w : World) :
    (results fn tmps).run P w = .ok (.tuple #[tmps.getD t undef, tmps.getD u undef, tmps.getD v undef, tmps.getD x undef]) w := by simp [results, h]

end Go.Proofs.YtmkjebembicljaaGreat

namespace Go.Proofs.YtmkjebembicljaaGreat
open Go.RowKit

/-- Another length of an axis; or there is no such axis. -/
def WithIs (f : Nat → Int) (n : Nat) (axis m : Int) (r : Nat) (h : Nat → Int) (ok : Bool) : Prop :=
  (∃ x : Nat, axis = x ∧ x < n ∧ r = n ∧ (∀ j, j < n → h j = putZ f x m j) ∧ ok = true) ∨ (¬ (0 ≤ axis ∧ axis < n) ∧ r = 0 ∧ ok = false)

/-- The lengths but for an axis'. -/
def dropZ (f : Nat → Int) (x : Nat) (j : Nat) : Int := if j < x then f j else f (j + 1)

/-- One axis less; or there is no such axis. -/
def LessIs (f : Nat → Int) (n : Nat) (axis : Int) (r : Nat) (h : Nat → Int) (ok : Bool) : Prop :=
  (∃ x : Nat, axis = x ∧ x < n ∧ r + 1 = n ∧ (∀ j, j < r → h j = dropZ f x j) ∧ ok = true) ∨ (¬ (0 ≤ axis ∧ axis < n) ∧ r = 0 ∧ ok = false)

theorem WithIs.uniq {f : Nat → Int} {n : Nat} {axis m : Int} {r s : Nat} {h k : Nat → Int} {p q : Bool} (a : WithIs f n axis m r h p) (b : WithIs f n axis m s k q) : SameZ r s h k ∧ p = q := by
  rcases a with ⟨x, a1, a2, a3, a4, a5⟩ | ⟨a1, a2, a3⟩ <;> rcases b with ⟨y, b1, b2, b3, b4, b5⟩ | ⟨b1, b2, b3⟩
  · obtain rfl : x = y := by omega
    exact ⟨⟨a3.trans b3.symm, fun j hj => (a4 j (by omega)).trans (b4 j (by omega)).symm⟩, a5.trans b5.symm⟩
  · exact absurd ⟨by omega, by omega⟩ b1
  · exact absurd ⟨by omega, by omega⟩ a1
  · exact ⟨⟨a2.trans b2.symm, fun j hj => by omega⟩, a3.trans b3.symm⟩

theorem LessIs.uniq {f : Nat → Int} {n : Nat} {axis : Int} {r s : Nat} {h k : Nat → Int} {p q : Bool} (a : LessIs f n axis r h p) (b : LessIs f n axis s k q) : SameZ r s h k ∧ p = q := by
  rcases a with ⟨x, a1, a2, a3, a4, a5⟩ | ⟨a1, a2, a3⟩ <;> rcases b with ⟨y, b1, b2, b3, b4, b5⟩ | ⟨b1, b2, b3⟩
  · obtain rfl : x = y := by omega
    exact ⟨⟨by omega, fun j hj => (a4 j (by omega)).trans (b4 j (by omega)).symm⟩, a5.trans b5.symm⟩
  · exact absurd ⟨by omega, by omega⟩ b1
  · exact absurd ⟨by omega, by omega⟩ a1
  · exact ⟨⟨a2.trans b2.symm, fun j hj => by omega⟩, a3.trans b3.symm⟩

/-- A row of ints that a call has made, and a bool. -/
def MadeB (R : Nat → (Nat → Int) → Bool → Prop) (w : World) (e : Ending) (w' : World) : Prop :=
  ∃ v r h ok, e = .returned (.tuple #[v, .bool ok]) ∧ w'.ownsRow w.heap.size 3 1 v r (intCells h r) ∧ Below w.heap.size w w' ∧ R r h ok

/-- The lengths behind an axis, as they lie. -/
theorem slz_tail {w : World} {b off n x : Nat} {f : Nat → Int} (h : ∀ j, j < n → w.cell? ⟨b, off + j, none⟩ = some (.int .i64 (f j))) : SlZ w (some ⟨b, off + (x + 1), none⟩) (n - (x + 1)) (fun j => f (x + 1 + j)) :=
  .inr ⟨b, _, rfl, fun j hj => by rw [show off + (x + 1) + j = off + (x + 1 + j) by omega]; exact h _ (by omega)⟩

end Go.Proofs.YtmkjebembicljaaGreat

namespace Go.Proofs.YtmkjebembicljaaGreat
open Go.RowKit

/-- Which cell stands at a place, and whether one does. -/
def IndexB (f : Nat → Int) (n : Nat) (g : Nat → Int) (m : Nat) (k : Int) (ok : Bool) : Prop :=
  ((∃ N, Shape f n N) ∧ m = n ∧ PlaceIs f g n k ∧ ok = true) ∨ (k = 0 ∧ ok = false ∧ ¬ ((∃ N, Shape f n N) ∧ m = n ∧ ∃ c, PlaceIs f g n c))

/-- The place of a cell, and whether there is one. -/
def AtIs (f : Nat → Int) (n : Nat) (c : Int) (r : Nat) (h : Nat → Int) (ok : Bool) : Prop :=
  ((∃ N, Shape f n N ∧ 0 ≤ c ∧ c < N) ∧ r = n ∧ PlaceIs f h n c ∧ ok = true) ∨ (r = 0 ∧ ok = false ∧ ¬ ∃ N, Shape f n N ∧ 0 ≤ c ∧ c < N)

/-- Some row of ints, and a bool. -/
def SomeB (R : Nat → (Nat → Int) → Bool → Prop) (w : World) (e : Ending) (w' : World) : Prop :=
  ∃ ao r rc h ok, e = .returned (.tuple #[.slice ao r rc, .bool ok]) ∧ r ≤ rc ∧ rc ≤ 9223372036854775807 ∧ SlZ w' ao r h ∧ Below w.heap.size w w' ∧ R r h ok

theorem MadeB.some {R : Nat → (Nat → Int) → Bool → Prop} {w w' : World} {e : Ending} (h : MadeB R w e w') : SomeB R w e w' := by
  obtain ⟨v, r, k, ok, rfl, ho, hb, hR⟩ := h
  obtain ⟨ao, cap, rfl, h1, h2, h3⟩ := owns_ints ho
  exact ⟨ao, r, cap, k, ok, rfl, h1, h2, h3, hb, hR⟩

def CountC : Prop := ∀ (ao : Option Addr) (n nc : Nat) (f : Nat → Int) (w : World), n ≤ nc → nc ≤ 9223372036854775807 → SlZ w ao n f →
  Calls Tryz.prog 60 #[.slice ao n nc] w fun e w' => (∃ N E : Int, e = .returned (.tuple #[.int .i64 N, .int .i64 E]) ∧ CountIs f n N E) ∧ Below w.heap.size w w'

def two7 (x y : Int) (j : Nat) : Int := if j = 0 then x else y

theorem slz_two (w : World) (t : TypeId) (x y : Int) : SlZ (w.alloc (.cells #[.int .i64 x, .int .i64 y] t)) (some ⟨w.heap.size, 0, none⟩) 2 (two7 x y) := by
  refine .inr ⟨w.heap.size, 0, rfl, fun j hj => ?_⟩
  rw [Nat.zero_add, World.cell?_alloc_new]
  have : j = 0 ∨ j = 1 := by omega
  rcases this with rfl | rfl <;> rfl

theorem shape_23 : Shape (two7 2 3) 2 6 :=
  ⟨by decide, fun j _ => by unfold two7; split <;> decide, fun j _ => by unfold two7; split <;> decide, by decide, by decide⟩

theorem place_10 : PlaceIs (two7 2 3) (two7 1 0) 2 3 := by
  refine ⟨fun j hj => ?_, by decide⟩
  have : j = 0 ∨ j = 1 := by omega
  rcases this with rfl | rfl <;> decide

end Go.Proofs.YtmkjebembicljaaGreat

namespace Go.Proofs.YtmkjebembicljaaGreat

/-- The cell that q at the axes ahead of i makes with k numbers more. -/
def fromZ (f g : Nat → Int) (q : Int) (i : Nat) : Nat → Int
  | 0 => q
  | k + 1 => fromZ f g q i k * f (i + k) + g (i + k)

theorem from_front (f g : Nat → Int) (q : Int) (i : Nat) : ∀ k, fromZ f g q i (k + 1) = fromZ f g (q * f i + g i) (i + 1) k
  | 0 => rfl
  | k + 1 => by
    show fromZ f g q i (k + 1) * f (i + (k + 1)) + g (i + (k + 1)) = fromZ f g (q * f i + g i) (i + 1) k * f (i + 1 + k) + g (i + 1 + k)
    rw [from_front f g q i k, show i + (k + 1) = i + 1 + k by omega]

theorem from_zero (f g : Nat → Int) : ∀ k, fromZ f g 0 0 k = cellZ f g k
  | 0 => rfl
  | k + 1 => by
    show fromZ f g 0 0 k * f (0 + k) + g (0 + k) = cellZ f g k * f k + g k
    rw [from_zero f g k, Nat.zero_add]

theorem from_congr {f g h : Nat → Int} {q : Int} {i : Nat} : ∀ k, (∀ t, t < k → g (i + t) = h (i + t)) → fromZ f g q i k = fromZ f h q i k
  | 0, _ => rfl
  | k + 1, e => by
    show fromZ f g q i k * f (i + k) + g (i + k) = fromZ f h q i k * f (i + k) + h (i + k)
    rw [from_congr k fun t ht => e t (by omega), e k (by omega)]

/-- The axes from i on have their numbers; q is left for those ahead. -/
def Divided (f g : Nat → Int) (n : Nat) (c q : Int) (i : Nat) : Prop :=
  i ≤ n ∧ 0 ≤ q ∧ q < prodZ f i ∧ (∀ j, i ≤ j → j < n → 0 ≤ g j ∧ g j < f j) ∧ fromZ f g q i (n - i) = c

theorem divided_start {f g : Nat → Int} {n : Nat} {c : Int} (h0 : 0 ≤ c) (h1 : c < prodZ f n) : Divided f g n c c n :=
  ⟨Nat.le_refl _, h0, h1, fun j a b => by omega, by rw [Nat.sub_self]; rfl⟩

theorem divided_step {f g : Nat → Int} {n i : Nat} {c q : Int} (h : Divided f g n c q (i + 1)) (hf : 0 < f i) : Divided f (putZ g i (q % f i)) n c (q / f i) i := by
  obtain ⟨h1, h2, h3, h4, h5⟩ := h
  have e := Int.mul_ediv_add_emod q (f i)
  have m0 := Int.emod_nonneg q (show f i ≠ 0 by omega)
  have m1 := Int.emod_lt_of_pos q hf
  refine ⟨by omega, Int.ediv_nonneg h2 (by omega), ?_, fun j a b => ?_, ?_⟩
  · have h6 : q < prodZ f i * f i := h3
    exact Int.ediv_lt_of_lt_mul hf h6
  · unfold putZ
    by_cases k : j = i
    · rw [if_pos k, k]; exact ⟨m0, m1⟩
    · rw [if_neg k]; exact h4 j (by omega) b
  · rw [show n - i = (n - (i + 1)) + 1 by omega, from_front]
    have e2 : q / f i * f i + putZ g i (q % f i) i = q := by
      unfold putZ
      rw [if_pos rfl, Int.mul_comm]
      exact e
    rw [e2, ← h5]
    refine from_congr _ fun t ht => ?_
    unfold putZ
    rw [if_neg (by omega)]

theorem divided_done {f g : Nat → Int} {n : Nat} {c q : Int} (h : Divided f g n c q 0) : PlaceIs f g n c := by
  obtain ⟨_, h2, h3, h4, h5⟩ := h
  have h3' : q < 1 := h3
  obtain rfl : q = 0 := by omega
  rw [Nat.sub_zero, from_zero] at h5
  exact ⟨fun j hj => h4 j (by omega) hj, h5⟩

end Go.Proofs.YtmkjebembicljaaGreat

namespace Go.Proofs.YtmkjebembicljaaGreat
open Go.RowKit

/-- A function that tells of a number whether p holds, and turns nothing. -/
def PredZ (g : Nat) (p : Int → Bool) : Prop := ∀ (x : Int) (w : World), Calls Tryz.prog g #[.int .i64 x] w fun e w' => e = .returned (.bool (p x)) ∧ w = w'

def belowZ (x : Int) : Bool := decide (x < 0)

def sameZ (x y : Int) : Bool := decide (y = x)

def aboveZ (x : Int) : Bool := decide (2048 < x)

set_option maxRecDepth 20000 in
theorem below_any : PredZ 75 belowZ := by
  intro x w
  go_enter Tryz.func75, Tryz.ntmps75
  go_wp2_with fail
  go_ret
  exact ⟨rfl, rfl⟩

set_option maxRecDepth 20000 in
theorem above_any : PredZ 76 aboveZ := by
  intro x w
  go_enter Tryz.func76, Tryz.ntmps76
  go_wp2_with fail
  go_ret
  exact ⟨rfl, rfl⟩

/-- Whether p holds of one of the first numbers. -/
def SomeZ (p : Int → Bool) (f : Nat → Int) (n : Nat) (w : World) (e : Ending) (w' : World) : Prop :=
  (∃ b, e = .returned (.bool b) ∧ (b = true ↔ ∃ j, j < n ∧ p (f j) = true)) ∧ w = w'

/-- Where p holds first, or -1. -/
def WhereZ (p : Int → Bool) (f : Nat → Int) (n : Nat) (w : World) (e : Ending) (w' : World) : Prop :=
  (∃ k : Int, e = .returned (.int .i64 k) ∧ ((k = -1 ∧ ∀ j, j < n → p (f j) = false) ∨ (∃ j : Nat, j < n ∧ k = j ∧ p (f j) = true))) ∧ w = w'

theorem where_some {p : Int → Bool} {f : Nat → Int} {n : Nat} {k : Int} (h : (k = -1 ∧ ∀ j, j < n → p (f j) = false) ∨ (∃ j : Nat, j < n ∧ k = j ∧ p (f j) = true)) : decide (0 ≤ k) = true ↔ ∃ j, j < n ∧ p (f j) = true := by
  rcases h with ⟨rfl, h⟩ | ⟨j, hj, rfl, h⟩
  · constructor
    · intro h; exact absurd (of_decide_eq_true h) (by decide)
    · rintro ⟨j, h1, h2⟩; rw [h j h1] at h2; cases h2
  · exact ⟨fun _ => ⟨j, hj, h⟩, fun _ => decide_eq_true (by omega)⟩

set_option maxRecDepth 20000 in
set_option maxHeartbeats 1000000 in
theorem indexFunc_below (ao : Option Addr) (n nc : Nat) (f : Nat → Int) (w : World) (hn : n ≤ 9223372036854775807) (hf : SlZ w ao n f) :
    Calls Tryz.prog 85 #[.slice ao n nc, .func (.func 75) #[] #[]] w (WhereZ belowZ f n w) := by
  go_enter Tryz.func85, Tryz.ntmps85
  go_wp2_with fail
  go_loopw [8] (fun i wr => ∃ j : Nat, j ≤ n ∧ i = .int .i64 j ∧ Hid (∀ t, t < j → belowZ (f t) = false) ∧ wr = w) (fun i _ => n - (intOfZ i).toNat)
  case atStart => exact ⟨0, Nat.zero_le _, rfl, Lib.hid fun t h => by omega, rfl⟩
  case round =>
    obtain ⟨j, hj, rfl, hd, rfl⟩ := hrel
    by_cases hlt : j < n
    · rcases hf with h | ⟨b, off, rfl, hc⟩
      · omega
      have c1 := hc j hlt
      clear hc
      go_wp2_with fail
      refine (below_any (f j) wr).mono ?_
      rintro e w' ⟨rfl, rfl⟩
      generalize hy : belowZ (f j) = y
      have hy' := Lib.hid hy
      clear hy
      cases y with
      | true =>
        go_wp2_with fail
        go_ret
        exact ⟨⟨j, rfl, .inr ⟨j, hlt, rfl, hy'.out⟩⟩, rfl⟩
      | false =>
        go_wp2_with fail
        go_roundw
        case rel =>
          refine ⟨j + 1, by omega, by go_num, Lib.hid fun t ht => ?_, by trivial⟩
          by_cases e : t = j
          · rw [e]; exact hy'.out
          · exact hd.out t (by omega)
        case measure => simp [intOfZ]; omega
    · obtain rfl : j = n := by omega
      go_wp2_with fail
      go_ret
      exact ⟨⟨-1, rfl, .inl ⟨rfl, hd.out⟩⟩, rfl⟩

set_option maxRecDepth 20000 in
set_option maxHeartbeats 1000000 in
theorem containsFunc_below (ao : Option Addr) (n nc : Nat) (f : Nat → Int) (w : World) (hn : n ≤ 9223372036854775807) (hf : SlZ w ao n f) :
    Calls Tryz.prog 74 #[.slice ao n nc, .func (.func 75) #[] #[]] w (SomeZ belowZ f n w) := by
  have hI := indexFunc_below ao n nc f w hn hf
  clear hf
  go_enter Tryz.func74, Tryz.ntmps74
  go_wp2_with fail
  refine hI.mono ?_
  rintro e w' ⟨⟨k, rfl, hk⟩, rfl⟩
  have hk' := Lib.hid hk
  clear hk hI
  go_wp2_with fail
  go_ret
  exact ⟨⟨_, rfl, where_some hk'.out⟩, rfl⟩

set_option maxRecDepth 20000 in
set_option maxHeartbeats 1000000 in
theorem indexFunc_above (ao : Option Addr) (n nc : Nat) (f : Nat → Int) (w : World) (hn : n ≤ 9223372036854775807) (hf : SlZ w ao n f) :
    Calls Tryz.prog 85 #[.slice ao n nc, .func (.func 76) #[] #[]] w (WhereZ aboveZ f n w) := by
  go_enter Tryz.func85, Tryz.ntmps85
  go_wp2_with fail
  go_loopw [8] (fun i wr => ∃ j : Nat, j ≤ n ∧ i = .int .i64 j ∧ Hid (∀ t, t < j → aboveZ (f t) = false) ∧ wr = w) (fun i _ => n - (intOfZ i).toNat)
  case atStart => exact ⟨0, Nat.zero_le _, rfl, Lib.hid fun t h => by omega, rfl⟩
  case round =>
    obtain ⟨j, hj, rfl, hd, rfl⟩ := hrel
    by_cases hlt : j < n
    · rcases hf with h | ⟨b, off, rfl, hc⟩
      · omega
      have c1 := hc j hlt
      clear hc
      go_wp2_with fail
      refine (above_any (f j) wr).mono ?_
      rintro e w' ⟨rfl, rfl⟩
      generalize hy : aboveZ (f j) = y
      have hy' := Lib.hid hy
      clear hy
      cases y with
      | true =>
        go_wp2_with fail
        go_ret
        exact ⟨⟨j, rfl, .inr ⟨j, hlt, rfl, hy'.out⟩⟩, rfl⟩
      | false =>
        go_wp2_with fail
        go_roundw
        case rel =>
          refine ⟨j + 1, by omega, by go_num, Lib.hid fun t ht => ?_, by trivial⟩
          by_cases e : t = j
          · rw [e]; exact hy'.out
          · exact hd.out t (by omega)
        case measure => simp [intOfZ]; omega
    · obtain rfl : j = n := by omega
      go_wp2_with fail
      go_ret
      exact ⟨⟨-1, rfl, .inl ⟨rfl, hd.out⟩⟩, rfl⟩

set_option maxRecDepth 20000 in
set_option maxHeartbeats 1000000 in
theorem containsFunc_above (ao : Option Addr) (n nc : Nat) (f : Nat → Int) (w : World) (hn : n ≤ 9223372036854775807) (hf : SlZ w ao n f) :
    Calls Tryz.prog 74 #[.slice ao n nc, .func (.func 76) #[] #[]] w (SomeZ aboveZ f n w) := by
  have hI := indexFunc_above ao n nc f w hn hf
  clear hf
  go_enter Tryz.func74, Tryz.ntmps74
  go_wp2_with fail
  refine hI.mono ?_
  rintro e w' ⟨⟨k, rfl, hk⟩, rfl⟩
  have hk' := Lib.hid hk
  clear hk hI
  go_wp2_with fail
  go_ret
  exact ⟨⟨_, rfl, where_some hk'.out⟩, rfl⟩

set_option maxRecDepth 20000 in
set_option maxHeartbeats 1000000 in
theorem index_any (x : Int) (ao : Option Addr) (n nc : Nat) (f : Nat → Int) (w : World) (hn : n ≤ 9223372036854775807) (hf : SlZ w ao n f) :
    Calls Tryz.prog 94 #[.slice ao n nc, .int .i64 x] w (WhereZ (sameZ x) f n w) := by
  go_enter Tryz.func94, Tryz.ntmps94
  go_wp2_with fail
  go_loopw [8] (fun i wr => ∃ j : Nat, j ≤ n ∧ i = .int .i64 j ∧ Hid (∀ t, t < j → sameZ x (f t) = false) ∧ wr = w) (fun i _ => n - (intOfZ i).toNat)
  case atStart => exact ⟨0, Nat.zero_le _, rfl, Lib.hid fun t h => by omega, rfl⟩
  case round =>
    obtain ⟨j, hj, rfl, hd, rfl⟩ := hrel
    by_cases hlt : j < n
    · rcases hf with h | ⟨b, off, rfl, hc⟩
      · omega
      have c1 := hc j hlt
      clear hc
      by_cases he : f j = x
      · have he' := Lib.hid he
        have hb : (x == f j) = true := by rw [beq_iff_eq]; exact he.symm
        clear he
        go_wp2_with fail
        go_ret
        exact ⟨⟨j, rfl, .inr ⟨j, hlt, rfl, decide_eq_true he'.out⟩⟩, rfl⟩
      · have he' := Lib.hid he
        have hb : (x == f j) = false := by rw [beq_eq_false_iff_ne]; exact fun h => he h.symm
        clear he
        go_wp2_with fail
        go_roundw
        case rel =>
          refine ⟨j + 1, by omega, by go_num, Lib.hid fun t ht => ?_, by trivial⟩
          by_cases e : t = j
          · rw [e]; exact decide_eq_false he'.out
          · exact hd.out t (by omega)
        case measure => simp [intOfZ]; omega
    · obtain rfl : j = n := by omega
      go_wp2_with fail
      go_ret
      exact ⟨⟨-1, rfl, .inl ⟨rfl, hd.out⟩⟩, rfl⟩

set_option maxRecDepth 20000 in
set_option maxHeartbeats 1000000 in
theorem contains_any (x : Int) (ao : Option Addr) (n nc : Nat) (f : Nat → Int) (w : World) (hn : n ≤ 9223372036854775807) (hf : SlZ w ao n f) :
    Calls Tryz.prog 86 #[.slice ao n nc, .int .i64 x] w (SomeZ (sameZ x) f n w) := by
  have hI := index_any x ao n nc f w hn hf
  clear hf
  go_enter Tryz.func86, Tryz.ntmps86
  go_wp2_with fail
  refine hI.mono ?_
  rintro e w' ⟨⟨k, rfl, hk⟩, rfl⟩
  have hk' := Lib.hid hk
  clear hk hI
  go_wp2_with fail
  go_ret
  exact ⟨⟨_, rfl, where_some hk'.out⟩, rfl⟩

/-- The product of lengths that each may be, if it may be. -/
def ProdPost (f : Nat → Int) (n : Nat) (w : World) (e : Ending) (w' : World) : Prop :=
  (∃ (N : Int) (ok : Bool), e = .returned (.tuple #[.int .i64 N, .bool ok]) ∧ N = capZ (prodZ f n) ∧ (ok = true ↔ prodZ f n ≤ 2048)) ∧ w = w'

theorem capZ_le {p : Int} (h : p ≤ 2048) : capZ p = p := by unfold capZ; rw [if_pos h]

theorem capZ_gt {p : Int} (h : 2048 < p) : capZ p = 0 := by unfold capZ; rw [if_neg (by omega)]

set_option maxRecDepth 20000 in
set_option maxHeartbeats 2000000 in
theorem product_any (ao : Option Addr) (n nc : Nat) (f : Nat → Int) (w : World) (hn : n ≤ 9223372036854775807) (hf : SlZ w ao n f) (hr : ∀ j, j < n → 0 ≤ f j ∧ f j ≤ 2048) :
    Calls Tryz.prog 77 #[.slice ao n nc] w (ProdPost f n w) := by
  have hr' := Lib.hid hr
  clear hr
  go_enter Tryz.func77, Tryz.ntmps77
  go_wp2_with fail
  refine (contains_any 0 ao n nc f w hn hf).mono ?_
  rintro e w' ⟨⟨b, rfl, hb⟩, rfl⟩
  cases b with
  | true =>
    have hp := Lib.hid (show prodZ f n = 0 by obtain ⟨j, h1, h2⟩ := hb.1 rfl; exact prodZ_zero (of_decide_eq_true h2) n h1)
    clear hb
    go_wp2_with fail
    go_ret2
    refine ⟨⟨0, true, rfl, ?_, ?_⟩, rfl⟩
    · rw [hp.out]; rfl
    · rw [hp.out]; decide
  | false =>
    have hlo := Lib.hid (show ∀ j, j < n → 1 ≤ f j from fun j hj => by
      have h1 := hr'.out j hj
      have h2 : f j ≠ 0 := fun e => Bool.false_ne_true (hb.2 ⟨j, hj, decide_eq_true e⟩)
      omega)
    clear hb
    go_wp2_with fail
    go_loopw [4, 11] (fun p i wr => ∃ k : Nat, k ≤ n ∧ i = .int .i64 k ∧ p = .int .i64 (prodZ f k) ∧ prodZ f k ≤ 2048 ∧ wr = w) (fun _ i _ => n - (intOfZ i).toNat)
    case atStart => exact ⟨0, Nat.zero_le _, rfl, rfl, by show (1 : Int) ≤ 2048; decide, rfl⟩
    case round =>
      obtain ⟨k, hk, rfl, rfl, hpk, rfl⟩ := hrel
      have p1 := prodZ_pos k fun t ht => hlo.out t (by omega)
      by_cases hlt2 : k < n
      · rcases hf with h | ⟨b, off, rfl, hc⟩
        · omega
        have c1 := hc k hlt2
        have k1 := hlo.out k hlt2
        have k2 := (hr'.out k hlt2).2
        clear hc
        obtain ⟨x, hx⟩ : ∃ x, x = prodZ f k := ⟨_, rfl⟩
        obtain ⟨y, hy⟩ : ∃ y, y = f k := ⟨_, rfl⟩
        obtain ⟨z, hz⟩ : ∃ z, z = x * y := ⟨_, rfl⟩
        have hz1 : z ≤ 4194304 := by rw [hz]; rw [← hx] at hpk p1; rw [← hy] at k1 k2; exact Int.mul_le_mul hpk k2 (by omega) (by decide)
        have hz0 : 0 ≤ z := by rw [hz]; rw [← hx] at hpk p1; rw [← hy] at k1 k2; exact Int.mul_nonneg (by omega) (by omega)
        have hzn := Lib.hid (show prodZ f (k + 1) = z by rw [hz, hx, hy]; rfl)
        have hzm := Lib.hid (show prodZ f (k + 1) ≤ prodZ f n from prodZ_mono n hlo.out hlt2)
        rw [← hy] at c1
        rw [← hx]
        have hw : IntKind.i64.wrap (x * y) = z := by rw [← hz]; simp [IntKind.wrap, IntKind.bits, IntKind.signed]; omega
        clear hz hx hy hpk p1 k1 k2
        go_wp2_with fail
        refine (above_any z _).mono ?_
        rintro e w' ⟨rfl, rfl⟩
        unfold aboveZ
        by_cases hbig : 2048 < z
        · have hbig' := Lib.hid hbig
          go_wp2_with fail
          go_ret2
          have h1 : 2048 < prodZ f n := by have := hzn.out; have := hzm.out; have := hbig'.out; omega
          exact ⟨⟨0, false, rfl, (capZ_gt h1).symm, ⟨fun h => (Bool.false_ne_true h).elim, fun h => by omega⟩⟩, rfl⟩
        · have hsm := Lib.hid (show prodZ f (k + 1) ≤ 2048 by rw [hzn.out]; omega)
          go_wp2_with fail
          go_roundw
          case rel => exact ⟨k + 1, by omega, by go_num, by rw [hzn.out], hsm.out, by trivial⟩
          case measure => simp [intOfZ]; omega
      · obtain rfl : k = n := by omega
        have hpk' := Lib.hid hpk
        go_wp2_with fail
        go_ret2
        exact ⟨⟨_, true, rfl, (capZ_le hpk'.out).symm, ⟨fun _ => hpk'.out, fun _ => rfl⟩⟩, rfl⟩

end Go.Proofs.YtmkjebembicljaaGreat

namespace Go.Proofs.YtmkjebembicljaaGreat
open Go.RowKit

set_option maxRecDepth 20000 in
set_option maxHeartbeats 2000000 in
theorem countW (ao : Option Addr) (n nc : Nat) (f : Nat → Int) (w : World) (hf : SlZ w ao n f) :
    Calls Tryz.prog 60 #[.slice ao n nc] w fun e w' => (∃ N E : Int, e = .returned (.tuple #[.int .i64 N, .int .i64 E]) ∧ CountIs f n N E) ∧ w = w' := by
  by_cases h6 : 6 < n
  · have h6' : (6 : Int) < (n : Int) := by omega
    go_enter Tryz.func60, Tryz.ntmps60
    go_wp2_with fail
    go_ret2
    exact ⟨⟨0, 7, rfl, .inl ⟨h6, rfl, rfl⟩⟩, rfl⟩
  · have h6' : ¬ (6 : Int) < (n : Int) := by omega
    have h6n : n ≤ 6 := by omega
    clear h6
    go_enter Tryz.func60, Tryz.ntmps60
    go_wp2_with fail
    refine (containsFunc_below ao n nc f w (by omega) hf).mono ?_
    rintro e w1 ⟨⟨b, rfl, hb⟩, rfl⟩
    cases b with
    | true =>
      have hb' := Lib.hid (hb.1 rfl)
      clear hb hf
      go_wp2_with fail
      go_ret2
      obtain ⟨j, h1, h2⟩ := hb'.out
      exact ⟨⟨0, 3, rfl, .inr ⟨h6n, .inl ⟨⟨j, h1, of_decide_eq_true h2⟩, rfl, rfl⟩⟩⟩, rfl⟩
    | false =>
      have hlo := Lib.hid (show ∀ j, j < n → 0 ≤ f j from fun j hj => Int.not_lt.1 fun h => Bool.false_ne_true (hb.2 ⟨j, hj, decide_eq_true h⟩))
      clear hb
      go_wp2_with fail
      refine (containsFunc_above ao n nc f w (by omega) hf).mono ?_
      rintro e w1 ⟨⟨b, rfl, hb⟩, rfl⟩
      cases b with
      | true =>
        have hb' := Lib.hid (hb.1 rfl)
        clear hb hf
        go_wp2_with fail
        go_ret2
        obtain ⟨j, h1, h2⟩ := hb'.out
        exact ⟨⟨0, 7, rfl, .inr ⟨h6n, .inr ⟨hlo.out, .inl ⟨⟨j, h1, of_decide_eq_true h2⟩, rfl, rfl⟩⟩⟩⟩, rfl⟩
      | false =>
        have hhi := Lib.hid (show ∀ j, j < n → f j ≤ 2048 from fun j hj => Int.not_lt.1 fun h => Bool.false_ne_true (hb.2 ⟨j, hj, decide_eq_true h⟩))
        clear hb
        go_wp2_with fail
        refine (product_any ao n nc f w (by omega) hf fun j hj => ⟨hlo.out j hj, hhi.out j hj⟩).mono ?_
        rintro e w1 ⟨⟨N, ok, rfl, hN, hok⟩, rfl⟩
        have hN' := Lib.hid hN
        cases ok with
        | true =>
          have hp := Lib.hid (hok.1 rfl)
          clear hok hf hN
          go_wp2_with fail
          go_ret2
          exact ⟨⟨_, 0, rfl, .inr ⟨h6n, .inr ⟨hlo.out, .inr ⟨hhi.out, .inr ⟨hp.out, hN'.out.trans (capZ_le hp.out), rfl⟩⟩⟩⟩⟩, rfl⟩
        | false =>
          have hp := Lib.hid (show 2048 < prodZ f n from Int.not_le.1 fun h => Bool.false_ne_true (hok.2 h))
          clear hok hf hN
          go_wp2_with fail
          go_ret2
          exact ⟨⟨0, 7, rfl, .inr ⟨h6n, .inr ⟨hlo.out, .inr ⟨hhi.out, .inl ⟨hp.out, rfl, rfl⟩⟩⟩⟩⟩, rfl⟩

theorem countC : CountC := fun ao n nc f w _ _ hf => (countW ao n nc f w hf).mono fun _ _ ⟨h, e⟩ => ⟨h, e ▸ Below.refl _ _⟩

end Go.Proofs.YtmkjebembicljaaGreat

namespace Go.Proofs.YtmkjebembicljaaGreat
open Go.RowKit

set_option maxRecDepth 20000 in
set_option maxHeartbeats 1000000 in
theorem mayP_any (c : Int) (w : World) : Calls Tryz.prog 79 #[.int .i64 c] w fun e w' => e = .returned (.bool (mayZ c)) ∧ w = w' := by
  go_enter Tryz.func79, Tryz.ntmps79
  go_wp2_with fail
  all_goals (go_ret; refine ⟨?_, rfl⟩; refine congrArg (fun b => Ending.returned (Value.bool b)) (Bool.eq_iff_iff.2 ?_); unfold mayZ; simp; omega)

theorem class_l {c : Int} (k : (97 ≤ c ∧ c ≤ 122) ∨ (65 ≤ c ∧ c ≤ 90) ∨ c = 95) : classZ c = 2 := class_2 (by omega) k

theorem class_d {c : Int} (k : 48 ≤ c ∧ c ≤ 57) : classZ c = 3 := class_3 (by omega) (by omega) (.inl k)

theorem class_no {c : Int} (h : ¬ (c = 32 ∨ c = 9)) (k : ¬ ((97 ≤ c ∧ c ≤ 122) ∨ (65 ≤ c ∧ c ≤ 90) ∨ c = 95)) (l : ¬ ((48 ≤ c ∧ c ≤ 57) ∨ c = 175)) (f : c ∉ functionsZ) (o : c ∉ operatorsZ) (m : c ∉ marksZ) : classZ c = 0 :=
  (class_4 h k l).trans ((if_neg f).trans ((if_neg o).trans (if_neg m)))

end Go.Proofs.YtmkjebembicljaaGreat

namespace Go.Proofs.YtmkjebembicljaaGreat
open Go.RowKit Num

theorem bool_end {P : Prop} {w w' : World} {r : Bool} (h : P ↔ r = true) (hb : Below w.heap.size w w') : BoolPost P w (.returned (.bool r)) w' := ⟨r, rfl, h.symm, hb⟩

theorem cellT_zero {N : NumF} {C : Int} {k : Nat} {s : Bool} {d : Nat} {R : Prop} {r : Bool} (hr : r = true ↔ RightF N) : CellT 0 N C k s d R ↔ (r && (C == 0) && ((k : Int) == 0)) = true := by
  have e : ((k : Int) == 0) = true ↔ k = 0 := by rw [beq_iff_eq]; omega
  rw [Bool.and_eq_true, Bool.and_eq_true, hr, beq_iff_eq, e]
  constructor
  · rintro (⟨_, h1, h2, h3⟩ | ⟨h, _⟩ | ⟨h, _⟩)
    · exact ⟨⟨h3, h1⟩, h2⟩
    · exact absurd h (by decide)
    · exact absurd h (by decide)
  · rintro ⟨⟨h3, h1⟩, h2⟩; exact .inl ⟨rfl, h1, h2, h3⟩

theorem cellT_one {N : NumF} {C : Int} {k : Nat} {s : Bool} {d : Nat} {R : Prop} : CellT 1 N C k s d R ↔ (mayZ C && zeroF N && ((k : Int) == 0)) = true := by
  have e : ((k : Int) == 0) = true ↔ k = 0 := by rw [beq_iff_eq]; omega
  rw [Bool.and_eq_true, Bool.and_eq_true, e]
  constructor
  · rintro (⟨h, _⟩ | ⟨_, h1, h2, h3⟩ | ⟨h, _⟩)
    · exact absurd h (by decide)
    · exact ⟨⟨h3, h1⟩, h2⟩
    · exact absurd h (by decide)
  · rintro ⟨⟨h3, h1⟩, h2⟩; exact .inr (.inl ⟨rfl, h1, h2, h3⟩)

theorem cellT_two {N : NumF} {C : Int} {k : Nat} {s : Bool} {d : Nat} {R : Prop} : CellT 2 N C k s d R ↔ 0 < d ∧ zeroF N = true ∧ (C == 0) = true ∧ k = 1 ∧ s = false ∧ R := by
  rw [beq_iff_eq]
  constructor
  · rintro (⟨h, _⟩ | ⟨h, _⟩ | ⟨_, h1, h2, h3, h4, h5, h6⟩)
    · exact absurd h (by decide)
    · exact absurd h (by decide)
    · exact ⟨h4, h1, h2, h3, h5, h6⟩
  · rintro ⟨h4, h1, h2, h3, h5, h6⟩; exact .inr (.inr ⟨rfl, h1, h2, h3, h4, h5, h6⟩)

theorem cellT_more {K : Int} {N : NumF} {C : Int} {k : Nat} {s : Bool} {d : Nat} {R : Prop} (h0 : K ≠ 0) (h1 : K ≠ 1) (h2 : K ≠ 2) : ¬ CellT K N C k s d R := by
  rintro (⟨h, _⟩ | ⟨h, _⟩ | ⟨h, _⟩)
  · exact h0 h
  · exact h1 h
  · exact h2 h

set_option maxRecDepth 20000 in
set_option maxHeartbeats 8000000 in
theorem rightCell_of (L : Nat) (K : Int) (N : NumF) (C : Int) (k : Nat) (R : Nat → Value → Value → Value → Prop) (e : Nat → Value) (T : Tree) (d : Nat) (P : Prop) (w : World) (h : CellP w L K N C k R e) (hd : d ≤ 8) (hR : ∀ d0 d1 d2, R 0 d0 d1 d2 → ArrP w T d0 d1 d2)
    (hS : ∀ d0 d1 d2 w', R 0 d0 d1 d2 → Below w.heap.size w w' → 0 < d → Calls Tryz.prog 43 #[.agg #[d0, d1, d2], .int .i64 ((d : Int) - 1)] w' (BoolPost P w')) :
    Calls Tryz.prog 61 #[.agg #[e 0, e 1, e 2, e 3, e 4, e 5, e 6], .int .i64 d] w (BoolPost (CellT K N C k (simpleT T) d P) w) := by
  obtain ⟨p0, pL, p1, pK, hN, p5, pC, io, kc, p6, hk, hrow⟩ := h
  have hN' := hN
  obtain ⟨p2, ⟨ao, ac, p3, ha, _⟩, ⟨bo, bc, p4, hb, _⟩⟩ := hN
  rw [p2, p3, p4] at hN'
  rw [p0, p1, p2, p3, p4, p5, p6]
  have kk1 := hk.1; have kk2 := hk.2.1
  have hbel := ((Below.refl w.heap.size w).alloc (Nat.le_refl _) (.cells #[.int .u64 L, .int .i64 K, .bool N.neg, .slice ao N.an ac, .slice bo N.am bc, .int .i64 C, .slice io k kc] 32))
  have hx := (Box7.new (w := w) (B := w.heap.size) (.int .u64 L) (.int .i64 K) (.bool N.neg) (.slice ao N.an ac) (.slice bo N.am bc) (.int .i64 C) (.slice io k kc) 32 rfl)
  have hr1 := Lib.hid hrow; have hS' := Lib.hid hS; have hRT := Lib.hid hR; have hNn := Lib.hid (hN'.below hbel)
  clear p0 pL p1 pK p2 p3 p4 p5 pC p6 ha hb hk hrow hS hR hN'
  go_enter Tryz.func61, Tryz.ntmps61
  go_upto_region 1 with fail
  refine told_wp (fun w' => Below w.heap.size w w' ∧ Box7 w' w.heap.size (.int .u64 L) (.int .i64 K) (.bool N.neg) (.slice ao N.an ac) (.slice bo N.am bc) (.int .i64 C) (.slice io k kc) ∧ NumP w' N (.bool N.neg) (.slice ao N.an ac) (.slice bo N.am bc)) ⟨hbel, hx, hNn.out⟩ ?_
  clear hbel hx hNn
  rintro w0 ⟨bb, x, hN⟩
  go_region_held3 (fun w' => w'.cell? ⟨w.heap.size, 2, none⟩ = some (.bool N.neg) ∧ w'.cell? ⟨w.heap.size, 3, none⟩ = some (.slice ao N.an ac) ∧ w'.cell? ⟨w.heap.size, 4, none⟩ = some (.slice bo N.am bc) ∧ w'.cell? ⟨w.heap.size, 5, none⟩ = some (.int .i64 C) ∧ w'.cell? ⟨w.heap.size, 6, none⟩ = some (.slice io k kc))
    (first | with_reducible exact ⟨x.drew.c2, x.drew.c3, x.drew.c4, x.drew.c5, x.drew.c6⟩ | with_reducible exact ⟨x.c2, x.c3, x.c4, x.c5, x.c6⟩ | go_keep)
    (first
    | (go_at_call 67; have hd := (Below.refl w0.heap.size w0).drew; have bb := bb.drew; have x := x.drew; have hN := hN.below hd; clear hd; refine (zeroP_any N _ _ _ _ hN).mono ?_; rintro e w' ⟨rfl, hb⟩; have bb := below_then bb (Nat.le_refl _) hb; have x := x.later hb; have hN := hN.below hb; clear hb))
  replace bb := Lib.hid bb; replace x := Lib.hid x; replace hN := Lib.hid hN
  obtain ⟨zb, hz⟩ : ∃ z, z = zeroF N := ⟨_, rfl⟩
  have hz' := Lib.hid hz
  rw [← hz]
  clear hz
  by_cases K0 : K = 0
  · subst K0
    have q1 := x.out.c1; have q2 := x.out.c2; have q3 := x.out.c3; have q4 := x.out.c4
    go_wp2_with fail
    refine (numRightP_any N _ _ _ _ hN.out).mono ?_
    rintro e' w1 ⟨r, rfl, hr, hb1⟩
    have b1 := Lib.hid (bb.out.trans (hb1.mono bb.out.size))
    have hsp := Lib.hid (cellT_zero (C := C) (k := k) (s := simpleT T) (d := d) (R := P) hr)
    clear hb1 hr q1 q2 q3 q4
    generalize (C == 0) = cb at hsp ⊢
    generalize ((k : Int) == 0) = kb at hsp ⊢
    cases r <;> cases cb <;> cases kb
    all_goals
      go_wp2_with fail
      go_ret
      exact bool_end hsp.out b1.out
  by_cases K1 : K = 1
  · subst K1
    clear K0
    have q1 := x.out.c1; have q5 := x.out.c5
    go_wp2_with fail
    refine (mayP_any C _).mono ?_
    rintro e' w1 ⟨rfl, rfl⟩
    have hsp := Lib.hid (cellT_one (N := N) (C := C) (k := k) (s := simpleT T) (d := d) (R := P))
    rw [← hz'.out] at hsp
    clear q1 q5 hz'
    generalize mayZ C = mb at hsp ⊢
    generalize ((k : Int) == 0) = kb at hsp ⊢
    cases mb <;> cases zb <;> cases kb
    all_goals
      go_wp2_with fail
      go_ret
      exact bool_end hsp.out bb.out
  by_cases K2 : K = 2
  · subst K2
    clear K0 K1
    have q1 := x.out.c1; have q6 := x.out.c6
    have hsp := Lib.hid (cellT_two (N := N) (C := C) (k := k) (s := simpleT T) (d := d) (R := P))
    rw [← hz'.out] at hsp
    clear hz'
    by_cases d0 : d = 0
    · subst d0
      clear q6
      go_wp2_with fail
      go_ret
      exact bool_end (r := false) ⟨fun h => absurd (hsp.out.1 h).1 (by decide), fun h => (Bool.false_ne_true h).elim⟩ bb.out
    have hd0 : 0 < d := by omega
    have hd1 : (0 : Int) < (d : Int) := by omega
    clear d0
    generalize (C == 0) = cb at hsp ⊢
    cases zb with
    | false =>
      clear q6
      go_wp2_with fail
      go_ret
      exact bool_end (r := false) ⟨fun h => absurd (hsp.out.1 h).2.1 (by decide), fun h => (Bool.false_ne_true h).elim⟩ bb.out
    | true =>
    cases cb with
    | false =>
      clear q6
      go_wp2_with fail
      go_ret
      exact bool_end (r := false) ⟨fun h => absurd (hsp.out.1 h).2.2.1 (by decide), fun h => (Bool.false_ne_true h).elim⟩ bb.out
    | true =>
    by_cases k1 : k = 1
    · subst k1
      rcases hr1.out with h0 | ⟨b, o, rfl, hrows⟩
      · omega
      obtain ⟨u0, u1, u2, r0, r1, r2, r3⟩ := hrows 0 (by decide)
      rw [Nat.zero_mul, Nat.add_zero] at r0 r1 r2
      have hr3 := Lib.hid r3
      have hA := Lib.hid (ArrP.below _ _ _ _ (hRT.out _ _ _ r3) bb.out)
      have s0 := cell_below r0 bb.out; have s1 := cell_below r1 bb.out; have s2 := cell_below r2 bb.out
      clear hrows r3
      go_wp2_with fail
      refine (simple_any T u0 u1 u2 _ hA.out).mono ?_
      rintro e' w2 ⟨rfl, hb2⟩
      have b2 := Lib.hid (bb.out.trans (hb2.mono bb.out.size))
      have x2 := x.out.later hb2
      have t6 := x2.c6
      have v0 := cell_below r0 b2.out; have v1 := cell_below r1 b2.out; have v2 := cell_below r2 b2.out
      obtain ⟨si, hsi⟩ : ∃ si, si = simpleT T := ⟨_, rfl⟩
      have hsi' := Lib.hid hsi
      rw [← hsi]
      clear hsi s0 s1 s2 r0 r1 r2 hb2 x2 q1 q6
      cases si with
      | true =>
        go_wp2_with fail
        go_ret
        exact bool_end (r := false) ⟨fun h => absurd (hsi'.out.trans (hsp.out.1 h).2.2.2.2.1).symm Bool.false_ne_true, fun h => (Bool.false_ne_true h).elim⟩ b2.out
      | false =>
        go_wp2_with fail
        refine (hS'.out u0 u1 u2 _ hr3.out b2.out hd0).mono ?_
        rintro e' w3 ⟨r, rfl, hr, hb3⟩
        have b3 := Lib.hid (b2.out.trans (hb3.mono b2.out.size)); have hr' := Lib.hid hr
        clear hb3 hr v0 v1 v2 t6
        go_wp2_with fail
        go_ret
        exact bool_end ⟨fun h => hr'.out.2 (hsp.out.1 h).2.2.2.2.2, fun h => hsp.out.2 ⟨hd0, by first | rfl | trivial, by first | rfl | trivial, by first | rfl | trivial, hsi'.out.symm, hr'.out.1 h⟩⟩ b3.out
    · have kb : ((k : Int) == 1) = false := by rw [beq_eq_false_iff_ne]; omega
      have hn := Lib.hid k1
      clear k1
      go_wp2_with fail
      go_ret
      exact bool_end (r := false) ⟨fun h => absurd (hsp.out.1 h).2.2.2.1 hn.out, fun h => (Bool.false_ne_true h).elim⟩ bb.out
  have kb0 : (K == 0) = false := by rw [beq_eq_false_iff_ne]; exact K0
  have kb1 : (K == 1) = false := by rw [beq_eq_false_iff_ne]; exact K1
  have kb2 : (K == 2) = false := by rw [beq_eq_false_iff_ne]; exact K2
  have hno := Lib.hid (cellT_more (N := N) (C := C) (k := k) (s := simpleT T) (d := d) (R := P) K0 K1 K2)
  have q1 := x.out.c1
  clear K0 K1 K2
  go_wp2_with fail
  go_ret
  exact bool_end (r := false) ⟨fun h => absurd h hno.out, fun h => (Bool.false_ne_true h).elim⟩ bb.out

set_option maxRecDepth 20000 in
set_option maxHeartbeats 8000000 in
theorem rightIn_any : ∀ (A : Tree) (d : Nat) (c0 c1 c2 : Value) (w : World), ArrP w A c0 c1 c2 → d ≤ 8 →
    Calls Tryz.prog 43 #[.agg #[c0, c1, c2], .int .i64 d] w (BoolPost (RightT A d) w) := by
  intro A
  induction A with
  | leaf => intros; exact (ArrP.leaf ‹ArrP _ Tree.leaf _ _ _›).elim
  | arr S n sh m L K C N k sub ih =>
    intro d c0 c1 c2 w h hd8
    obtain ⟨rfl, _, ⟨ao, nc, rfl, hn, hsh, _⟩, co, mc, rfl, hm, hc⟩ := h
    have n1 := hn.1; have n2 := hn.2.1; have m1 := hm.1; have m2 := hm.2.1; have m3 := hm.2.2
    have hbel := Lib.hid ((Below.refl w.heap.size w).alloc (Nat.le_refl _) (.cells #[.int .u64 S, .slice ao n nc, .slice co m mc] 26))
    have hx := Lib.hid (Box3.new (w := w) (B := w.heap.size) (.int .u64 S) (.slice ao n nc) (.slice co m mc) 26 rfl)
    have hsh1 := Lib.hid (hsh.below hbel.out)
    have hc1 := Lib.hid hc
    have z1 := hx.out.c1
    clear hn hm hsh hc
    go_enter Tryz.func43, Tryz.ntmps43
    go_wp2_with fail
    refine (countW ao n nc sh _ hsh1.out).mono ?_
    rintro e' w1 ⟨⟨M, E, rfl, hcnt⟩, rfl⟩
    have hcnt' := Lib.hid hcnt
    have z2 := hx.out.c2
    clear hcnt z1
    by_cases hE : E = 0
    · subst hE
      have hs := Lib.hid (hcnt'.out.shape rfl)
      by_cases hM : M = m
      · subst hM
        go_wp2_with fail
        go_loopw [27] (fun j wr => ∃ i : Nat, i ≤ m ∧ j = .int .i64 i ∧ Hid (∀ t, t < i → CellT (K t) (N t) (C t) (k t) (simpleT (sub t 0)) d (RightT (sub t 0) (d - 1))) ∧ Hid (Below w.heap.size w wr)) (fun j _ => m - (intOfZ j).toNat)
        case atStart => exact ⟨0, Nat.zero_le _, rfl, Lib.hid fun t h => by omega, hbel⟩
        case round =>
          obtain ⟨i, hi, rfl, hd, hb⟩ := hrel
          clear hx hbel hsh1 z2
          by_cases hlt : i < m
          · rcases hc1.out with h0 | ⟨b, o, rfl, hcells⟩
            · omega
            obtain ⟨e, he, hcell⟩ := hcells i hlt
            have hcw := hcell.below hb.out (Q := fun j d0 d1 d2 => ArrP wr (sub i j) d0 d1 d2) fun j d0 d1 d2 _ hd => ArrP.below _ _ _ _ hd hb.out
            obtain ⟨q0, qL, q1, qK, ⟨q2, ⟨a1, ac, q3, ha, _, _⟩, ⟨b1, bc, q4, hb', _, _⟩⟩, q5, qC, io, kc, q6, hk, hrow⟩ := hcell
            have y0 := cell_below (he 0 (by decide)) hb.out; have y1 := cell_below (he 1 (by decide)) hb.out; have y2 := cell_below (he 2 (by decide)) hb.out; have y3 := cell_below (he 3 (by decide)) hb.out
            have y4 := cell_below (he 4 (by decide)) hb.out; have y5 := cell_below (he 5 (by decide)) hb.out; have y6 := cell_below (he 6 (by decide)) hb.out
            rw [q0, Nat.add_zero] at y0; rw [q1] at y1; rw [q2] at y2; rw [q3] at y3; rw [q4] at y4; rw [q5] at y5; rw [q6] at y6
            have kk1 := hk.1; have kk2 := hk.2.1
            have hv := (show (Value.agg #[.int .u64 (L i), .int .i64 (K i), .bool (N i).neg, .slice a1 (N i).an ac, .slice b1 (N i).am bc, .int .i64 (C i), .slice io (k i) kc]) = .agg #[e 0, e 1, e 2, e 3, e 4, e 5, e 6] from by rw [q0, q1, q2, q3, q4, q5, q6])
            have hba := (Below.refl wr.heap.size wr).alloc (Nat.le_refl _) (.cells #[.int .u64 (L i), .int .i64 (K i), .bool (N i).neg, .slice a1 (N i).an ac, .slice b1 (N i).am bc, .int .i64 (C i), .slice io (k i) kc] 32)
            have hcall := rightCell_of (L i) (K i) (N i) (C i) (k i) (fun j d0 d1 d2 => ArrP wr (sub i j) d0 d1 d2) e (sub i 0) d (RightT (sub i 0) (d - 1)) (wr.alloc (.cells #[.int .u64 (L i), .int .i64 (K i), .bool (N i).neg, .slice a1 (N i).an ac, .slice b1 (N i).am bc, .int .i64 (C i), .slice io (k i) kc] 32)) (hcw.below hba fun _ _ _ _ _ hd => hd) hd8 (fun d0 d1 d2 r => ArrP.below _ _ _ _ r hba)
              (fun d0 d1 d2 w' r hw' hd0 => by
                have q := ih i 0 (d - 1) d0 d1 d2 w' (ArrP.below _ _ _ _ (ArrP.below _ _ _ _ r hba) hw') (by omega)
                rwa [show (((d - 1 : Nat) : Int)) = (d : Int) - 1 from by omega] at q)
            rw [← hv] at hcall
            replace hcall := Lib.hid hcall
            have hb2 := Lib.hid (hb.out.trans (hba.mono hb.out.size))
            clear hcells he q0 qL q1 qK q2 q3 q4 q5 qC q6 ha hb' hk hrow hcw hv hba
            go_wp2_with fail
            refine hcall.out.mono ?_
            rintro e2 w2 ⟨r, rfl, hr, hb3⟩
            have hr' := Lib.hid hr
            have b3 := Lib.hid (hb2.out.trans (hb3.mono hb2.out.size))
            clear hr hb3 hcall y0 y1 y2 y3 y4 y5 y6 hb2
            cases r with
            | true =>
              go_wp2_with fail
              go_roundw
              case rel =>
                refine ⟨i + 1, by omega, by go_num, Lib.hid fun t ht => ?_, b3⟩
                by_cases e : t = i
                · rw [e]; exact hr'.out.1 (by first | exact rfl | trivial)
                · exact hd.out t (by omega)
              case measure => simp [intOfZ]; omega
            | false =>
              go_wp2_with fail
              go_ret
              exact ⟨false, rfl, ⟨fun h => (Bool.false_ne_true h).elim, fun h => absurd (hr'.out.2 (h.2 i hlt)) Bool.false_ne_true⟩, b3.out⟩
          · obtain rfl : i = m := by omega
            go_wp2_with fail
            go_ret
            exact ⟨true, rfl, ⟨fun _ => ⟨hs.out, hd.out⟩, fun _ => rfl⟩, hb.out⟩
      · have hMb : (M == (m : Int)) = false := by rw [beq_eq_false_iff_ne]; exact hM
        have hM' := Lib.hid hM
        clear hM
        go_wp2_with fail
        go_ret
        exact ⟨false, rfl, ⟨fun h => (Bool.false_ne_true h).elim, fun h => absurd (by rw [hs.out.all, ← h.1.all]) hM'.out⟩, hbel.out⟩
    · have hn := Lib.hid (hcnt'.out.none hE)
      have hEb : (E == 0) = false := by rw [beq_eq_false_iff_ne]; exact hE
      clear hE
      go_wp2_with fail
      go_ret
      exact ⟨false, rfl, ⟨fun h => (Bool.false_ne_true h).elim, fun h => absurd h.1 (hn.out.2.2 _)⟩, hbel.out⟩

set_option maxRecDepth 20000 in
set_option maxHeartbeats 1000000 in
theorem rightC : RightC := by
  intro A c0 c1 c2 w h _
  obtain ⟨S, n, nc, m, mc, ao, co, rfl, rfl, rfl⟩ := (ArrP.within _ _ _ _ h).form
  have hbel := Lib.hid ((Below.refl w.heap.size w).alloc (Nat.le_refl _) (.cells #[.int .u64 S, .slice ao n nc, .slice co m mc] 26))
  have hx := Lib.hid (Box3.new (w := w) (B := w.heap.size) (.int .u64 S) (.slice ao n nc) (.slice co m mc) 26 rfl)
  have hA := Lib.hid (ArrP.below _ _ _ _ h hbel.out)
  have z0 := hx.out.c0; have z1 := hx.out.c1; have z2 := hx.out.c2
  clear h
  go_enter Tryz.func23, Tryz.ntmps23
  go_wp2_with fail
  refine (rightIn_any A 8 _ _ _ _ hA.out (Nat.le_refl _)).mono ?_
  rintro e w1 ⟨r, rfl, hr, hb⟩
  have hr' := Lib.hid hr; have b1 := Lib.hid (hbel.out.trans (hb.mono hbel.out.size))
  clear hr hb z0 z1 z2
  go_wp2_with fail
  go_ret
  exact ⟨r, rfl, hr'.out, b1.out⟩

end Go.Proofs.YtmkjebembicljaaGreat

namespace Go.Proofs.YtmkjebembicljaaGreat
open Go.RowKit Num

def SameZPost (n m : Nat) (f g : Nat → Int) (w : World) (e : Ending) (w' : World) : Prop := ∃ r, e = .returned (.bool r) ∧ (r = true ↔ n = m ∧ ∀ j, j < n → f j = g j) ∧ Below w.heap.size w w'

set_option maxRecDepth 20000 in
set_option maxHeartbeats 1000000 in
theorem eqZ_any (ao bo : Option Addr) (n nc m mc : Nat) (f g : Nat → Int) (w : World) (hn : n ≤ 9223372036854775807) (hf : SlZ w ao n f) (hg : SlZ w bo m g) :
    Calls Tryz.prog 55 #[.slice ao n nc, .slice bo m mc] w (SameZPost n m f g w) := by
  by_cases hnm : n = m
  · subst hnm
    go_enter Tryz.func55, Tryz.ntmps55
    go_wp2_with fail
    go_loopw [13] (fun i wr => ∃ j : Nat, j ≤ n ∧ i = .int .i64 j ∧ Hid (∀ i, i < j → f i = g i) ∧ ∃ q, wr = w.drewN q) (fun i _ => n - (intOf i).toNat)
    case atStart => exact ⟨0, Nat.zero_le _, rfl, Lib.hid (fun i hi => absurd hi (Nat.not_lt_zero _)), 0, rfl⟩
    case round =>
      obtain ⟨j, hj, rfl, heq, q, rfl⟩ := hrel
      by_cases hlt : j < n
      · rcases hf with h | ⟨b, off, rfl, hc⟩
        · omega
        rcases hg with h | ⟨b', off', rfl, hc'⟩
        · omega
        have c1 := hc j hlt
        have c2 := hc' j hlt
        clear hc hc'
        by_cases he : f j = g j
        · rw [← he] at c2
          have heq' : Hid (∀ i, i < j + 1 → f i = g i) := Lib.hid (fun i hi => by
            by_cases hij : i < j
            · exact heq.out i hij
            · have : i = j := by omega
              subst this; exact he)
          clear he heq
          go_wp2_with fail
          go_quiet (fail)
          go_wp2_with fail
          go_roundw
          case rel => exact ⟨j + 1, by omega, by go_num, heq', _, rfl⟩
          case measure => simp [intOf]; omega
        · have he' : (f j == g j) = false := by rw [beq_eq_false_iff_ne]; exact he
          have hid := Lib.hid he
          have hlt' := Lib.hid hlt
          clear he
          go_wp2_with fail
          go_quiet (fail)
          go_wp2_with fail
          go_ret
          exact ⟨false, rfl, ⟨(fun h => by cases h), fun h => absurd (h.2 j hlt'.out) hid.out⟩, below_drewN (below_drewN (Below.refl _ _) _) _⟩
      · have : j = n := by omega
        subst this
        go_wp2_with fail
        go_ret
        exact ⟨true, rfl, ⟨fun _ => ⟨rfl, heq.out⟩, fun _ => rfl⟩, below_drewN (Below.refl _ _) _⟩
  · have hd : ((n : Int) == (m : Int)) = false := by rw [beq_eq_false_iff_ne]; omega
    have hnm' := Lib.hid hnm
    clear hf hg
    go_enter Tryz.func55, Tryz.ntmps55
    go_wp2_with fail
    go_ret
    exact ⟨false, rfl, ⟨(fun h => by cases h), fun h => absurd h.1 hnm'.out⟩, Below.refl _ _⟩

/-- How labels are to agree: be the same, or in any way. -/
inductive Ag where
  | any

def Ag.fn : Ag → Value
  | .any => .func (.func 39) #[] #[]

def Ag.b : Ag → Nat → Nat → Bool
  | .any, _, _ => true

set_option maxRecDepth 20000 in
theorem match1_any (l m : Nat) (w : World) : Calls Tryz.prog 39 #[.int .u64 l, .int .u64 m] w fun e w' => e = .returned (.bool (Ag.b .any l m)) ∧ w = w' := by
  go_enter Tryz.func39, Tryz.ntmps39
  go_wp2_with fail
  go_ret
  exact ⟨rfl, rfl⟩

/-- Two cells agree: P tells it of the arrays in them. -/
def AgC (ag : Ag) (L : Nat) (K : Int) (N : NumF) (C : Int) (k : Nat) (L' : Nat) (K' : Int) (N' : NumF) (C' : Int) (k' : Nat) (P : Nat → Prop) : Prop :=
  ag.b L L' = true ∧ K = K' ∧ C = C' ∧ SameF N N' ∧ k = k' ∧ ∀ j, j < k → P j

/-- Two arrays agree. -/
def AgT (ag : Ag) : Tree → Tree → Prop
  | .leaf, _ => False
  | .arr S n sh m L K C N k sub, B => match B with
    | .leaf => False
    | .arr S' n' sh' m' L' K' C' N' k' sub' => ag.b S S' = true ∧ (n = n' ∧ ∀ j, j < n → sh j = sh' j) ∧ m = m' ∧ ∀ i, i < m → AgC ag (L i) (K i) (N i) (C i) (k i) (L' i) (K' i) (N' i) (C' i) (k' i) (fun j => AgT ag (sub i j) (sub' i j))

def AgD (ag : Ag) (c d : CellD) : Prop := AgC ag c.L c.K c.N c.C c.k d.L d.K d.N d.C d.k (fun j => AgT ag (c.sub j) (d.sub j))

def ArrsAg (ag : Ag) (A B : Tree) : Prop := ∀ (c0 c1 c2 d0 d1 d2 : Value) (w : World), ArrP w A c0 c1 c2 → ArrP w B d0 d1 d2 → Calls Tryz.prog 38 #[.agg #[c0, c1, c2], .agg #[d0, d1, d2], ag.fn] w (BoolPost (AgT ag A B) w)

def CellsAg (ag : Ag) (c d : CellD) : Prop := ∀ (e f : Nat → Value) (w : World), CellR w c e → CellR w d f → Calls Tryz.prog 54 #[.agg #[e 0, e 1, e 2, e 3, e 4, e 5, e 6], .agg #[f 0, f 1, f 2, f 3, f 4, f 5, f 6], ag.fn] w (BoolPost (AgD ag c d) w)

set_option maxRecDepth 20000 in
set_option maxHeartbeats 2000000 in
theorem arraysAgree1_any (ag : Ag) (c d : CellD) (B : Nat) (e f : Nat → Value) (w : World) (h : CellsAg ag c d) (hc : CellR w c e) (hd : CellR w d f) (hB : w.cell? ⟨B, 0, none⟩ = some ag.fn) :
    Calls Tryz.prog 53 #[.agg #[e 0, e 1, e 2, e 3, e 4, e 5, e 6], .agg #[f 0, f 1, f 2, f 3, f 4, f 5, f 6], .pointer (some ⟨B, 0, none⟩)] w (BoolPost (AgD ag c d) w) := by
  obtain ⟨F, hF⟩ : ∃ F, F = ag.fn := ⟨_, rfl⟩
  rw [← hF] at hB
  have hc' := hc; have hd' := hd
  obtain ⟨p0, _, p1, _, ⟨p2, ⟨ao, aoc, p3, ha, _⟩, ⟨bo, boc, p4, hb, _⟩⟩, p5, _, io, ioc, p6, hk, _⟩ := hc
  obtain ⟨q0, _, q1, _, ⟨q2, ⟨ap, apc, q3, ha', _⟩, ⟨bp, bpc, q4, hb', _⟩⟩, q5, _, ip, ipc, q6, hk', _⟩ := hd
  have hv : (Value.agg #[.int .u64 c.L, .int .i64 c.K, .bool c.N.neg, .slice ao c.N.an aoc, .slice bo c.N.am boc, .int .i64 c.C, .slice io c.k ioc]) = .agg #[e 0, e 1, e 2, e 3, e 4, e 5, e 6] := by rw [p0, p1, p2, p3, p4, p5, p6]
  have hu : (Value.agg #[.int .u64 d.L, .int .i64 d.K, .bool d.N.neg, .slice ap d.N.an apc, .slice bp d.N.am bpc, .int .i64 d.C, .slice ip d.k ipc]) = .agg #[f 0, f 1, f 2, f 3, f 4, f 5, f 6] := by rw [q0, q1, q2, q3, q4, q5, q6]
  rw [← hv, ← hu]
  have n1 := ha.1; have n2 := ha.2.1; have n3 := hb.1; have n4 := hb.2.1; have n5 := hk.1; have n6 := hk.2.1
  have m1 := ha'.1; have m2 := ha'.2.1; have m3 := hb'.1; have m4 := hb'.2.1; have m5 := hk'.1; have m6 := hk'.2.1
  have hbel := (((Below.refl w.heap.size w).alloc (Nat.le_refl _) (.cells #[.int .u64 c.L, .int .i64 c.K, .bool c.N.neg, .slice ao c.N.an aoc, .slice bo c.N.am boc, .int .i64 c.C, .slice io c.k ioc] 32)).alloc (by simp) (.cells #[.int .u64 d.L, .int .i64 d.K, .bool d.N.neg, .slice ap d.N.an apc, .slice bp d.N.am bpc, .int .i64 d.C, .slice ip d.k ipc] 32))
  have hx := (Box7.new (w := w) (B := w.heap.size) (.int .u64 c.L) (.int .i64 c.K) (.bool c.N.neg) (.slice ao c.N.an aoc) (.slice bo c.N.am boc) (.int .i64 c.C) (.slice io c.k ioc) 32 rfl).alloc (.cells #[.int .u64 d.L, .int .i64 d.K, .bool d.N.neg, .slice ap d.N.an apc, .slice bp d.N.am bpc, .int .i64 d.C, .slice ip d.k ipc] 32)
  have hy := Box7.new (w := w.alloc (.cells #[.int .u64 c.L, .int .i64 c.K, .bool c.N.neg, .slice ao c.N.an aoc, .slice bo c.N.am boc, .int .i64 c.C, .slice io c.k ioc] 32)) (B := w.heap.size + 1) (.int .u64 d.L) (.int .i64 d.K) (.bool d.N.neg) (.slice ap d.N.an apc) (.slice bp d.N.am bpc) (.int .i64 d.C) (.slice ip d.k ipc) 32 (by simp)
  have hc2 := Lib.hid hc'; have hd2 := Lib.hid hd'; have hB2 := Lib.hid hB; have hv' := Lib.hid hv; have hu' := Lib.hid hu; have hF' := Lib.hid hF
  clear p0 p1 p2 p3 p4 p5 p6 q0 q1 q2 q3 q4 q5 q6 ha hb hk ha' hb' hk' hc' hd' hB hv hu hF
  go_enter Tryz.func53, Tryz.ntmps53
  go_upto_region 1 with fail
  refine told_wp (fun w' => Below w.heap.size w w' ∧ Box7 w' w.heap.size (.int .u64 c.L) (.int .i64 c.K) (.bool c.N.neg) (.slice ao c.N.an aoc) (.slice bo c.N.am boc) (.int .i64 c.C) (.slice io c.k ioc) ∧ Box7 w' (w.heap.size + 1) (.int .u64 d.L) (.int .i64 d.K) (.bool d.N.neg) (.slice ap d.N.an apc) (.slice bp d.N.am bpc) (.int .i64 d.C) (.slice ip d.k ipc)) ⟨hbel, hx, hy⟩ ?_
  clear hbel hx hy
  rintro w2 ⟨b2, x2, y2⟩
  have hcall := h e f w2 (hc2.out.later b2) (hd2.out.later b2)
  rw [← hv'.out, ← hu'.out, ← hF'.out] at hcall
  replace hcall := Lib.hid hcall
  have g0 := x2.c0; have g1 := x2.c1; have g2 := x2.c2; have g3 := x2.c3; have g4 := x2.c4; have g5 := x2.c5; have g6 := x2.c6
  have l0 := y2.c0; have l1 := y2.c1; have l2 := y2.c2; have l3 := y2.c3; have l4 := y2.c4; have l5 := y2.c5; have l6 := y2.c6
  have gB := cell_below hB2.out b2
  have b2' := Lib.hid b2
  clear x2 y2 b2
  go_wp2_with fail
  refine hcall.out.mono ?_
  rintro e' w3 ⟨r, rfl, hr, hb3⟩
  have hr' := Lib.hid hr; have b3 := Lib.hid (b2'.out.trans (hb3.mono b2'.out.size))
  clear hr hb3 hcall gB g0 g1 g2 g3 g4 g5 g6 l0 l1 l2 l3 l4 l5 l6
  go_wp2_with fail
  go_ret
  exact ⟨r, rfl, hr'.out, b3.out⟩

set_option maxRecDepth 20000 in
set_option maxHeartbeats 2000000 in
theorem cellsAgree1_any (ag : Ag) (A A' : Tree) (B : Nat) (c0 c1 c2 d0 d1 d2 : Value) (w : World) (h : ArrsAg ag A A') (hc : ArrP w A c0 c1 c2) (hd : ArrP w A' d0 d1 d2) (hB : w.cell? ⟨B, 0, none⟩ = some ag.fn) :
    Calls Tryz.prog 66 #[.agg #[c0, c1, c2], .agg #[d0, d1, d2], .pointer (some ⟨B, 0, none⟩)] w (BoolPost (AgT ag A A') w) := by
  obtain ⟨F, hF⟩ : ∃ F, F = ag.fn := ⟨_, rfl⟩
  rw [← hF] at hB
  obtain ⟨S, n, nc, m, mc, ao, co, rfl, rfl, rfl⟩ := (ArrP.within _ _ _ _ hc).form
  obtain ⟨S', n', nc', m', mc', ao', co', rfl, rfl, rfl⟩ := (ArrP.within _ _ _ _ hd).form
  have hbel := (((Below.refl w.heap.size w).alloc (Nat.le_refl _) (.cells #[.int .u64 S, .slice ao n nc, .slice co m mc] 26)).alloc (by simp) (.cells #[.int .u64 S', .slice ao' n' nc', .slice co' m' mc'] 26))
  have hx := (Box3.new (w := w) (B := w.heap.size) (.int .u64 S) (.slice ao n nc) (.slice co m mc) 26 rfl).alloc (.cells #[.int .u64 S', .slice ao' n' nc', .slice co' m' mc'] 26)
  have hy := Box3.new (w := w.alloc (.cells #[.int .u64 S, .slice ao n nc, .slice co m mc] 26)) (B := w.heap.size + 1) (.int .u64 S') (.slice ao' n' nc') (.slice co' m' mc') 26 (by simp)
  have hc2 := Lib.hid hc; have hd2 := Lib.hid hd; have hB2 := Lib.hid hB; have hF' := Lib.hid hF
  clear hc hd hB hF
  go_enter Tryz.func66, Tryz.ntmps66
  go_upto_region 1 with fail
  refine told_wp (fun w' => Below w.heap.size w w' ∧ Box3 w' w.heap.size (.int .u64 S) (.slice ao n nc) (.slice co m mc) ∧ Box3 w' (w.heap.size + 1) (.int .u64 S') (.slice ao' n' nc') (.slice co' m' mc')) ⟨hbel, hx, hy⟩ ?_
  clear hbel hx hy
  rintro w2 ⟨b2, x2, y2⟩
  have hcall := h _ _ _ _ _ _ w2 (ArrP.below _ _ _ _ hc2.out b2) (ArrP.below _ _ _ _ hd2.out b2)
  rw [← hF'.out] at hcall
  replace hcall := Lib.hid hcall
  have g0 := x2.c0; have g1 := x2.c1; have g2 := x2.c2
  have l0 := y2.c0; have l1 := y2.c1; have l2 := y2.c2
  have gB := cell_below hB2.out b2
  have b2' := Lib.hid b2
  clear x2 y2 b2
  go_wp2_with fail
  refine hcall.out.mono ?_
  rintro e' w3 ⟨r, rfl, hr, hb3⟩
  have hr' := Lib.hid hr; have b3 := Lib.hid (b2'.out.trans (hb3.mono b2'.out.size))
  clear hr hb3 hcall gB g0 g1 g2 l0 l1 l2
  go_wp2_with fail
  go_ret
  exact ⟨r, rfl, hr'.out, b3.out⟩

def CellsAgree (ag : Ag) (m m' : Nat) (cs cs' : Nat → CellD) : Prop := m = m' ∧ ∀ i, i < m → AgD ag (cs i) (cs' i)

def ArrsAgree (ag : Ag) (k k' : Nat) (T T' : Nat → Tree) : Prop := k = k' ∧ ∀ j, j < k → AgT ag (T j) (T' j)

set_option maxRecDepth 20000 in
set_option maxHeartbeats 4000000 in
theorem equalFuncC_of (ag : Ag) (m mc m' mc' : Nat) (co co' : Option Addr) (cs cs' : Nat → CellD) (B : Nat) (w : World) (h : ∀ i, i < m → ∀ d, CellsAg ag (cs i) d) (hc : CellsP w co m cs) (hc' : CellsP w co' m' cs') (hm : IsN m mc) (hm' : IsN m' mc') (hB : w.cell? ⟨B, 0, none⟩ = some ag.fn) :
    Calls Tryz.prog 56 #[.slice co m mc, .slice co' m' mc', .func (.func 53) #[] #[.pointer (some ⟨B, 0, none⟩)]] w (BoolPost (CellsAgree ag m m' cs cs') w) := by
  have m1 := hm.1; have m2 := hm.2.1; have m3 := hm'.1; have m4 := hm'.2.1
  have h1 := Lib.hid h; have hc1 := Lib.hid hc; have hc2 := Lib.hid hc'; have hB1 := Lib.hid hB
  clear h hc hc' hB hm hm'
  by_cases hmm : m = m'
  · subst hmm
    go_enter Tryz.func56, Tryz.ntmps56
    go_wp2_with fail
    go_loopw [17] (fun i wr => ∃ t : Nat, t ≤ m ∧ i = .int .i64 t ∧ Hid (∀ i, i < t → AgD ag (cs i) (cs' i)) ∧ Hid (Below w.heap.size w wr)) (fun i _ => m - (intOfZ i).toNat)
    case atStart => exact ⟨0, Nat.zero_le _, rfl, Lib.hid fun i hi => by omega, Lib.hid (Below.refl _ _)⟩
    case round =>
      obtain ⟨t, ht, rfl, hd, hb⟩ := hrel
      by_cases hlt : t < m
      · rcases hc1.out with h0 | ⟨b, o, rfl, hcells⟩
        · omega
        rcases hc2.out with h0 | ⟨b', o', rfl, hcells'⟩
        · omega
        obtain ⟨e, he, hR⟩ := hcells t hlt
        obtain ⟨f, hf, hR'⟩ := hcells' t hlt
        have hRw := hR.later hb.out; have hRw' := hR'.later hb.out
        obtain ⟨p0, _, p1, _, ⟨p2, ⟨ao, aoc, p3, ha, _⟩, ⟨bo, boc, p4, hb1, _⟩⟩, p5, _, io, ioc, p6, hk, _⟩ := hR
        obtain ⟨q0, _, q1, _, ⟨q2, ⟨ap, apc, q3, ha', _⟩, ⟨bp, bpc, q4, hb', _⟩⟩, q5, _, ip, ipc, q6, hk', _⟩ := hR'
        have n1 := ha.1; have n2 := ha.2.1; have n3 := hb1.1; have n4 := hb1.2.1; have n5 := hk.1; have n6 := hk.2.1
        have k1 := ha'.1; have k2 := ha'.2.1; have k3 := hb'.1; have k4 := hb'.2.1; have k5 := hk'.1; have k6 := hk'.2.1
        have y0 := cell_below (he 0 (by decide)) hb.out; have y1 := cell_below (he 1 (by decide)) hb.out; have y2 := cell_below (he 2 (by decide)) hb.out; have y3 := cell_below (he 3 (by decide)) hb.out
        have y4 := cell_below (he 4 (by decide)) hb.out; have y5 := cell_below (he 5 (by decide)) hb.out; have y6 := cell_below (he 6 (by decide)) hb.out
        rw [p0, Nat.add_zero] at y0; rw [p1] at y1; rw [p2] at y2; rw [p3] at y3; rw [p4] at y4; rw [p5] at y5; rw [p6] at y6
        have hv := Lib.hid (show (Value.agg #[.int .u64 (cs t).L, .int .i64 (cs t).K, .bool (cs t).N.neg, .slice ao (cs t).N.an aoc, .slice bo (cs t).N.am boc, .int .i64 (cs t).C, .slice io (cs t).k ioc]) = .agg #[e 0, e 1, e 2, e 3, e 4, e 5, e 6] by rw [p0, p1, p2, p3, p4, p5, p6])
        have hu := Lib.hid (show (Value.agg #[.int .u64 (cs' t).L, .int .i64 (cs' t).K, .bool (cs' t).N.neg, .slice ap (cs' t).N.an apc, .slice bp (cs' t).N.am bpc, .int .i64 (cs' t).C, .slice ip (cs' t).k ipc]) = .agg #[f 0, f 1, f 2, f 3, f 4, f 5, f 6] by rw [q0, q1, q2, q3, q4, q5, q6])
        have hba := (Below.refl wr.heap.size wr).alloc (Nat.le_refl _) (.cells #[.int .u64 (cs t).L, .int .i64 (cs t).K, .bool (cs t).N.neg, .slice ao (cs t).N.an aoc, .slice bo (cs t).N.am boc, .int .i64 (cs t).C, .slice io (cs t).k ioc] 32)
        have v0 := cell_below (cell_below (hf 0 (by decide)) hb.out) hba; have v1 := cell_below (cell_below (hf 1 (by decide)) hb.out) hba; have v2 := cell_below (cell_below (hf 2 (by decide)) hb.out) hba; have v3 := cell_below (cell_below (hf 3 (by decide)) hb.out) hba
        have v4 := cell_below (cell_below (hf 4 (by decide)) hb.out) hba; have v5 := cell_below (cell_below (hf 5 (by decide)) hb.out) hba; have v6 := cell_below (cell_below (hf 6 (by decide)) hb.out) hba
        rw [q0, Nat.add_zero] at v0; rw [q1] at v1; rw [q2] at v2; rw [q3] at v3; rw [q4] at v4; rw [q5] at v5; rw [q6] at v6
        have hRa := hRw.later hba; have hRa' := hRw'.later hba
        have hx := Box7.new (w := wr) (B := wr.heap.size) (.int .u64 (cs t).L) (.int .i64 (cs t).K) (.bool (cs t).N.neg) (.slice ao (cs t).N.an aoc) (.slice bo (cs t).N.am boc) (.int .i64 (cs t).C) (.slice io (cs t).k ioc) 32 rfl
        have hbb := hb.out.trans (hba.mono hb.out.size)
        obtain ⟨U, hU⟩ : ∃ U, U = wr.heap.size := ⟨_, rfl⟩
        clear hcells hcells' he hf p0 p1 p2 p3 p4 p5 p6 q0 q1 q2 q3 q4 q5 q6 ha hb1 hk ha' hb' hk' hRw hRw' hba
        go_upto_region 6 with fail
        rw [← hU] at hx ⊢
        refine told_wp (fun w' => Below w.heap.size w w' ∧ Box7 w' U (.int .u64 (cs t).L) (.int .i64 (cs t).K) (.bool (cs t).N.neg) (.slice ao (cs t).N.an aoc) (.slice bo (cs t).N.am boc) (.int .i64 (cs t).C) (.slice io (cs t).k ioc) ∧ CellR w' (cs t) e ∧ CellR w' (cs' t) f ∧ (w'.cell? ⟨b', o' + t * 7, none⟩ = some (.int .u64 (cs' t).L) ∧ w'.cell? ⟨b', o' + t * 7 + 1, none⟩ = some (.int .i64 (cs' t).K) ∧ w'.cell? ⟨b', o' + t * 7 + 2, none⟩ = some (.bool (cs' t).N.neg) ∧ w'.cell? ⟨b', o' + t * 7 + 3, none⟩ = some (.slice ap (cs' t).N.an apc) ∧ w'.cell? ⟨b', o' + t * 7 + 4, none⟩ = some (.slice bp (cs' t).N.am bpc) ∧ w'.cell? ⟨b', o' + t * 7 + 5, none⟩ = some (.int .i64 (cs' t).C) ∧ w'.cell? ⟨b', o' + t * 7 + 6, none⟩ = some (.slice ip (cs' t).k ipc))) ⟨hbb, hx, hRa, hRa', v0, v1, v2, v3, v4, v5, v6⟩ ?_
        clear hbb hx hRa hRa' v0 v1 v2 v3 v4 v5 v6 y0 y1 y2 y3 y4 y5 y6 hU hb
        rintro wa ⟨hb, hx, hRa, hRa', v0, v1, v2, v3, v4, v5, v6⟩
        have hba := (Below.refl wa.heap.size wa).alloc (Nat.le_refl _) (.cells #[.int .u64 (cs' t).L, .int .i64 (cs' t).K, .bool (cs' t).N.neg, .slice ap (cs' t).N.an apc, .slice bp (cs' t).N.am bpc, .int .i64 (cs' t).C, .slice ip (cs' t).k ipc] 32)
        have hy := Box7.new (w := wa) (B := wa.heap.size) (.int .u64 (cs' t).L) (.int .i64 (cs' t).K) (.bool (cs' t).N.neg) (.slice ap (cs' t).N.an apc) (.slice bp (cs' t).N.am bpc) (.int .i64 (cs' t).C) (.slice ip (cs' t).k ipc) 32 rfl
        have hx2 := hx.later hba
        have hbb := hb.trans (hba.mono hb.size)
        have hRb := hRa.later hba; have hRb' := hRa'.later hba
        obtain ⟨U', hU⟩ : ∃ U', U' = wa.heap.size := ⟨_, rfl⟩
        clear hb hx hRa hRa' hba
        go_upto_region 7 with fail
        rw [← hU] at hy ⊢
        refine told_wp (fun w' => Below w.heap.size w w' ∧ Box7 w' U (.int .u64 (cs t).L) (.int .i64 (cs t).K) (.bool (cs t).N.neg) (.slice ao (cs t).N.an aoc) (.slice bo (cs t).N.am boc) (.int .i64 (cs t).C) (.slice io (cs t).k ioc) ∧ Box7 w' U' (.int .u64 (cs' t).L) (.int .i64 (cs' t).K) (.bool (cs' t).N.neg) (.slice ap (cs' t).N.an apc) (.slice bp (cs' t).N.am bpc) (.int .i64 (cs' t).C) (.slice ip (cs' t).k ipc) ∧ CellR w' (cs t) e ∧ CellR w' (cs' t) f) ⟨hbb, hx2, hy, hRb, hRb'⟩ ?_
        clear hbb hx2 hy hRb hRb' v0 v1 v2 v3 v4 v5 v6 hU
        rintro wb ⟨hb, x, y, hRa, hRa'⟩
        have hcall := arraysAgree1_any ag (cs t) (cs' t) B e f wb (h1.out t hlt _) hRa hRa' (cell_below hB1.out hb)
        rw [← hv.out, ← hu.out] at hcall
        replace hcall := Lib.hid hcall
        have g0 := x.c0; have g1 := x.c1; have g2 := x.c2; have g3 := x.c3; have g4 := x.c4; have g5 := x.c5; have g6 := x.c6
        have l0 := y.c0; have l1 := y.c1; have l2 := y.c2; have l3 := y.c3; have l4 := y.c4; have l5 := y.c5; have l6 := y.c6
        have hbh := Lib.hid hb
        clear x y hRa hRa' hb
        go_wp2_with fail
        refine hcall.out.mono ?_
        rintro e2 w2 ⟨r, rfl, hr, hb3⟩
        have hr' := Lib.hid hr
        have b3 := Lib.hid (hbh.out.trans (hb3.mono hbh.out.size))
        clear hr hb3 hcall g0 g1 g2 g3 g4 g5 g6 l0 l1 l2 l3 l4 l5 l6
        cases r with
        | true =>
          go_wp2_with fail
          go_roundw
          case rel =>
            refine ⟨t + 1, by omega, by go_num, Lib.hid fun i hi => ?_, b3⟩
            by_cases e : i = t
            · rw [e]; exact hr'.out.1 (by first | exact rfl | trivial)
            · exact hd.out i (by omega)
          case measure => simp [intOfZ]; omega
        | false =>
          go_wp2_with fail
          go_ret
          exact ⟨false, rfl, ⟨fun h => (Bool.false_ne_true h).elim, fun h => absurd (hr'.out.2 (h.2 t hlt)) Bool.false_ne_true⟩, b3.out⟩
      · obtain rfl : t = m := by omega
        go_wp2_with fail
        go_ret
        exact ⟨true, rfl, ⟨fun _ => ⟨rfl, hd.out⟩, fun _ => rfl⟩, hb.out⟩
  · have hd : ((m : Int) == (m' : Int)) = false := by rw [beq_eq_false_iff_ne]; omega
    have hmm' := Lib.hid hmm
    clear hmm
    go_enter Tryz.func56, Tryz.ntmps56
    go_wp2_with fail
    go_ret
    exact ⟨false, rfl, ⟨fun h => (Bool.false_ne_true h).elim, fun h => absurd h.1 hmm'.out⟩, Below.refl _ _⟩

set_option maxRecDepth 20000 in
set_option maxHeartbeats 4000000 in
theorem equalFuncA_of (ag : Ag) (k kc k' kc' : Nat) (io io' : Option Addr) (T T' : Nat → Tree) (B : Nat) (w : World) (h : ∀ j, j < k → ∀ D, ArrsAg ag (T j) D) (hc : RowP w io k fun j d0 d1 d2 => ArrP w (T j) d0 d1 d2) (hc' : RowP w io' k' fun j d0 d1 d2 => ArrP w (T' j) d0 d1 d2) (hm : IsN k kc) (hm' : IsN k' kc') (hB : w.cell? ⟨B, 0, none⟩ = some ag.fn) :
    Calls Tryz.prog 68 #[.slice io k kc, .slice io' k' kc', .func (.func 66) #[] #[.pointer (some ⟨B, 0, none⟩)]] w (BoolPost (ArrsAgree ag k k' T T') w) := by
  have m1 := hm.1; have m2 := hm.2.1; have m3 := hm'.1; have m4 := hm'.2.1
  have h1 := Lib.hid h; have hc1 : Hid (RowP w io k fun j d0 d1 d2 => ArrP w (T j) d0 d1 d2) := Lib.hid hc; have hc2 : Hid (RowP w io' k' fun j d0 d1 d2 => ArrP w (T' j) d0 d1 d2) := Lib.hid hc'; have hB1 := Lib.hid hB
  clear h hc hc' hB hm hm'
  by_cases hmm : k = k'
  · subst hmm
    go_enter Tryz.func68, Tryz.ntmps68
    go_wp2_with fail
    go_loopw [17] (fun i wr => ∃ t : Nat, t ≤ k ∧ i = .int .i64 t ∧ Hid (∀ j, j < t → AgT ag (T j) (T' j)) ∧ Hid (Below w.heap.size w wr)) (fun i _ => k - (intOfZ i).toNat)
    case atStart => exact ⟨0, Nat.zero_le _, rfl, Lib.hid fun i hi => by omega, Lib.hid (Below.refl _ _)⟩
    case round =>
      obtain ⟨t, ht, rfl, hd, hb⟩ := hrel
      by_cases hlt : t < k
      · rcases hc1.out with h0 | ⟨b, o, rfl, hcells⟩
        · omega
        rcases hc2.out with h0 | ⟨b', o', rfl, hcells'⟩
        · omega
        obtain ⟨u0, u1, u2, r0, r1, r2, r3⟩ := hcells t hlt
        obtain ⟨t0, t1, t2, s0, s1, s2, s3⟩ := hcells' t hlt
        obtain ⟨S, n, nc, m, mc, ao, co, rfl, rfl, rfl⟩ := (ArrP.within _ _ _ _ r3).form
        obtain ⟨S', n', nc', m', mc', ao', co', rfl, rfl, rfl⟩ := (ArrP.within _ _ _ _ s3).form
        have hRw := ArrP.below _ _ _ _ r3 hb.out; have hRw' := ArrP.below _ _ _ _ s3 hb.out
        have y0 := cell_below r0 hb.out; have y1 := cell_below r1 hb.out; have y2 := cell_below r2 hb.out
        have hba := (Below.refl wr.heap.size wr).alloc (Nat.le_refl _) (.cells #[.int .u64 S, .slice ao n nc, .slice co m mc] 26)
        have v0 := cell_below (cell_below s0 hb.out) hba; have v1 := cell_below (cell_below s1 hb.out) hba; have v2 := cell_below (cell_below s2 hb.out) hba
        have hRa := ArrP.below _ _ _ _ hRw hba; have hRa' := ArrP.below _ _ _ _ hRw' hba
        have hx := Box3.new (w := wr) (B := wr.heap.size) (.int .u64 S) (.slice ao n nc) (.slice co m mc) 26 rfl
        have hbb := hb.out.trans (hba.mono hb.out.size)
        obtain ⟨U, hU⟩ : ∃ U, U = wr.heap.size := ⟨_, rfl⟩
        clear hcells hcells' r0 r1 r2 r3 s0 s1 s2 s3 hRw hRw' hba
        go_upto_region 6 with fail
        rw [← hU] at hx ⊢
        refine told_wp (fun w' => Below w.heap.size w w' ∧ Box3 w' U (.int .u64 S) (.slice ao n nc) (.slice co m mc) ∧ ArrP w' (T t) (.int .u64 S) (.slice ao n nc) (.slice co m mc) ∧ ArrP w' (T' t) (.int .u64 S') (.slice ao' n' nc') (.slice co' m' mc') ∧ (w'.cell? ⟨b', o' + t * 3, none⟩ = some (.int .u64 S') ∧ w'.cell? ⟨b', o' + t * 3 + 1, none⟩ = some (.slice ao' n' nc') ∧ w'.cell? ⟨b', o' + t * 3 + 2, none⟩ = some (.slice co' m' mc'))) ⟨hbb, hx, hRa, hRa', v0, v1, v2⟩ ?_
        clear hbb hx hRa hRa' v0 v1 v2 y0 y1 y2 hU hb
        rintro wa ⟨hb, hx, hRa, hRa', v0, v1, v2⟩
        have hba := (Below.refl wa.heap.size wa).alloc (Nat.le_refl _) (.cells #[.int .u64 S', .slice ao' n' nc', .slice co' m' mc'] 26)
        have hy := Box3.new (w := wa) (B := wa.heap.size) (.int .u64 S') (.slice ao' n' nc') (.slice co' m' mc') 26 rfl
        have hx2 := hx.later hba
        have hbb := hb.trans (hba.mono hb.size)
        have hRb := ArrP.below _ _ _ _ hRa hba; have hRb' := ArrP.below _ _ _ _ hRa' hba
        obtain ⟨U', hU⟩ : ∃ U', U' = wa.heap.size := ⟨_, rfl⟩
        clear hb hx hRa hRa' hba
        go_upto_region 7 with fail
        rw [← hU] at hy ⊢
        refine told_wp (fun w' => Below w.heap.size w w' ∧ Box3 w' U (.int .u64 S) (.slice ao n nc) (.slice co m mc) ∧ Box3 w' U' (.int .u64 S') (.slice ao' n' nc') (.slice co' m' mc') ∧ ArrP w' (T t) (.int .u64 S) (.slice ao n nc) (.slice co m mc) ∧ ArrP w' (T' t) (.int .u64 S') (.slice ao' n' nc') (.slice co' m' mc')) ⟨hbb, hx2, hy, hRb, hRb'⟩ ?_
        clear hbb hx2 hy hRb hRb' v0 v1 v2 hU
        rintro wb ⟨hb, x, y, hRa, hRa'⟩
        have hcall := Lib.hid (cellsAgree1_any ag (T t) (T' t) B _ _ _ _ _ _ wb (h1.out t hlt _) hRa hRa' (cell_below hB1.out hb))
        have g0 := x.c0; have g1 := x.c1; have g2 := x.c2
        have l0 := y.c0; have l1 := y.c1; have l2 := y.c2
        have hbh := Lib.hid hb
        clear x y hRa hRa' hb
        go_wp2_with fail
        refine hcall.out.mono ?_
        rintro e2 w2 ⟨r, rfl, hr, hb3⟩
        have hr' := Lib.hid hr
        have b3 := Lib.hid (hbh.out.trans (hb3.mono hbh.out.size))
        clear hr hb3 hcall g0 g1 g2 l0 l1 l2
        cases r with
        | true =>
          go_wp2_with fail
          go_roundw
          case rel =>
            refine ⟨t + 1, by omega, by go_num, Lib.hid fun i hi => ?_, b3⟩
            by_cases e : i = t
            · rw [e]; exact hr'.out.1 (by first | exact rfl | trivial)
            · exact hd.out i (by omega)
          case measure => simp [intOfZ]; omega
        | false =>
          go_wp2_with fail
          go_ret
          exact ⟨false, rfl, ⟨fun h => (Bool.false_ne_true h).elim, fun h => absurd (hr'.out.2 (h.2 t hlt)) Bool.false_ne_true⟩, b3.out⟩
      · obtain rfl : t = k := by omega
        go_wp2_with fail
        go_ret
        exact ⟨true, rfl, ⟨fun _ => ⟨rfl, hd.out⟩, fun _ => rfl⟩, hb.out⟩
  · have hd : ((k : Int) == (k' : Int)) = false := by rw [beq_eq_false_iff_ne]; omega
    have hmm' := Lib.hid hmm
    clear hmm
    go_enter Tryz.func68, Tryz.ntmps68
    go_wp2_with fail
    go_ret
    exact ⟨false, rfl, ⟨fun h => (Bool.false_ne_true h).elim, fun h => absurd h.1 hmm'.out⟩, Below.refl _ _⟩

end Go.Proofs.YtmkjebembicljaaGreat

namespace Go.Proofs.YtmkjebembicljaaGreat
open Go.RowKit Num

set_option maxRecDepth 20000 in
set_option maxHeartbeats 8000000 in
theorem cellsAg_of (ag : Ag) (c d : CellD) (hsub : ∀ j, j < c.k → ∀ D, ArrsAg ag (c.sub j) D) : CellsAg ag c d := by
  intro e f w hc hd
  obtain ⟨F, hF⟩ : ∃ F, F = ag.fn := ⟨_, rfl⟩
  rw [← hF]
  obtain ⟨p0, _, p1, _, ⟨p2, ⟨ao, aoc, p3, ha, s1, _⟩, ⟨bo, boc, p4, hb, s2, _⟩⟩, p5, _, io, ioc, p6, hk, row1⟩ := hc
  obtain ⟨q0, _, q1, _, ⟨q2, ⟨ap, apc, q3, ha', s3, _⟩, ⟨bp, bpc, q4, hb', s4, _⟩⟩, q5, _, ip, ipc, q6, hk', row2⟩ := hd
  rw [p0, p1, p2, p3, p4, p5, p6, q0, q1, q2, q3, q4, q5, q6]
  have n1 := ha.1; have n2 := ha.2.1; have n3 := hb.1; have n4 := hb.2.1; have n5 := hk.1; have n6 := hk.2.1
  have m1 := ha'.1; have m2 := ha'.2.1; have m3 := hb'.1; have m4 := hb'.2.1; have m5 := hk'.1; have m6 := hk'.2.1
  have hkn := Lib.hid (And.intro hk hk')
  have hs1 := Lib.hid s1; have hs2 := Lib.hid s2; have hs3 := Lib.hid s3; have hs4 := Lib.hid s4
  have hrow1 : Hid (RowP w io c.k fun j d0 d1 d2 => ArrP w (c.sub j) d0 d1 d2) := Lib.hid row1
  have hrow2 : Hid (RowP w ip d.k fun j d0 d1 d2 => ArrP w (d.sub j) d0 d1 d2) := Lib.hid row2
  have hsub' := Lib.hid hsub; have hF' := Lib.hid hF
  have hbel := (((Below.refl w.heap.size w).alloc (Nat.le_refl _) (.cells #[.int .u64 c.L, .int .i64 c.K, .bool c.N.neg, .slice ao c.N.an aoc, .slice bo c.N.am boc, .int .i64 c.C, .slice io c.k ioc] 32)).alloc (by simp) (.cells #[.int .u64 d.L, .int .i64 d.K, .bool d.N.neg, .slice ap d.N.an apc, .slice bp d.N.am bpc, .int .i64 d.C, .slice ip d.k ipc] 32)).alloc (by simp; omega) (.cells #[F] 40)
  have hx := ((Box7.new (w := w) (B := w.heap.size) (.int .u64 c.L) (.int .i64 c.K) (.bool c.N.neg) (.slice ao c.N.an aoc) (.slice bo c.N.am boc) (.int .i64 c.C) (.slice io c.k ioc) 32 rfl).alloc (.cells #[.int .u64 d.L, .int .i64 d.K, .bool d.N.neg, .slice ap d.N.an apc, .slice bp d.N.am bpc, .int .i64 d.C, .slice ip d.k ipc] 32)).alloc (.cells #[F] 40)
  have hy := (Box7.new (w := w.alloc (.cells #[.int .u64 c.L, .int .i64 c.K, .bool c.N.neg, .slice ao c.N.an aoc, .slice bo c.N.am boc, .int .i64 c.C, .slice io c.k ioc] 32)) (B := w.heap.size + 1) (.int .u64 d.L) (.int .i64 d.K) (.bool d.N.neg) (.slice ap d.N.an apc) (.slice bp d.N.am bpc) (.int .i64 d.C) (.slice ip d.k ipc) 32 (by simp)).alloc (.cells #[F] 40)
  have hz : (((w.alloc (.cells #[.int .u64 c.L, .int .i64 c.K, .bool c.N.neg, .slice ao c.N.an aoc, .slice bo c.N.am boc, .int .i64 c.C, .slice io c.k ioc] 32)).alloc (.cells #[.int .u64 d.L, .int .i64 d.K, .bool d.N.neg, .slice ap d.N.an apc, .slice bp d.N.am bpc, .int .i64 d.C, .slice ip d.k ipc] 32)).alloc (.cells #[F] 40)).cell? ⟨w.heap.size + 2, 0, none⟩ = some F := by
    have h := World.cell?_alloc_new ((w.alloc (.cells #[.int .u64 c.L, .int .i64 c.K, .bool c.N.neg, .slice ao c.N.an aoc, .slice bo c.N.am boc, .int .i64 c.C, .slice io c.k ioc] 32)).alloc (.cells #[.int .u64 d.L, .int .i64 d.K, .bool d.N.neg, .slice ap d.N.an apc, .slice bp d.N.am bpc, .int .i64 d.C, .slice ip d.k ipc] 32)) #[F] 40 0
    rw [show ((w.alloc (.cells #[.int .u64 c.L, .int .i64 c.K, .bool c.N.neg, .slice ao c.N.an aoc, .slice bo c.N.am boc, .int .i64 c.C, .slice io c.k ioc] 32)).alloc (.cells #[.int .u64 d.L, .int .i64 d.K, .bool d.N.neg, .slice ap d.N.an apc, .slice bp d.N.am bpc, .int .i64 d.C, .slice ip d.k ipc] 32)).heap.size = w.heap.size + 2 by simp] at h
    exact h
  clear p0 p1 p2 p3 p4 p5 p6 q0 q1 q2 q3 q4 q5 q6 ha hb hk ha' hb' hk' s1 s2 s3 s4 row1 row2 hsub hF
  cases ag with
  | any =>
    obtain rfl : F = .func (.func 39) #[] #[] := hF'.out
    go_enter Tryz.func54, Tryz.ntmps54
    go_upto_region 2 with fail
    refine told_wp (fun w' => Below w.heap.size w w' ∧ Box7 w' w.heap.size (.int .u64 c.L) (.int .i64 c.K) (.bool c.N.neg) (.slice ao c.N.an aoc) (.slice bo c.N.am boc) (.int .i64 c.C) (.slice io c.k ioc) ∧ Box7 w' (w.heap.size + 1) (.int .u64 d.L) (.int .i64 d.K) (.bool d.N.neg) (.slice ap d.N.an apc) (.slice bp d.N.am bpc) (.int .i64 d.C) (.slice ip d.k ipc) ∧ w'.cell? ⟨w.heap.size + 2, 0, none⟩ = some (.func (.func 39) #[] #[])) ⟨hbel, hx, hy, hz⟩ ?_
    clear hbel hx hy hz
    rintro w2 ⟨b2, x2, y2, z2⟩
    have g0 := x2.c0; have l0 := y2.c0
    replace b2 := Lib.hid b2; replace x2 := Lib.hid x2; replace y2 := Lib.hid y2; replace z2 := Lib.hid z2
    have zz := z2.out
    go_wp2_with fail
    refine (match1_any c.L d.L _).mono ?_
    rintro e1 w3 ⟨rfl, rfl⟩
    clear g0 l0 zz
    obtain ⟨r0, hr0⟩ : ∃ r, r = Ag.b .any c.L d.L := ⟨_, rfl⟩
    have hr0' := Lib.hid hr0
    rw [← hr0]
    clear hr0
    cases r0 with
    | false =>
      go_wp2_with fail
      go_ret
      exact bool_end (r := false) ⟨fun h => absurd (hr0'.out.trans h.1).symm Bool.noConfusion, fun h => (Bool.false_ne_true h).elim⟩ b2.out
    | true =>
    have g1 := x2.out.c1; have l1 := y2.out.c1
    by_cases hK : c.K = d.K
    · have hKb : (c.K == d.K) = true := by rw [beq_iff_eq]; exact hK
      replace hK := Lib.hid hK
      have g5 := x2.out.c5; have l5 := y2.out.c5
      by_cases hC : c.C = d.C
      · have hCb : (c.C == d.C) = true := by rw [beq_iff_eq]; exact hC
        replace hC := Lib.hid hC
        have g2 := x2.out.c2; have g3 := x2.out.c3; have g4 := x2.out.c4
        have l2 := y2.out.c2; have l3 := y2.out.c3; have l4 := y2.out.c4
        go_wp2_with fail
        refine (sameP_any c.N.neg d.N.neg ao bo ap bp c.N.an aoc c.N.am boc d.N.an apc d.N.am bpc c.N.fa c.N.ga d.N.fa d.N.ga _ (by omega) (by omega) (hs1.out.below b2.out) (hs2.out.below b2.out) (hs3.out.below b2.out) (hs4.out.below b2.out)).mono ?_
        rintro e1 w4 ⟨r1, rfl, hr1, hb4⟩
        have hr1' := Lib.hid hr1
        replace x2 := x2.out.later hb4; replace y2 := y2.out.later hb4; replace z2 := Lib.hid (cell_below z2.out hb4); replace b2 := Lib.hid (b2.out.trans (hb4.mono b2.out.size))
        have g6 := x2.c6; have l6 := y2.c6
        clear hr1 hb4 g1 l1 g5 l5 g2 g3 g4 l2 l3 l4 hKb hCb x2 y2
        cases r1 with
        | false =>
          go_wp2_with fail
          go_ret
          exact bool_end (r := false) ⟨fun h => absurd (hr1'.out.2 h.2.2.2.1) Bool.false_ne_true, fun h => (Bool.false_ne_true h).elim⟩ b2.out
        | true =>
        go_wp2_with fail
        refine (equalFuncA_of .any c.k ioc d.k ipc io ip c.sub d.sub (w.heap.size + 2) _ hsub'.out (hrow1.out.below b2.out fun _ _ _ _ _ hd => ArrP.below _ _ _ _ hd b2.out) (hrow2.out.below b2.out fun _ _ _ _ _ hd => ArrP.below _ _ _ _ hd b2.out) hkn.out.1 hkn.out.2 z2.out).mono ?_
        rintro e1 w5 ⟨r2, rfl, hr2, hb5⟩
        have hr2' := Lib.hid hr2
        have b3 := Lib.hid (b2.out.trans (hb5.mono b2.out.size))
        clear hr2 hb5 g6 l6
        go_wp2_with fail
        go_ret
        refine bool_end ⟨fun h => hr2'.out.2 ⟨h.2.2.2.2.1, h.2.2.2.2.2⟩, fun h => ?_⟩ b3.out
        have k := hr2'.out.1 h
        exact ⟨hr0'.out.symm, hK.out, hC.out, hr1'.out.1 (by first | exact rfl | trivial), k.1, k.2⟩
      · have hCb : (c.C == d.C) = false := by rw [beq_eq_false_iff_ne]; exact hC
        replace hC := Lib.hid hC
        go_wp2_with fail
        go_ret
        exact bool_end (r := false) ⟨fun h => absurd h.2.2.1 hC.out, fun h => (Bool.false_ne_true h).elim⟩ b2.out
    · have hKb : (c.K == d.K) = false := by rw [beq_eq_false_iff_ne]; exact hK
      replace hK := Lib.hid hK
      go_wp2_with fail
      go_ret
      exact bool_end (r := false) ⟨fun h => absurd h.2.1 hK.out, fun h => (Bool.false_ne_true h).elim⟩ b2.out

set_option maxRecDepth 20000 in
set_option maxHeartbeats 8000000 in
theorem arrsAg_of (ag : Ag) (S n : Nat) (sh : Nat → Int) (m : Nat) (L : Nat → Nat) (K C : Nat → Int) (N : Nat → NumF) (k : Nat → Nat) (sub : Nat → Nat → Tree) (B : Tree) (hcell : ∀ i, i < m → ∀ d, CellsAg ag ⟨L i, K i, N i, C i, k i, sub i⟩ d) : ArrsAg ag (.arr S n sh m L K C N k sub) B := by
  intro c0 c1 c2 d0 d1 d2 w h h'
  obtain _ | ⟨S', n', sh', m', L', K', C', N', k', sub'⟩ := B
  · exact (ArrP.leaf h').elim
  obtain ⟨F, hF⟩ : ∃ F, F = ag.fn := ⟨_, rfl⟩
  rw [← hF]
  obtain ⟨rfl, _, ⟨ao, nc, rfl, hn, s1, _⟩, co, mc, rfl, hm, hc⟩ := h
  obtain ⟨rfl, _, ⟨ao', nc', rfl, hn', s2, _⟩, co', mc', rfl, hm', hc'⟩ := h'
  have n1 := hn.1; have n2 := hn.2.1; have m1 := hm.1; have m2 := hm.2.1; have n1' := hn'.1; have n2' := hn'.2.1; have m1' := hm'.1; have m2' := hm'.2.1
  have hs1 := Lib.hid s1; have hs2 := Lib.hid s2; have hmn := Lib.hid (And.intro hm hm'); have hF' := Lib.hid hF; have hcell' := Lib.hid hcell
  have hc1 : Hid (CellsP w co m (fun i => ⟨L i, K i, N i, C i, k i, sub i⟩)) := Lib.hid hc
  have hc2 : Hid (CellsP w co' m' (fun i => ⟨L' i, K' i, N' i, C' i, k' i, sub' i⟩)) := Lib.hid hc'
  have hbel := (((Below.refl w.heap.size w).alloc (Nat.le_refl _) (.cells #[.int .u64 S, .slice ao n nc, .slice co m mc] 26)).alloc (by simp) (.cells #[.int .u64 S', .slice ao' n' nc', .slice co' m' mc'] 26)).alloc (by simp; omega) (.cells #[F] 40)
  have hx := ((Box3.new (w := w) (B := w.heap.size) (.int .u64 S) (.slice ao n nc) (.slice co m mc) 26 rfl).alloc (.cells #[.int .u64 S', .slice ao' n' nc', .slice co' m' mc'] 26)).alloc (.cells #[F] 40)
  have hy := (Box3.new (w := w.alloc (.cells #[.int .u64 S, .slice ao n nc, .slice co m mc] 26)) (B := w.heap.size + 1) (.int .u64 S') (.slice ao' n' nc') (.slice co' m' mc') 26 (by simp)).alloc (.cells #[F] 40)
  have hz : (((w.alloc (.cells #[.int .u64 S, .slice ao n nc, .slice co m mc] 26)).alloc (.cells #[.int .u64 S', .slice ao' n' nc', .slice co' m' mc'] 26)).alloc (.cells #[F] 40)).cell? ⟨w.heap.size + 2, 0, none⟩ = some F := by
    have h := World.cell?_alloc_new ((w.alloc (.cells #[.int .u64 S, .slice ao n nc, .slice co m mc] 26)).alloc (.cells #[.int .u64 S', .slice ao' n' nc', .slice co' m' mc'] 26)) #[F] 40 0
    rw [show ((w.alloc (.cells #[.int .u64 S, .slice ao n nc, .slice co m mc] 26)).alloc (.cells #[.int .u64 S', .slice ao' n' nc', .slice co' m' mc'] 26)).heap.size = w.heap.size + 2 by simp] at h
    exact h
  clear hn hm hn' hm' s1 s2 hc hc' hF hcell
  cases ag with
  | any =>
    obtain rfl : F = .func (.func 39) #[] #[] := hF'.out
    go_enter Tryz.func38, Tryz.ntmps38
    go_upto_region 2 with fail
    refine told_wp (fun w' => Below w.heap.size w w' ∧ Box3 w' w.heap.size (.int .u64 S) (.slice ao n nc) (.slice co m mc) ∧ Box3 w' (w.heap.size + 1) (.int .u64 S') (.slice ao' n' nc') (.slice co' m' mc') ∧ w'.cell? ⟨w.heap.size + 2, 0, none⟩ = some (.func (.func 39) #[] #[])) ⟨hbel, hx, hy, hz⟩ ?_
    clear hbel hx hy hz
    rintro w2 ⟨b2, x2, y2, z2⟩
    have g0 := x2.c0; have l0 := y2.c0
    replace b2 := Lib.hid b2; replace x2 := Lib.hid x2; replace y2 := Lib.hid y2; replace z2 := Lib.hid z2
    have zz := z2.out
    go_wp2_with fail
    refine (match1_any S S' _).mono ?_
    rintro e1 w3 ⟨rfl, rfl⟩
    clear g0 l0 zz
    obtain ⟨r0, hr0⟩ : ∃ r, r = Ag.b .any S S' := ⟨_, rfl⟩
    have hr0' := Lib.hid hr0
    rw [← hr0]
    clear hr0
    cases r0 with
    | false =>
      go_wp2_with fail
      go_ret
      exact bool_end (r := false) ⟨fun h => absurd (hr0'.out.trans h.1).symm Bool.noConfusion, fun h => (Bool.false_ne_true h).elim⟩ b2.out
    | true =>
    have g1 := x2.out.c1; have l1 := y2.out.c1
    go_wp2_with fail
    refine (eqZ_any ao ao' n nc n' nc' sh sh' _ (by omega) (hs1.out.below b2.out) (hs2.out.below b2.out)).mono ?_
    rintro e1 w4 ⟨r1, rfl, hr1, hb4⟩
    have hr1' := Lib.hid hr1
    replace x2 := x2.out.later hb4; replace y2 := y2.out.later hb4; replace z2 := Lib.hid (cell_below z2.out hb4); replace b2 := Lib.hid (b2.out.trans (hb4.mono b2.out.size))
    have g2 := x2.c2; have l2 := y2.c2
    clear hr1 hb4 g1 l1 x2 y2
    cases r1 with
    | false =>
      go_wp2_with fail
      go_ret
      exact bool_end (r := false) ⟨fun h => absurd (hr1'.out.2 h.2.1) Bool.false_ne_true, fun h => (Bool.false_ne_true h).elim⟩ b2.out
    | true =>
    go_wp2_with fail
    refine (equalFuncC_of .any m mc m' mc' co co' (fun i => ⟨L i, K i, N i, C i, k i, sub i⟩) (fun i => ⟨L' i, K' i, N' i, C' i, k' i, sub' i⟩) (w.heap.size + 2) _ hcell'.out (CellsP.later hc1.out b2.out) (CellsP.later hc2.out b2.out) hmn.out.1 hmn.out.2 z2.out).mono ?_
    rintro e1 w5 ⟨r2, rfl, hr2, hb5⟩
    have hr2' := Lib.hid hr2
    have b3 := Lib.hid (b2.out.trans (hb5.mono b2.out.size))
    clear hr2 hb5 g2 l2
    go_wp2_with fail
    go_ret
    refine bool_end ⟨fun h => hr2'.out.2 ⟨h.2.2.1, h.2.2.2⟩, fun h => ?_⟩ b3.out
    have k := hr2'.out.1 h
    exact ⟨hr0'.out.symm, hr1'.out.1 (by first | exact rfl | trivial), k.1, k.2⟩

theorem arrsAg_any (ag : Ag) : ∀ A B, ArrsAg ag A B := by
  intro A
  induction A with
  | leaf => intro B c0 c1 c2 d0 d1 d2 w h; exact (ArrP.leaf h).elim
  | arr S n sh m L K C N k sub ih => intro B; exact arrsAg_of ag S n sh m L K C N k sub B fun i _ d => cellsAg_of ag ⟨L i, K i, N i, C i, k i, sub i⟩ d fun j _ D => ih i j D


theorem agT_match : ∀ A B, AgT .any A B ↔ MatchT A B := by
  intro A
  induction A with
  | leaf => intro B; exact Iff.rfl
  | arr S n sh m L K C N k sub ih =>
    intro B
    obtain _ | ⟨S', n', sh', m', L', K', C', N', k', sub'⟩ := B
    · exact Iff.rfl
    constructor
    · rintro ⟨_, h2, h3, h4⟩
      refine ⟨rfl, h2, h3, fun i hi => ?_⟩
      obtain ⟨_, k2, k3, k4, k5, k6⟩ := h4 i hi
      exact ⟨rfl, k2, k3, k4, k5, fun j hj => (ih i j _).1 (k6 j hj)⟩
    · rintro ⟨_, h2, h3, h4⟩
      refine ⟨rfl, h2, h3, fun i hi => ?_⟩
      obtain ⟨_, k2, k3, k4, k5, k6⟩ := h4 i hi
      exact ⟨rfl, k2, k3, k4, k5, fun j hj => (ih i j _).2 (k6 j hj)⟩

set_option maxRecDepth 20000 in
set_option maxHeartbeats 2000000 in
theorem matchW (A B : Tree) (c0 c1 c2 d0 d1 d2 : Value) (w : World) (h : ArrP w A c0 c1 c2) (h' : ArrP w B d0 d1 d2) : Calls Tryz.prog 16 #[.agg #[c0, c1, c2], .agg #[d0, d1, d2]] w (BoolPost (AgT .any A B) w) := by
  obtain ⟨S, n, nc, m, mc, ao, co, rfl, rfl, rfl⟩ := (ArrP.within _ _ _ _ h).form
  obtain ⟨S', n', nc', m', mc', ao', co', rfl, rfl, rfl⟩ := (ArrP.within _ _ _ _ h').form
  have hbel := (((Below.refl w.heap.size w).alloc (Nat.le_refl _) (.cells #[.int .u64 S, .slice ao n nc, .slice co m mc] 26)).alloc (by simp) (.cells #[.int .u64 S', .slice ao' n' nc', .slice co' m' mc'] 26))
  have hx := (Box3.new (w := w) (B := w.heap.size) (.int .u64 S) (.slice ao n nc) (.slice co m mc) 26 rfl).alloc (.cells #[.int .u64 S', .slice ao' n' nc', .slice co' m' mc'] 26)
  have hy := Box3.new (w := w.alloc (.cells #[.int .u64 S, .slice ao n nc, .slice co m mc] 26)) (B := w.heap.size + 1) (.int .u64 S') (.slice ao' n' nc') (.slice co' m' mc') 26 (by simp)
  have hc2 := Lib.hid h; have hd2 := Lib.hid h'
  clear h h'
  go_enter Tryz.func16, Tryz.ntmps16
  go_upto_region 1 with fail
  refine told_wp (fun w' => Below w.heap.size w w' ∧ Box3 w' w.heap.size (.int .u64 S) (.slice ao n nc) (.slice co m mc) ∧ Box3 w' (w.heap.size + 1) (.int .u64 S') (.slice ao' n' nc') (.slice co' m' mc')) ⟨hbel, hx, hy⟩ ?_
  clear hbel hx hy
  rintro w2 ⟨b2, x2, y2⟩
  have hcall : Calls Tryz.prog 38 #[.agg #[.int .u64 S, .slice ao n nc, .slice co m mc], .agg #[.int .u64 S', .slice ao' n' nc', .slice co' m' mc'], .func (.func 39) #[] #[]] w2 (BoolPost (AgT .any A B) w2) := arrsAg_any .any A B _ _ _ _ _ _ w2 (ArrP.below _ _ _ _ hc2.out b2) (ArrP.below _ _ _ _ hd2.out b2)
  replace hcall := Lib.hid hcall
  have g0 := x2.c0; have g1 := x2.c1; have g2 := x2.c2
  have l0 := y2.c0; have l1 := y2.c1; have l2 := y2.c2
  replace b2 := Lib.hid b2
  clear x2 y2
  go_wp2_with fail
  refine hcall.out.mono ?_
  rintro e w3 ⟨r, rfl, hr, hb3⟩
  have hr' := Lib.hid hr; have b3 := Lib.hid (b2.out.trans (hb3.mono b2.out.size))
  clear hr hb3 hcall g0 g1 g2 l0 l1 l2
  go_wp2_with fail
  go_ret
  exact ⟨r, rfl, hr'.out, b3.out⟩

theorem matchC : MatchC := fun A B c0 c1 c2 d0 d1 d2 w h h' _ _ => (matchW A B c0 c1 c2 d0 d1 d2 w h h').mono fun _ _ ⟨r, e, hr, hb⟩ => ⟨r, e, hr.trans (agT_match A B), hb⟩

end Go.Proofs.YtmkjebembicljaaGreat

namespace Go.Proofs.YtmkjebembicljaaGreat
open Go.RowKit Num

theorem awakeC : AwakeC := fun w => awake8_any intAC chrC vectorC depthC totalC rightC sizeC w

end Go.Proofs.YtmkjebembicljaaGreat
