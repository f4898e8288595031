/-
  Package shape, first: has, below, above; slices.IndexFunc, ContainsFunc, Index, Contains over ints; product.
-/
import Derived.Test.YtolfbelhbnonpaaIh
import Derived.Test.YtolfbelhbnonpaaIm
namespace Go.Proofs.Ytolfbelhbnonpaa
open Go.RowKit

/-- A function that tells of a number whether p holds, and turns nothing. -/
def PredZ (g : Nat) (p : Int → Bool) : Prop := ∀ (x : Int) (w : World), Calls Try.prog g #[.int .i64 x] w fun e w' => e = .returned (.bool (p x)) ∧ w = w'

def belowZ (x : Int) : Bool := decide (x < 0)

def sameZ (x y : Int) : Bool := decide (y = x)

def aboveZ (x : Int) : Bool := decide (2048 < x)

set_option maxRecDepth 20000 in
theorem below_any : PredZ 22 belowZ := by
  intro x w
  go_enter Try.func22, Try.ntmps22
  go_wp2_with fail
  go_ret
  exact ⟨rfl, rfl⟩

set_option maxRecDepth 20000 in
theorem above_any : PredZ 23 aboveZ := by
  intro x w
  go_enter Try.func23, Try.ntmps23
  go_wp2_with fail
  go_ret
  exact ⟨rfl, rfl⟩

set_option maxRecDepth 20000 in
theorem has_any (ao : Option Addr) (n nc : Nat) (axis : Int) (w : World) :
    Calls Try.prog 26 #[.slice ao n nc, .int .i64 axis] w fun e w' => e = .returned (.bool (decide (0 ≤ axis ∧ axis < n))) ∧ w = w' := by
  by_cases h0 : 0 ≤ axis <;> by_cases h1 : axis < n
  all_goals
    go_enter Try.func26, Try.ntmps26
    go_wp2_with fail
    go_ret
    simp [h0, h1]

/-- Whether p holds of one of the first numbers. -/
def SomeZ (p : Int → Bool) (f : Nat → Int) (n : Nat) (w : World) (e : Ending) (w' : World) : Prop :=
  (∃ b, e = .returned (.bool b) ∧ (b = true ↔ ∃ j, j < n ∧ p (f j) = true)) ∧ w = w'

/-- Where p holds first, or -1. -/
def WhereZ (p : Int → Bool) (f : Nat → Int) (n : Nat) (w : World) (e : Ending) (w' : World) : Prop :=
  (∃ k : Int, e = .returned (.int .i64 k) ∧ ((k = -1 ∧ ∀ j, j < n → p (f j) = false) ∨ (∃ j : Nat, j < n ∧ k = j ∧ p (f j) = true))) ∧ w = w'

theorem where_some {p : Int → Bool} {f : Nat → Int} {n : Nat} {k : Int} (h : (k = -1 ∧ ∀ j, j < n → p (f j) = false) ∨ (∃ j : Nat, j < n ∧ k = j ∧ p (f j) = true)) : decide (0 ≤ k) = true ↔ ∃ j, j < n ∧ p (f j) = true := by
  rcases h with ⟨rfl, h⟩ | ⟨j, hj, rfl, h⟩
  · constructor
    · intro h; exact absurd (of_decide_eq_true h) (by decide)
    · rintro ⟨j, h1, h2⟩; rw [h j h1] at h2; cases h2
  · exact ⟨fun _ => ⟨j, hj, h⟩, fun _ => decide_eq_true (by omega)⟩

set_option maxRecDepth 20000 in
set_option maxHeartbeats 1000000 in
theorem indexFunc_below (ao : Option Addr) (n nc : Nat) (f : Nat → Int) (w : World) (hn : n ≤ 9223372036854775807) (hf : SlZ w ao n f) :
    Calls Try.prog 29 #[.slice ao n nc, .func (.func 22) #[] #[]] w (WhereZ belowZ f n w) := by
  go_enter Try.func29, Try.ntmps29
  go_wp2_with fail
  go_loopw [8] (fun i wr => ∃ j : Nat, j ≤ n ∧ i = .int .i64 j ∧ Hid (∀ t, t < j → belowZ (f t) = false) ∧ wr = w) (fun i _ => n - (intOfZ i).toNat)
  case atStart => exact ⟨0, Nat.zero_le _, rfl, Lib.hid fun t h => by omega, rfl⟩
  case round =>
    obtain ⟨j, hj, rfl, hd, rfl⟩ := hrel
    by_cases hlt : j < n
    · rcases hf with h | ⟨b, off, rfl, hc⟩
      · omega
      have c1 := hc j hlt
      clear hc
      go_wp2_with fail
      refine (below_any (f j) wr).mono ?_
      rintro e w' ⟨rfl, rfl⟩
      generalize hy : belowZ (f j) = y
      have hy' := Lib.hid hy
      clear hy
      cases y with
      | true =>
        go_wp2_with fail
        go_ret
        exact ⟨⟨j, rfl, .inr ⟨j, hlt, rfl, hy'.out⟩⟩, rfl⟩
      | false =>
        go_wp2_with fail
        go_roundw
        case rel =>
          refine ⟨j + 1, by omega, by go_num, Lib.hid fun t ht => ?_, by trivial⟩
          by_cases e : t = j
          · rw [e]; exact hy'.out
          · exact hd.out t (by omega)
        case measure => simp [intOfZ]; omega
    · obtain rfl : j = n := by omega
      go_wp2_with fail
      go_ret
      exact ⟨⟨-1, rfl, .inl ⟨rfl, hd.out⟩⟩, rfl⟩

set_option maxRecDepth 20000 in
set_option maxHeartbeats 1000000 in
theorem containsFunc_below (ao : Option Addr) (n nc : Nat) (f : Nat → Int) (w : World) (hn : n ≤ 9223372036854775807) (hf : SlZ w ao n f) :
    Calls Try.prog 21 #[.slice ao n nc, .func (.func 22) #[] #[]] w (SomeZ belowZ f n w) := by
  have hI := indexFunc_below ao n nc f w hn hf
  clear hf
  go_enter Try.func21, Try.ntmps21
  go_wp2_with fail
  refine hI.mono ?_
  rintro e w' ⟨⟨k, rfl, hk⟩, rfl⟩
  have hk' := Lib.hid hk
  clear hk hI
  go_wp2_with fail
  go_ret
  exact ⟨⟨_, rfl, where_some hk'.out⟩, rfl⟩

set_option maxRecDepth 20000 in
set_option maxHeartbeats 1000000 in
theorem indexFunc_above (ao : Option Addr) (n nc : Nat) (f : Nat → Int) (w : World) (hn : n ≤ 9223372036854775807) (hf : SlZ w ao n f) :
    Calls Try.prog 29 #[.slice ao n nc, .func (.func 23) #[] #[]] w (WhereZ aboveZ f n w) := by
  go_enter Try.func29, Try.ntmps29
  go_wp2_with fail
  go_loopw [8] (fun i wr => ∃ j : Nat, j ≤ n ∧ i = .int .i64 j ∧ Hid (∀ t, t < j → aboveZ (f t) = false) ∧ wr = w) (fun i _ => n - (intOfZ i).toNat)
  case atStart => exact ⟨0, Nat.zero_le _, rfl, Lib.hid fun t h => by omega, rfl⟩
  case round =>
    obtain ⟨j, hj, rfl, hd, rfl⟩ := hrel
    by_cases hlt : j < n
    · rcases hf with h | ⟨b, off, rfl, hc⟩
      · omega
      have c1 := hc j hlt
      clear hc
      go_wp2_with fail
      refine (above_any (f j) wr).mono ?_
      rintro e w' ⟨rfl, rfl⟩
      generalize hy : aboveZ (f j) = y
      have hy' := Lib.hid hy
      clear hy
      cases y with
      | true =>
        go_wp2_with fail
        go_ret
        exact ⟨⟨j, rfl, .inr ⟨j, hlt, rfl, hy'.out⟩⟩, rfl⟩
      | false =>
        go_wp2_with fail
        go_roundw
        case rel =>
          refine ⟨j + 1, by omega, by go_num, Lib.hid fun t ht => ?_, by trivial⟩
          by_cases e : t = j
          · rw [e]; exact hy'.out
          · exact hd.out t (by omega)
        case measure => simp [intOfZ]; omega
    · obtain rfl : j = n := by omega
      go_wp2_with fail
      go_ret
      exact ⟨⟨-1, rfl, .inl ⟨rfl, hd.out⟩⟩, rfl⟩

set_option maxRecDepth 20000 in
set_option maxHeartbeats 1000000 in
theorem containsFunc_above (ao : Option Addr) (n nc : Nat) (f : Nat → Int) (w : World) (hn : n ≤ 9223372036854775807) (hf : SlZ w ao n f) :
    Calls Try.prog 21 #[.slice ao n nc, .func (.func 23) #[] #[]] w (SomeZ aboveZ f n w) := by
  have hI := indexFunc_above ao n nc f w hn hf
  clear hf
  go_enter Try.func21, Try.ntmps21
  go_wp2_with fail
  refine hI.mono ?_
  rintro e w' ⟨⟨k, rfl, hk⟩, rfl⟩
  have hk' := Lib.hid hk
  clear hk hI
  go_wp2_with fail
  go_ret
  exact ⟨⟨_, rfl, where_some hk'.out⟩, rfl⟩

set_option maxRecDepth 20000 in
set_option maxHeartbeats 1000000 in
theorem index_any (x : Int) (ao : Option Addr) (n nc : Nat) (f : Nat → Int) (w : World) (hn : n ≤ 9223372036854775807) (hf : SlZ w ao n f) :
    Calls Try.prog 32 #[.slice ao n nc, .int .i64 x] w (WhereZ (sameZ x) f n w) := by
  go_enter Try.func32, Try.ntmps32
  go_wp2_with fail
  go_loopw [8] (fun i wr => ∃ j : Nat, j ≤ n ∧ i = .int .i64 j ∧ Hid (∀ t, t < j → sameZ x (f t) = false) ∧ wr = w) (fun i _ => n - (intOfZ i).toNat)
  case atStart => exact ⟨0, Nat.zero_le _, rfl, Lib.hid fun t h => by omega, rfl⟩
  case round =>
    obtain ⟨j, hj, rfl, hd, rfl⟩ := hrel
    by_cases hlt : j < n
    · rcases hf with h | ⟨b, off, rfl, hc⟩
      · omega
      have c1 := hc j hlt
      clear hc
      by_cases he : f j = x
      · have he' := Lib.hid he
        have hb : (x == f j) = true := by rw [beq_iff_eq]; exact he.symm
        clear he
        go_wp2_with fail
        go_ret
        exact ⟨⟨j, rfl, .inr ⟨j, hlt, rfl, decide_eq_true he'.out⟩⟩, rfl⟩
      · have he' := Lib.hid he
        have hb : (x == f j) = false := by rw [beq_eq_false_iff_ne]; exact fun h => he h.symm
        clear he
        go_wp2_with fail
        go_roundw
        case rel =>
          refine ⟨j + 1, by omega, by go_num, Lib.hid fun t ht => ?_, by trivial⟩
          by_cases e : t = j
          · rw [e]; exact decide_eq_false he'.out
          · exact hd.out t (by omega)
        case measure => simp [intOfZ]; omega
    · obtain rfl : j = n := by omega
      go_wp2_with fail
      go_ret
      exact ⟨⟨-1, rfl, .inl ⟨rfl, hd.out⟩⟩, rfl⟩

set_option maxRecDepth 20000 in
set_option maxHeartbeats 1000000 in
theorem contains_any (x : Int) (ao : Option Addr) (n nc : Nat) (f : Nat → Int) (w : World) (hn : n ≤ 9223372036854775807) (hf : SlZ w ao n f) :
    Calls Try.prog 30 #[.slice ao n nc, .int .i64 x] w (SomeZ (sameZ x) f n w) := by
  have hI := index_any x ao n nc f w hn hf
  clear hf
  go_enter Try.func30, Try.ntmps30
  go_wp2_with fail
  refine hI.mono ?_
  rintro e w' ⟨⟨k, rfl, hk⟩, rfl⟩
  have hk' := Lib.hid hk
  clear hk hI
  go_wp2_with fail
  go_ret
  exact ⟨⟨_, rfl, where_some hk'.out⟩, rfl⟩

/-- The product of lengths that each may be, if it may be. -/
def ProdPost (f : Nat → Int) (n : Nat) (w : World) (e : Ending) (w' : World) : Prop :=
  (∃ (N : Int) (ok : Bool), e = .returned (.tuple #[.int .i64 N, .bool ok]) ∧ N = capZ (prodZ f n) ∧ (ok = true ↔ prodZ f n ≤ 2048)) ∧ w = w'

theorem capZ_le {p : Int} (h : p ≤ 2048) : capZ p = p := by unfold capZ; rw [if_pos h]

theorem capZ_gt {p : Int} (h : 2048 < p) : capZ p = 0 := by unfold capZ; rw [if_neg (by omega)]

set_option maxRecDepth 20000 in
set_option maxHeartbeats 2000000 in
theorem product_any (ao : Option Addr) (n nc : Nat) (f : Nat → Int) (w : World) (hn : n ≤ 9223372036854775807) (hf : SlZ w ao n f) (hr : ∀ j, j < n → 0 ≤ f j ∧ f j ≤ 2048) :
    Calls Try.prog 24 #[.slice ao n nc] w (ProdPost f n w) := by
  have hr' := Lib.hid hr
  clear hr
  go_enter Try.func24, Try.ntmps24
  go_wp2_with fail
  refine (contains_any 0 ao n nc f w hn hf).mono ?_
  rintro e w' ⟨⟨b, rfl, hb⟩, rfl⟩
  cases b with
  | true =>
    have hp := Lib.hid (show prodZ f n = 0 by obtain ⟨j, h1, h2⟩ := hb.1 rfl; exact prodZ_zero (of_decide_eq_true h2) n h1)
    clear hb
    go_wp2_with fail
    go_ret2
    refine ⟨⟨0, true, rfl, ?_, ?_⟩, rfl⟩
    · rw [hp.out]; rfl
    · rw [hp.out]; decide
  | false =>
    have hlo := Lib.hid (show ∀ j, j < n → 1 ≤ f j from fun j hj => by
      have h1 := hr'.out j hj
      have h2 : f j ≠ 0 := fun e => Bool.false_ne_true (hb.2 ⟨j, hj, decide_eq_true e⟩)
      omega)
    clear hb
    go_wp2_with fail
    go_loopw [4, 11] (fun p i wr => ∃ k : Nat, k ≤ n ∧ i = .int .i64 k ∧ p = .int .i64 (prodZ f k) ∧ prodZ f k ≤ 2048 ∧ wr = w) (fun _ i _ => n - (intOfZ i).toNat)
    case atStart => exact ⟨0, Nat.zero_le _, rfl, rfl, by show (1 : Int) ≤ 2048; decide, rfl⟩
    case round =>
      obtain ⟨k, hk, rfl, rfl, hpk, rfl⟩ := hrel
      have p1 := prodZ_pos k fun t ht => hlo.out t (by omega)
      by_cases hlt2 : k < n
      · rcases hf with h | ⟨b, off, rfl, hc⟩
        · omega
        have c1 := hc k hlt2
        have k1 := hlo.out k hlt2
        have k2 := (hr'.out k hlt2).2
        clear hc
        obtain ⟨x, hx⟩ : ∃ x, x = prodZ f k := ⟨_, rfl⟩
        obtain ⟨y, hy⟩ : ∃ y, y = f k := ⟨_, rfl⟩
        obtain ⟨z, hz⟩ : ∃ z, z = x * y := ⟨_, rfl⟩
        have hz1 : z ≤ 4194304 := by rw [hz]; rw [← hx] at hpk p1; rw [← hy] at k1 k2; exact Int.mul_le_mul hpk k2 (by omega) (by decide)
        have hz0 : 0 ≤ z := by rw [hz]; rw [← hx] at hpk p1; rw [← hy] at k1 k2; exact Int.mul_nonneg (by omega) (by omega)
        have hzn := Lib.hid (show prodZ f (k + 1) = z by rw [hz, hx, hy]; rfl)
        have hzm := Lib.hid (show prodZ f (k + 1) ≤ prodZ f n from prodZ_mono n hlo.out hlt2)
        rw [← hy] at c1
        rw [← hx]
        have hw : IntKind.i64.wrap (x * y) = z := by rw [← hz]; simp [IntKind.wrap, IntKind.bits, IntKind.signed]; omega
        clear hz hx hy hpk p1 k1 k2
        go_wp2_with fail
        refine (above_any z _).mono ?_
        rintro e w' ⟨rfl, rfl⟩
        unfold aboveZ
        by_cases hbig : 2048 < z
        · have hbig' := Lib.hid hbig
          go_wp2_with fail
          go_ret2
          have h1 : 2048 < prodZ f n := by have := hzn.out; have := hzm.out; have := hbig'.out; omega
          exact ⟨⟨0, false, rfl, (capZ_gt h1).symm, ⟨fun h => (Bool.false_ne_true h).elim, fun h => by omega⟩⟩, rfl⟩
        · have hsm := Lib.hid (show prodZ f (k + 1) ≤ 2048 by rw [hzn.out]; omega)
          go_wp2_with fail
          go_roundw
          case rel => exact ⟨k + 1, by omega, by go_num, by rw [hzn.out], hsm.out, by trivial⟩
          case measure => simp [intOfZ]; omega
      · obtain rfl : k = n := by omega
        have hpk' := Lib.hid hpk
        go_wp2_with fail
        go_ret2
        exact ⟨⟨_, true, rfl, (capZ_le hpk'.out).symm, ⟨fun _ => hpk'.out, fun _ => rfl⟩⟩, rfl⟩

end Go.Proofs.Ytolfbelhbnonpaa
