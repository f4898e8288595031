/-
  The calls of math/bits and cmp that nat makes: what each comes to.
-/
import Derived.Test.YtnnipciifjpooaaProg
import Derived.Test.YtnnipciifjpooaaSl
import Derived.Test.YtnnipciifjpooaaBitsNum
import Derived.Lib.Small
import Derived.Lib.Walk
import Derived.Lib.BitFns
import Derived.Deep.QuietTactic
import Derived.BigQuiet
namespace Go.Proofs.Ytnnipciifjpooaa
open Go.RowKit Num

theorem ret_pair {k l : IntKind} {a b c d : Int} (h : a = b) (h' : c = d) : Ending.returned (.tuple #[.int k a, .int l c]) = .returned (.tuple #[.int k b, .int l d]) := by rw [h, h']
theorem ret_num {k : IntKind} {a b : Int} (h : a = b) : Ending.returned (.int k a) = .returned (.int k b) := by rw [h]

set_option maxHeartbeats 400000 in
theorem add32_any (x y c : Int) (w : World) (x0 : 0 ≤ x) (x1 : x < 4294967296) (y0 : 0 ≤ y) (y1 : y < 4294967296) (c0 : 0 ≤ c) (c1 : c ≤ 1) :
    Calls Try.prog 94 #[.int .u32 x, .int .u32 y, .int .u32 c] w fun e w' =>
      e = .returned (.tuple #[.int .u32 ((x + y + c) % 4294967296), .int .u32 ((x + y + c) / 4294967296)]) ∧ w = w' := by
  go_enter Try.func94, Try.ntmps94
  go_wp2
  go_ret2
  exact ⟨rfl, rfl⟩

set_option maxHeartbeats 400000 in
theorem sub32_any (x y c : Int) (w : World) (x0 : 0 ≤ x) (x1 : x < 4294967296) (y0 : 0 ≤ y) (y1 : y < 4294967296) (c0 : 0 ≤ c) (c1 : c ≤ 1) :
    Calls Try.prog 96 #[.int .u32 x, .int .u32 y, .int .u32 c] w fun e w' =>
      e = .returned (.tuple #[.int .u32 ((x - y - c) % 4294967296), .int .u32 (bor x (y + c))]) ∧ w = w' := by
  rw [← sub32_bits x y c x0 x1 y0 y1 c0 c1]
  go_enter Try.func96, Try.ntmps96
  go_wp2
  go_ret2
  exact ⟨rfl, rfl⟩

/-- A difference of two limbs and a borrow: the limb, and the borrow. -/
def subD (x y c : Nat) : Nat := if y + c ≤ x then x - y - c else x + 4294967296 - y - c
def subC (x y c : Nat) : Nat := if y + c ≤ x then 0 else 1
theorem sub_eq {x y c : Nat} (hx : x < 4294967296) (hy : y < 4294967296) (hc : c ≤ 1) : subD x y c + y + c = x + 4294967296 * subC x y c ∧ subD x y c < 4294967296 ∧ subC x y c ≤ 1 := by
  unfold subD subC
  split <;> omega

theorem sub32_nat (x y c : Nat) (w : World) (hx : x < 4294967296) (hy : y < 4294967296) (hc : c ≤ 1) :
    Calls Try.prog 96 #[.int .u32 x, .int .u32 y, .int .u32 c] w fun e w' => e = .returned (.tuple #[.int .u32 (subD x y c), .int .u32 (subC x y c)]) ∧ w = w' := by
  have h := sub32_any x y c w (by omega) (by omega) (by omega) (by omega) (by omega) (by omega)
  have e1 : ((x : Int) - y - c) % 4294967296 = (subD x y c : Int) := by unfold subD; split <;> omega
  have e2 : bor (x : Int) ((y : Int) + c) = (subC x y c : Int) := by unfold bor subC; split <;> split <;> omega
  rw [e1, e2] at h
  exact h

theorem sub32_nat0 (x y : Nat) (w : World) (hx : x < 4294967296) (hy : y < 4294967296) :
    Calls Try.prog 96 #[.int .u32 x, .int .u32 y, .int .u32 0] w fun e w' => e = .returned (.tuple #[.int .u32 (subD x y 0), .int .u32 (subC x y 0)]) ∧ w = w' :=
  sub32_nat x y 0 w hx hy (by omega)

/-- How two numbers stand. -/
def cmpI (x y : Int) : Int := if x < y then -1 else if y < x then 1 else 0
theorem cmpI_lt {x y : Int} (h : x < y) : cmpI x y = -1 := if_pos h
theorem cmpI_gt {x y : Int} (h : y < x) : cmpI x y = 1 := by unfold cmpI; rw [if_neg (by omega), if_pos h]
theorem cmpI_eq {x y : Int} (h : x = y) : cmpI x y = 0 := by unfold cmpI; rw [if_neg (by omega), if_neg (by omega)]

set_option maxHeartbeats 400000 in
theorem cmp_int (x y : Int) (w : World) :
    Calls Try.prog 83 #[.int .i64 x, .int .i64 y] w fun e w' => e = .returned (.int .i64 (cmpI x y)) ∧ w = w' := by
  by_cases h1 : x < y
  · rw [cmpI_lt h1]
    go_enter Try.func83, Try.ntmps83
    go_wp2
    go_ret
    exact ⟨rfl, rfl⟩
  by_cases h2 : y < x
  · rw [cmpI_gt h2]
    go_enter Try.func83, Try.ntmps83
    go_wp2
    go_ret
    exact ⟨rfl, rfl⟩
  · rw [cmpI_eq (by omega)]
    go_enter Try.func83, Try.ntmps83
    go_wp2
    go_ret
    exact ⟨rfl, rfl⟩

set_option maxHeartbeats 400000 in
theorem cmp_u32 (x y : Int) (w : World) :
    Calls Try.prog 105 #[.int .u32 x, .int .u32 y] w fun e w' => e = .returned (.int .i64 (cmpI x y)) ∧ w = w' := by
  by_cases h1 : x < y
  · rw [cmpI_lt h1]
    go_enter Try.func105, Try.ntmps105
    go_wp2
    go_ret
    exact ⟨rfl, rfl⟩
  by_cases h2 : y < x
  · rw [cmpI_gt h2]
    go_enter Try.func105, Try.ntmps105
    go_wp2
    go_ret
    exact ⟨rfl, rfl⟩
  · rw [cmpI_eq (by omega)]
    go_enter Try.func105, Try.ntmps105
    go_wp2
    go_ret
    exact ⟨rfl, rfl⟩

set_option maxHeartbeats 400000 in
theorem div32_any (x y z : Int) (w : World) (x0 : 0 ≤ x) (x1 : x < z) (y0 : 0 ≤ y) (y1 : y < 4294967296) (z0 : 0 < z) (z1 : z < 4294967296) :
    Calls Try.prog 107 #[.int .u32 x, .int .u32 y, .int .u32 z] w fun e w' =>
      e = .returned (.tuple #[.int .u32 ((x * 4294967296 + y) / z), .int .u32 ((x * 4294967296 + y) % z)]) ∧ ∃ n, w' = w.drewN n := by
  have hor := or_shift x y x0 (by omega) y0 y1
  have hz : (z != 0) = true := by rw [bne_iff_ne]; omega
  have hzx : decide (z ≤ x) = false := by simp; omega
  have hq : (x * 4294967296 + y) / z < 4294967296 := Int.ediv_lt_of_lt_mul z0 (by
    have : (x + 1) * 4294967296 ≤ z * 4294967296 := Int.mul_le_mul_of_nonneg_right (by omega) (by decide)
    rw [Int.mul_comm 4294967296 z]; omega)
  have hq0 : 0 ≤ (x * 4294967296 + y) / z := Int.ediv_nonneg (by omega) (by omega)
  have hr0 : 0 ≤ (x * 4294967296 + y) % z := Int.emod_nonneg _ (by omega)
  have hr1 : (x * 4294967296 + y) % z < z := Int.emod_lt_of_pos _ z0
  go_enter Try.func107, Try.ntmps107
  go_wp2
  go_quiet (fail)
  go_wp2
  go_ret2
  exact ⟨rfl, _, rfl⟩

set_option maxHeartbeats 4000000 in
set_option maxRecDepth 100000 in
theorem len32_any (x : Int) (w : World) (h0 : 0 ≤ x) (h1 : x ≤ 4294967295) :
    Calls Try.prog 106 #[.int .u32 x] w fun e w' => e = .returned (.int .i64 (Lib.bitLen x.toNat)) ∧ w = w' := by
  by_cases c1 : 65536 ≤ x <;> by_cases c2 : 256 ≤ (if 65536 ≤ x then x / 65536 else x)
  · rw [if_pos c1] at c2
    have b0 : 0 ≤ x / 65536 / 256 := by omega
    have b1 : x / 65536 / 256 ≤ 255 := by omega
    have l := Lib.bitLen_le8' (x / 65536 / 256) b0 b1
    have l8 := Lib.len8_of (x / 65536 / 256) b0 b1
    have hl0 : 0 ≤ Lib.len8 (x / 65536 / 256) := by omega
    have hl1 : Lib.len8 (x / 65536 / 256) ≤ 8 := by omega
    have hl := Lib.hid l; have hl8 := Lib.hid l8; clear l l8
    go_enter Try.func106, Try.ntmps106
    go_wp2
    go_ret
    refine ⟨ret_num ?_, rfl⟩
    have l := hl.out; have l8 := hl8.out
    have e : (x / 65536 / 256).toNat = x.toNat / 16777216 := by omega
    have s := Lib.bitLen_shift24 x.toNat (by omega) (by omega)
    rw [e] at l l8
    omega
  · rw [if_pos c1] at c2
    have b0 : 0 ≤ x / 65536 := by omega
    have b1 : x / 65536 ≤ 255 := by omega
    have l := Lib.bitLen_le8' (x / 65536) b0 b1
    have l8 := Lib.len8_of (x / 65536) b0 b1
    have hl0 : 0 ≤ Lib.len8 (x / 65536) := by omega
    have hl1 : Lib.len8 (x / 65536) ≤ 8 := by omega
    have hl := Lib.hid l; have hl8 := Lib.hid l8; clear l l8
    go_enter Try.func106, Try.ntmps106
    go_wp2
    go_ret
    refine ⟨ret_num ?_, rfl⟩
    have l := hl.out; have l8 := hl8.out
    have e : (x / 65536).toNat = x.toNat / 65536 := by omega
    have s := Lib.bitLen_shift16 x.toNat (by omega) (by omega)
    rw [e] at l l8
    omega
  · rw [if_neg c1] at c2
    have b0 : 0 ≤ x / 256 := by omega
    have b1 : x / 256 ≤ 255 := by omega
    have l := Lib.bitLen_le8' (x / 256) b0 b1
    have l8 := Lib.len8_of (x / 256) b0 b1
    have hl0 : 0 ≤ Lib.len8 (x / 256) := by omega
    have hl1 : Lib.len8 (x / 256) ≤ 8 := by omega
    have hl := Lib.hid l; have hl8 := Lib.hid l8; clear l l8
    go_enter Try.func106, Try.ntmps106
    go_wp2
    go_ret
    refine ⟨ret_num ?_, rfl⟩
    have l := hl.out; have l8 := hl8.out
    have e : (x / 256).toNat = x.toNat / 256 := by omega
    have s := Lib.bitLen_shift8 x.toNat (by omega) (by omega)
    rw [e] at l l8
    omega
  · rw [if_neg c1] at c2
    have b0 : 0 ≤ x := by omega
    have b1 : x ≤ 255 := by omega
    have l := Lib.bitLen_le8' x b0 b1
    have l8 := Lib.len8_of x b0 b1
    have hl0 : 0 ≤ Lib.len8 x := by omega
    have hl1 : Lib.len8 x ≤ 8 := by omega
    have hl := Lib.hid l; have hl8 := Lib.hid l8; clear l l8
    go_enter Try.func106, Try.ntmps106
    go_wp2
    go_ret
    refine ⟨ret_num ?_, rfl⟩
    have l := hl.out; have l8 := hl8.out
    omega

/-- How far a limb that isn't 0 must be moved up till its top bit is 1. -/
def lead (x : Nat) : Nat := 32 - Lib.bitLen x
theorem bitLenAux_zero (f : Nat) : Lib.bitLenAux f 0 = 0 := by cases f <;> simp [Lib.bitLenAux]
theorem bitLenAux_pow : ∀ (f x : Nat), x < 2 ^ f → x ≠ 0 → 1 ≤ Lib.bitLenAux f x ∧ 2 ^ (Lib.bitLenAux f x - 1) ≤ x ∧ x < 2 ^ Lib.bitLenAux f x := by
  intro f
  induction f with
  | zero => intro x hx h0; simp at hx; omega
  | succ f ih =>
    intro x hx h0
    have hp : (2 : Nat) ^ (f + 1) = 2 * 2 ^ f := by rw [Nat.pow_succ]; omega
    have e : Lib.bitLenAux (f + 1) x = 1 + Lib.bitLenAux f (x / 2) := by simp [Lib.bitLenAux, h0]
    rw [e]
    by_cases h1 : x / 2 = 0
    · rw [h1, bitLenAux_zero]
      simp
      omega
    · obtain ⟨a, b, c⟩ := ih (x / 2) (by omega) h1
      have h3 : 1 + Lib.bitLenAux f (x / 2) - 1 = (Lib.bitLenAux f (x / 2) - 1) + 1 := by omega
      have h4 : 1 + Lib.bitLenAux f (x / 2) = Lib.bitLenAux f (x / 2) + 1 := by omega
      rw [h3, h4, Nat.pow_succ, Nat.pow_succ]
      omega
theorem lead_fits (x : Nat) (h0 : x ≠ 0) (h1 : x < 4294967296) : lead x < 32 ∧ x * 2 ^ lead x < 4294967296 ∧ 2147483648 ≤ x * 2 ^ lead x := by
  obtain ⟨a, b, c⟩ := bitLenAux_pow 64 x (Nat.lt_of_lt_of_le h1 (by decide)) h0
  have l : Lib.bitLenAux 64 x ≤ 32 := Lib.bitLenAux_le 64 x 32 h1
  unfold lead Lib.bitLen
  generalize Lib.bitLenAux 64 x = n at *
  have e1 : (2 : Nat) ^ n * 2 ^ (32 - n) = 4294967296 := by rw [← Nat.pow_add]; have : n + (32 - n) = 32 := by omega
                                                            rw [this]
  have e2 : (2 : Nat) ^ (n - 1) * 2 ^ (32 - n) = 2147483648 := by rw [← Nat.pow_add]; have : n - 1 + (32 - n) = 31 := by omega
                                                                  rw [this]
  refine ⟨by omega, ?_, ?_⟩
  · rw [← e1]; exact (Nat.mul_lt_mul_right (Nat.pow_pos (by decide))).2 c
  · rw [← e2]; exact Nat.mul_le_mul_right _ b

set_option maxHeartbeats 400000 in
theorem lead_any (x : Nat) (w : World) (h1 : x < 4294967296) :
    Calls Try.prog 98 #[.int .u32 x] w fun e w' => e = .returned (.int .i64 (lead x)) ∧ w = w' := by
  have l : Lib.bitLen x ≤ 32 := Lib.bitLen_le x 32 (by decide) h1
  have e8 : ((lead x : Nat) : Int) = 32 - (Lib.bitLen x : Int) := by unfold lead; omega
  rw [e8]
  clear e8
  go_enter Try.func98, Try.ntmps98
  go_wp2_with (go_at_call 106; refine (len32_any x _ (by omega) (by omega)).mono ?_; rintro e w' ⟨rfl, rfl⟩)
  go_ret
  exact ⟨rfl, rfl⟩

end Go.Proofs.Ytnnipciifjpooaa
