/-
  Plain facts on bit operations of numbers of 32 and 64 bits: no program is named here.
-/
import Derived.Test.YtnnipciifjpooaaNum
import Derived.WalkKit
import Derived.Lib.BitFns
namespace Go.Proofs.Ytnnipciifjpooaa.Num

theorem wrap32_toNat (v : BitVec 32) : IntKind.u32.wrap (v.toNat : Int) = (v.toNat : Int) := by
  have h := v.isLt
  generalize v.toNat = n at h
  simp [IntKind.wrap, IntKind.signed, IntKind.bits]
  omega
theorem wrap64_toNat (v : BitVec 64) : IntKind.u64.wrap (v.toNat : Int) = (v.toNat : Int) := by
  have h := v.isLt
  generalize v.toNat = n at h
  simp [IntKind.wrap, IntKind.signed, IntKind.bits]
  omega

theorem ofInt_toNat32 (x : Nat) (h : x < 4294967296) : (BitVec.ofInt 32 (x : Int)).toNat = x := by
  rw [BitVec.ofInt_natCast, BitVec.toNat_ofNat]; omega
theorem ofInt_toNat64 (x : Nat) (h : x < 18446744073709551616) : (BitVec.ofInt 64 (x : Int)).toNat = x := by
  rw [BitVec.ofInt_natCast, BitVec.toNat_ofNat]; omega

theorem and32 (x y : Nat) (hx : x < 4294967296) (hy : y < 4294967296) : bits .and .u32 x y = ((x &&& y : Nat) : Int) := by
  show IntKind.u32.wrap ((BitVec.ofInt 32 x &&& BitVec.ofInt 32 y : BitVec 32).toNat : Int) = _
  rw [wrap32_toNat, BitVec.toNat_and, ofInt_toNat32 x hx, ofInt_toNat32 y hy]
theorem or32 (x y : Nat) (hx : x < 4294967296) (hy : y < 4294967296) : bits .or .u32 x y = ((x ||| y : Nat) : Int) := by
  show IntKind.u32.wrap ((BitVec.ofInt 32 x ||| BitVec.ofInt 32 y : BitVec 32).toNat : Int) = _
  rw [wrap32_toNat, BitVec.toNat_or, ofInt_toNat32 x hx, ofInt_toNat32 y hy]
theorem xor32 (x y : Nat) (hx : x < 4294967296) (hy : y < 4294967296) : bits .xor .u32 x y = ((x ^^^ y : Nat) : Int) := by
  show IntKind.u32.wrap ((BitVec.ofInt 32 x ^^^ BitVec.ofInt 32 y : BitVec 32).toNat : Int) = _
  rw [wrap32_toNat, BitVec.toNat_xor, ofInt_toNat32 x hx, ofInt_toNat32 y hy]
theorem or64 (x y : Nat) (hx : x < 18446744073709551616) (hy : y < 18446744073709551616) : bits .or .u64 x y = ((x ||| y : Nat) : Int) := by
  show IntKind.u64.wrap ((BitVec.ofInt 64 x ||| BitVec.ofInt 64 y : BitVec 64).toNat : Int) = _
  rw [wrap64_toNat, BitVec.toNat_or, ofInt_toNat64 x hx, ofInt_toNat64 y hy]

/-- A borrow. -/
def bor (x y : Int) : Int := if x < y then 1 else 0
theorem bor_cases (x y : Int) : (x < y ∧ bor x y = 1) ∨ (y ≤ x ∧ bor x y = 0) := by
  unfold bor
  split
  · exact .inl ⟨‹_›, rfl⟩
  · exact .inr ⟨by omega, rfl⟩

theorem and_lt32 {x y : Nat} (hx : x < 4294967296) : x &&& y < 4294967296 := Nat.lt_of_le_of_lt Nat.and_le_left hx
theorem or_lt32 {x y : Nat} (hx : x < 4294967296) (hy : y < 4294967296) : x ||| y < 4294967296 := Nat.or_lt_two_pow (n := 32) hx hy
theorem xor_lt32 {x y : Nat} (hx : x < 4294967296) (hy : y < 4294967296) : x ^^^ y < 4294967296 := Nat.xor_lt_two_pow (n := 32) hx hy

theorem top_bit (v : Nat) (h : v < 4294967296) : v / 2147483648 = if v.testBit 31 then 1 else 0 := by
  rw [Nat.testBit_eq_decide_div_mod_eq]
  have : (2 : Nat) ^ 31 = 2147483648 := rfl
  rw [this]
  by_cases c : v / 2147483648 % 2 = 1
  · simp [c]; omega
  · simp [c]; omega
theorem bit31 (v : Nat) (h : v < 4294967296) : v.testBit 31 = decide (2147483648 ≤ v) := by
  rw [Nat.testBit_eq_decide_div_mod_eq]
  have : (2 : Nat) ^ 31 = 2147483648 := rfl
  rw [this, decide_eq_decide]
  omega

theorem sub32_bits (x y c : Int) (x0 : 0 ≤ x) (x1 : x < 4294967296) (y0 : 0 ≤ y) (y1 : y < 4294967296) (c0 : 0 ≤ c) (c1 : c ≤ 1) :
    bits BinOp.or IntKind.u32 (bits BinOp.and IntKind.u32 (bits BinOp.xor IntKind.u32 IntKind.u32.max x) y)
      (bits BinOp.and IntKind.u32 (bits BinOp.xor IntKind.u32 IntKind.u32.max (bits BinOp.xor IntKind.u32 x y)) ((x - y - c) % 4294967296)) / 2147483648 = bor x (y + c) := by
  obtain ⟨x, rfl⟩ := Int.eq_ofNat_of_zero_le x0
  obtain ⟨y, rfl⟩ := Int.eq_ofNat_of_zero_le y0
  obtain ⟨d, hd⟩ := Int.eq_ofNat_of_zero_le (show 0 ≤ ((x : Int) - y - c) % 4294967296 by omega)
  have hdl : d < 4294967296 := by omega
  have hx : x < 4294967296 := by omega
  have hy : y < 4294967296 := by omega
  have hm : IntKind.u32.max = ((4294967295 : Nat) : Int) := by decide
  have m1 : 4294967295 < 4294967296 := by decide
  rw [hd, hm, xor32 _ _ m1 hx, xor32 _ _ hx hy, xor32 _ _ m1 (xor_lt32 hx hy), and32 _ _ (xor_lt32 m1 hx) hy, and32 _ _ (xor_lt32 m1 (xor_lt32 hx hy)) hdl,
    or32 _ _ (and_lt32 (xor_lt32 m1 hx)) (and_lt32 (xor_lt32 m1 (xor_lt32 hx hy)))]
  have ht := top_bit ((4294967295 ^^^ x) &&& y ||| (4294967295 ^^^ (x ^^^ y)) &&& d) (or_lt32 (and_lt32 (xor_lt32 m1 hx)) (and_lt32 (xor_lt32 m1 (xor_lt32 hx hy))))
  have hb : (4294967295 : Nat).testBit 31 = true := by decide
  rw [Nat.testBit_or, Nat.testBit_and, Nat.testBit_and, Nat.testBit_xor, Nat.testBit_xor, Nat.testBit_xor, hb, bit31 x hx, bit31 y hy, bit31 d hdl] at ht
  have hgoal : (((4294967295 ^^^ x) &&& y ||| (4294967295 ^^^ (x ^^^ y)) &&& d : Nat) : Int) / 2147483648 = ((((4294967295 ^^^ x) &&& y ||| (4294967295 ^^^ (x ^^^ y)) &&& d) / 2147483648 : Nat) : Int) := by omega
  rw [hgoal, ht]
  have hc : c = 0 ∨ c = 1 := by omega
  unfold bor
  by_cases a1 : 2147483648 ≤ x <;> by_cases a2 : 2147483648 ≤ y <;> by_cases a3 : 2147483648 ≤ d <;> simp [a1, a2, a3] <;> omega

theorem or_shift (x y : Int) (x0 : 0 ≤ x) (x1 : x < 4294967296) (y0 : 0 ≤ y) (y1 : y < 4294967296) : bits BinOp.or IntKind.u64 (x * 4294967296) y = x * 4294967296 + y := by
  obtain ⟨x, rfl⟩ := Int.eq_ofNat_of_zero_le x0
  obtain ⟨y, rfl⟩ := Int.eq_ofNat_of_zero_le y0
  have e : (x : Int) * 4294967296 = ((x * 4294967296 : Nat) : Int) := by omega
  rw [e, or64 _ _ (by omega) (by omega)]
  have h3 := Nat.two_pow_add_eq_or_of_lt (i := 32) (b := y) (by omega) x
  have h4 : x * 4294967296 ||| y = x * 4294967296 + y := by
    rw [Nat.mul_comm]; exact h3.symm
  rw [h4]
  omega

end Go.Proofs.Ytnnipciifjpooaa.Num
