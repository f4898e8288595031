/-
  scrimref03.Norm, Same, Neg, Sign; scrimlaw03.Mine, Theirs, few, same.
  Plain facts on the document's answers: numbers doubled, their bits, products and quotients bit by bit, the steps of a greatest divisor.
  scrimref02.longer, limb, Cmp, Add, Sub, twice and Bit: the document's answers, as they are reckoned.
  nat.Sub: the difference, or none.
  scrimref02.Sub, twice and Bit.
  scrimref02.Mul, DivMod and Gcd.
  scrimref03.Add, Sub, Cmp, Mul.
  nat.Add: the sum.
  whole.Cmp, whole.DivMod.
  ratio.upper, lower, over, long; ratio.Make.
  nat.addTimes and nat.Mul: the product.
-/
import Derived.Test.YtlfilpjiepdejaaMrgB
import Derived.Deep.RegionWith
import Derived.Deep.CutRange
namespace Go.Proofs.Ytlfilpjiepdejaa
open Go.RowKit Num

attribute [local go_sem ↓] Go.wp_at_zero Go.wp_at_succ

theorem canon_right {w : World} {b : Bool} {ao : Option Addr} {n nc v : Nat} {f : Nat → Nat} (hn : n ≤ nc) (hc : nc ≤ 9223372036854775807) (hs : Sl w ao n f) (cf : Canon v n f) (h : 0 < n ∨ b = false) : Right w b ao n nc (sgn b v) := by
  refine ⟨f, hn, hc, hs, by rw [sgn_abs]; exact cf, ?_⟩
  rw [sgn_neg]
  rcases h with h | h
  · have := cf.ne_zero
    have : 0 < v := by omega
    simp [this]
  · simp [h]

end Go.Proofs.Ytlfilpjiepdejaa

namespace Go.Proofs.Ytlfilpjiepdejaa.Num

theorem twice_step {S A c c' s x P b : Nat} (h : S + c * P = 2 * A + b) (e : s + 4294967296 * c' = 2 * x + c) : S + s * P + c' * (4294967296 * P) = 2 * (A + x * P) + b := by
  have e' := congrArg (· * P) e
  simp only [Nat.add_mul] at e'
  have h1 : c' * (4294967296 * P) = 4294967296 * c' * P := by rw [Nat.mul_left_comm, Nat.mul_assoc]
  have h2 : 2 * (A + x * P) = 2 * A + 2 * x * P := by rw [Nat.mul_add, Nat.mul_assoc]
  omega

theorem twice_end {S A c b n : Nat} (h : S + c * pw (n + 1) = 2 * A + b) (hA : A < pw n) (hb : b ≤ 1) : S = 2 * A + b := by
  have hp := pw_pos n
  rw [pw_succ] at h
  by_cases h0 : c = 0
  · subst h0; omega
  · have : 1 * (4294967296 * pw n) ≤ c * (4294967296 * pw n) := Nat.mul_le_mul_right _ (by omega)
    omega

theorem sub_end {S c A B P : Nat} (h : S + B = A + c * P) (hS : S < P) (hBA : B ≤ A) : S = A - B := by
  by_cases h0 : c = 0
  · subst h0; omega
  · have : 1 * P ≤ c * P := Nat.mul_le_mul_right _ (by omega)
    omega

theorem pw_two (n : Nat) : pw n = 2 ^ (32 * n) := by
  induction n with
  | zero => rfl
  | succ n ih =>
    rw [pw_succ, ih, show 32 * (n + 1) = 32 * n + 32 by omega, Nat.pow_add, Nat.mul_comm]

/-- The i-th bit. -/
def bitAt (f : Nat → Nat) (n i : Nat) : Nat := at0 f n (i / 32) / 2 ^ (i % 32) % 2

theorem bitAt_le (f : Nat → Nat) (n i : Nat) : bitAt f n i ≤ 1 := by unfold bitAt; omega

theorem bit_low {a R s : Nat} (hs : s < 32) : (a + 4294967296 * R) / 2 ^ s % 2 = a / 2 ^ s % 2 := by
  have e : (4294967296 : Nat) = 2 ^ s * (2 * 2 ^ (31 - s)) := by
    have e1 : (2 : Nat) * 2 ^ (31 - s) = 2 ^ (32 - s) := by
      rw [Nat.mul_comm, ← Nat.pow_succ]
      congr 1
      omega
    rw [e1, ← Nat.pow_add]
    have : s + (32 - s) = 32 := by omega
    rw [this]
  have e2 : 4294967296 * R = 2 ^ s * (2 * (2 ^ (31 - s) * R)) := by
    rw [e]
    simp only [Nat.mul_assoc]
  rw [e2, Nat.add_mul_div_left _ _ (Nat.pow_pos (by decide))]
  omega

theorem val_bit {f : Nat → Nat} {n : Nat} (lf : Lim f n) (i : Nat) : val f n / 2 ^ i % 2 = bitAt f n i := by
  unfold bitAt
  have hi : i = 32 * (i / 32) + i % 32 := by omega
  have hp : (2 : Nat) ^ i = pw (i / 32) * 2 ^ (i % 32) := by
    rw [pw_two, ← Nat.pow_add, ← hi]
  rw [hp, ← Nat.div_div_eq_div_mul]
  generalize hm : i / 32 = m
  have hs : i % 32 < 32 := Nat.mod_lt _ (by decide)
  generalize i % 32 = s at hs
  by_cases h : m < n
  · rw [at0_in h]
    obtain ⟨d, rfl⟩ := Nat.le.dest (show m + 1 ≤ n by omega)
    have e : val f (m + 1 + d) = val f m + pw m * (f m + 4294967296 * val (fun j => f (m + 1 + j)) d) := by
      rw [val_add, val_succ, pw_succ, Nat.mul_add, Nat.mul_comm (f m), ← Nat.add_assoc]
      congr 1
      rw [Nat.mul_left_comm, Nat.mul_assoc, Nat.mul_left_comm]
    rw [e, Nat.add_mul_div_left _ _ (pw_pos m), Nat.div_eq_of_lt (val_lt (lf.mono (by omega))), Nat.zero_add]
    exact bit_low hs
  · rw [at0_out (by omega)]
    have : val f n < pw m := Nat.lt_of_lt_of_le (val_lt lf) (pw_le (by omega))
    rw [Nat.div_eq_of_lt this]

/-- The bits from place j on, and the one below. -/
theorem val_top {f : Nat → Nat} {n : Nat} (lf : Lim f n) (j : Nat) : val f n / 2 ^ j = 2 * (val f n / 2 ^ (j + 1)) + bitAt f n j := by
  rw [← val_bit lf j]
  have e : val f n / 2 ^ (j + 1) = val f n / 2 ^ j / 2 := by rw [Nat.pow_succ, Nat.div_div_eq_div_mul]
  rw [e]
  omega

theorem val_none {f : Nat → Nat} {n : Nat} (lf : Lim f n) : val f n / 2 ^ (32 * n) = 0 := by
  rw [← pw_two]; exact Nat.div_eq_of_lt (val_lt lf)

/-- A bit more: the quotient and the rest. -/
theorem div_bit {Z Y b : Nat} (hY : 0 < Y) (hb : b ≤ 1) :
    (Y ≤ 2 * (Z % Y) + b → (2 * Z + b) / Y = 2 * (Z / Y) + 1 ∧ (2 * Z + b) % Y = 2 * (Z % Y) + b - Y) ∧
    (2 * (Z % Y) + b < Y → (2 * Z + b) / Y = 2 * (Z / Y) ∧ (2 * Z + b) % Y = 2 * (Z % Y) + b) := by
  have e := Nat.div_add_mod Z Y
  have hr := Nat.mod_lt Z hY
  generalize hq : Z / Y = q at *
  generalize hm : Z % Y = r at *
  constructor
  · intro h
    have e1 : Y * (2 * q + 1) = 2 * (Y * q) + Y := by rw [Nat.mul_add, Nat.mul_left_comm]; omega
    exact (Nat.div_mod_unique hY).2 ⟨by omega, by omega⟩
  · intro h
    have e1 : Y * (2 * q) = 2 * (Y * q) := Nat.mul_left_comm _ _ _
    exact (Nat.div_mod_unique hY).2 ⟨by omega, by omega⟩

/-- A step of a greatest divisor halves the product. -/
theorem gcd_step {x y k T : Nat} (hyx : y < x) (hy : 0 < y) (h : x * y * 2 ^ k ≤ T) : x % y < y ∧ y * (x % y) * 2 ^ (k + 1) ≤ T := by
  have hm := Nat.mod_lt x hy
  refine ⟨hm, ?_⟩
  have e := Nat.div_add_mod x y
  have q1 : 1 ≤ x / y := (Nat.le_div_iff_mul_le hy).2 (by omega)
  have q2 : y * 1 ≤ y * (x / y) := Nat.mul_le_mul_left _ q1
  have h2 : 2 * (x % y) ≤ x := by omega
  have h3 : y * (x % y) * 2 ^ (k + 1) = y * (2 * (x % y)) * 2 ^ k := by
    rw [Nat.pow_succ, Nat.mul_comm (2 ^ k) 2, ← Nat.mul_assoc, Nat.mul_assoc y, Nat.mul_comm (x % y) 2]
  rw [h3]
  refine Nat.le_trans (Nat.mul_le_mul_right _ (Nat.mul_le_mul_left _ h2)) ?_
  rw [Nat.mul_comm y x]; exact h

theorem gcd_start {x y n m : Nat} (hx : x ≤ pw n) (hy : y ≤ pw n) (hm : 64 * n + 1 ≤ m) : x * y * 2 ^ 1 ≤ 2 ^ m := by
  have a : x * y ≤ pw n * pw n := Nat.mul_le_mul hx hy
  rw [pw_two, ← Nat.pow_add] at a
  have b : x * y * 2 ^ 1 ≤ 2 ^ (32 * n + 32 * n) * 2 ^ 1 := Nat.mul_le_mul_right _ a
  rw [← Nat.pow_add] at b
  exact Nat.le_trans b (Nat.pow_le_pow_right (by decide) (by omega))

theorem gcd_few {x y k m : Nat} (hyx : y < x) (hy : 0 < y) (h : x * y * 2 ^ k ≤ 2 ^ m) : k ≤ m := by
  have h1 : 1 ≤ x * y := Nat.mul_pos (by omega) hy
  have h2 : 1 * 2 ^ k ≤ x * y * 2 ^ k := Nat.mul_le_mul_right _ h1
  have h3 : 2 ^ k ≤ 2 ^ m := by omega
  exact (Nat.pow_le_pow_iff_right (by decide)).1 h3

end Go.Proofs.Ytlfilpjiepdejaa.Num

namespace Go.Proofs.Ytlfilpjiepdejaa
open Go.RowKit Num
set_option maxRecDepth 20000

theorem cells_snoc (F : Nat → Nat) (j x : Nat) (v : Int) (h : v = (x : Int)) : limbCells F j ++ [Value.int .u32 v] = limbCells (put F j x) (j + 1) := by
  subst h
  unfold limbCells
  rw [List.range_succ, List.map_append]
  congr 1
  · exact List.map_congr_left fun t ht => by rw [put_ne (by have := List.mem_range.1 ht; omega)]
  · simp [put_at]

theorem put_snoc_lim {F : Nat → Nat} {j x : Nat} (h : Lim F j) (hx : x < 4294967296) : Lim (put F j x) (j + 1) := by
  intro t ht
  by_cases c : t = j
  · rw [c, put_at]; exact hx
  · rw [put_ne c]; exact h t (by omega)

theorem one_at (w : World) (v : Value) (t : TypeId) : ∀ j u, [v][j]? = some u → (w.alloc (.cells #[v] t)).cell? ((⟨w.heap.size, 0, none⟩ : Addr).add j) = some u := by
  intro j u h
  match j, h with
  | 0, h =>
    simp at h
    subst h
    simp [Addr.add]

/-- One limb more behind those that the call's own slice holds. -/
theorem wpList_append_limb {P : Program} {w0 : World} {ops : Array Oper} {rest : List Oper} {o : Oper} {a : Act} {Q : Exit → Act → World → Prop} (hgd : o.guard = none) (s x : Operand) (t : TypeId)
    (ho : o.op = .call { callee := .builtin .append, args := #[s, x], argTypes := #[t, t] }) (base : Nat) (e : TypeId) (i : TypeInfo) (ht : P.underlying t = some (.slice e)) (hi : P.info? e = some i)
    (hz : i.zero = some (Value.int .u32 0)) (h1 : i.size = 1) (h4 : i.bytes = 4) (v : Value) (n : Nat) (F : Nat → Nat) (tt : TypeId) (z : Int) (y : Nat) (hs : a.eval s = v) (hx : a.eval x = .slice (some ⟨w0.heap.size, 0, none⟩) 1 1)
    (hown : w0.ownsRow base e 1 v n (limbCells F n)) (hzy : z = (y : Int)) (hn : n ≤ 1000000) (hb : base ≤ w0.heap.size)
    (h : ∀ v' w', w'.ownsRow base e 1 v' (n + 1) (limbCells (put F n y) (n + 1)) → Below base w0 w' → wpList P ops Q rest (a.put o.dst v') w') :
    wpList P ops Q (o :: rest) a (w0.alloc (.cells #[.int .u32 z] tt)) := by
  refine wpList_append_own _ hgd s x t ho base e i (.int .u32 0) 1 4 ht hi hz h1 h4 rfl (by decide) v n (limbCells F n) hs (hown.alloc _) ⟨w0.heap.size, 0, none⟩ 1 1 [.int .u32 z] hx rfl (one_at w0 _ tt) ?_ (by unfold maxLen; omega) (by omega) (by simp; omega) ?_
  · intro u hu
    simp at hu
    subst hu
    rfl
  · intro v' w' hown' hgr _
    rw [cells_snoc F n y z hzy] at hown'
    refine h v' w' hown' ?_
    exact ((Below.refl base w0).alloc hb _).grown hgr (by simp; omega) (fun k hk => (hown.lt k hk).1)

end Go.Proofs.Ytlfilpjiepdejaa

namespace Go.Proofs.Ytlfilpjiepdejaa
open Go.RowKit Num

def SubPost (x y : Nat) (w : World) (e : Ending) (w' : World) : Prop :=
  Below w.heap.size w w' ∧ ((x < y ∧ e = .returned (.tuple #[.slice none 0 0, .bool false])) ∨
    (y ≤ x ∧ ∃ ao n cap f, e = .returned (.tuple #[.slice ao n cap, .bool true]) ∧ n ≤ cap ∧ cap ≤ 9223372036854775807 ∧ Sl w' ao n f ∧ Canon (x - y) n f))

end Go.Proofs.Ytlfilpjiepdejaa

namespace Go.Proofs.Ytlfilpjiepdejaa
open Go.RowKit Num
set_option maxRecDepth 20000

end Go.Proofs.Ytlfilpjiepdejaa

namespace Go.Proofs.Ytlfilpjiepdejaa
open Go.RowKit Num

theorem drawn_b {w w' : World} (h : ∃ q, w' = w.drewN q) : Below w.heap.size w w' := by
  obtain ⟨q, rfl⟩ := h
  exact below_drewN (Below.refl _ _) q

theorem small' {v k K : Nat} (h : v < pw k) (hk : k ≤ K) : v < pw K := Nat.lt_of_lt_of_le h (pw_le hk)

/-- A number in new memory, short enough to go on with. -/
theorem Num.Canon.few {w : World} {ao : Option Addr} {n nc v k : Nat} {f : Nat → Nat} (h : Canon v n f) (hs : Sl w ao n f) (hn : n ≤ nc) (hc : nc ≤ 9223372036854775807) (hv : v < pw k) (hk : k ≤ 1000000) : Arg w ao n nc f ∧ n ≤ k :=
  ⟨⟨hn, hc, Nat.le_trans (h.len_le hv) hk, hs, h.lim⟩, h.len_le hv⟩

theorem half_lt {X j n : Nat} (h : X < pw n) : X / 2 ^ j < pw n := Nat.lt_of_le_of_lt (Nat.div_le_self _ _) h

end Go.Proofs.Ytlfilpjiepdejaa

namespace Go.Proofs.Ytlfilpjiepdejaa
open Go.RowKit Num

attribute [local go_sem ↓] Go.wp_at_zero Go.wp_at_succ

theorem Whole.alloc {w : World} {b : Bool} {ao : Option Addr} {n nc : Nat} {x : Int} (h : Whole w b ao n nc x) (o : Obj) : Whole (w.alloc o) b ao n nc x := h.below ((Below.refl _ w).alloc (Nat.le_refl _) o)

theorem Right.alloc {w : World} {b : Bool} {ao : Option Addr} {n nc : Nat} {x : Int} (h : Right w b ao n nc x) (o : Obj) : Right (w.alloc o) b ao n nc x := h.below ((Below.refl _ w).alloc (Nat.le_refl _) o)

theorem small2 {v k : Nat} (hk : k ≤ 1000000) (h : v < pw k) : v < pw 1000000 := Nat.lt_of_lt_of_le h (pw_le hk)

theorem sum_small {u v k : Nat} (hk : k + 1 ≤ 1000000) (hu : u < pw k) (hv : v < pw k) : u + v < pw 1000000 := by
  have e : pw (k + 1) = 4294967296 * pw k := rfl
  exact Nat.lt_of_lt_of_le (m := pw (k + 1)) (by omega) (pw_le hk)

theorem Whole.drew {w : World} {b : Bool} {ao : Option Addr} {n nc : Nat} {x : Int} (h : Whole w b ao n nc x) : Whole w.drew b ao n nc x := h.below (Below.refl _ w).drew

theorem made1' {W w' : World} {u0 u1 : Value} {t : TypeId} (hb : Below (W.alloc (.cells #[u0, u1] t)).drew.heap.size (W.alloc (.cells #[u0, u1] t)).drew w') : Box w' W.heap.size u0 u1 := (Box.new u0 u1 t rfl).drew.later hb

theorem made2' {W w' : World} {u0 u1 v0 v1 : Value} {t s : TypeId} (hb : Below ((W.alloc (.cells #[u0, u1] t)).alloc (.cells #[v0, v1] s)).drew.heap.size ((W.alloc (.cells #[u0, u1] t)).alloc (.cells #[v0, v1] s)).drew w') :
    Box w' W.heap.size u0 u1 ∧ Box w' (W.heap.size + 1) v0 v1 := ⟨((Box.new u0 u1 t rfl).alloc _).drew.later hb, (Box.new v0 v1 s (by simp)).drew.later hb⟩

theorem made3' {W w' : World} {u0 u1 v0 v1 x0 x1 : Value} {t s r : TypeId} (hb : Below (((W.alloc (.cells #[u0, u1] t)).alloc (.cells #[v0, v1] s)).alloc (.cells #[x0, x1] r)).drew.heap.size (((W.alloc (.cells #[u0, u1] t)).alloc (.cells #[v0, v1] s)).alloc (.cells #[x0, x1] r)).drew w') :
    Box w' W.heap.size u0 u1 ∧ Box w' (W.heap.size + 1) v0 v1 ∧ Box w' (W.heap.size + 2) x0 x1 := ⟨(((Box.new u0 u1 t rfl).alloc _).alloc _).drew.later hb, ((Box.new v0 v1 s (by simp)).alloc _).drew.later hb, (Box.new x0 x1 r (by simp)).drew.later hb⟩

theorem made1 {W w' : World} {u0 u1 : Value} {t : TypeId} (hb : Below (W.alloc (.cells #[u0, u1] t)).heap.size (W.alloc (.cells #[u0, u1] t)) w') : Box w' W.heap.size u0 u1 := (Box.new u0 u1 t rfl).later hb

theorem made2 {W w' : World} {u0 u1 v0 v1 : Value} {t s : TypeId} (hb : Below ((W.alloc (.cells #[u0, u1] t)).alloc (.cells #[v0, v1] s)).heap.size ((W.alloc (.cells #[u0, u1] t)).alloc (.cells #[v0, v1] s)) w') :
    Box w' W.heap.size u0 u1 ∧ Box w' (W.heap.size + 1) v0 v1 := ⟨((Box.new u0 u1 t rfl).alloc _).later hb, (Box.new v0 v1 s (by simp)).later hb⟩

theorem made3 {W w' : World} {u0 u1 v0 v1 x0 x1 : Value} {t s r : TypeId} (hb : Below (((W.alloc (.cells #[u0, u1] t)).alloc (.cells #[v0, v1] s)).alloc (.cells #[x0, x1] r)).heap.size (((W.alloc (.cells #[u0, u1] t)).alloc (.cells #[v0, v1] s)).alloc (.cells #[x0, x1] r)) w') :
    Box w' W.heap.size u0 u1 ∧ Box w' (W.heap.size + 1) v0 v1 ∧ Box w' (W.heap.size + 2) x0 x1 := ⟨(((Box.new u0 u1 t rfl).alloc _).alloc _).later hb, ((Box.new v0 v1 s (by simp)).alloc _).later hb, (Box.new x0 x1 r (by simp)).later hb⟩

end Go.Proofs.Ytlfilpjiepdejaa

namespace Go.Proofs.Ytlfilpjiepdejaa
open Go.RowKit Num

end Go.Proofs.Ytlfilpjiepdejaa

namespace Go.Proofs.Ytlfilpjiepdejaa
open Go.RowKit Num

attribute [local go_sem ↓] Go.wp_at_zero Go.wp_at_succ

theorem cmp_sign {x y : Int} (h : x.sign ≠ y.sign) : cmpI x.sign y.sign = cmpI x y := by
  rcases Int.lt_trichotomy x 0 with hx | rfl | hx <;> rcases Int.lt_trichotomy y 0 with hy | rfl | hy <;>
    simp_all [Int.sign_eq_one_of_pos, Int.sign_eq_neg_one_of_neg, cmpI] <;> (repeat' split) <;> omega

theorem sgn_cases (b : Bool) (u : Nat) : ((u = 0 ∧ (sgn b u).sign = 0 ∧ sgn b u = 0) ∨ (0 < u ∧ (sgn b u).sign = 1 ∧ sgn b u = u)) ∨ (0 < u ∧ (sgn b u).sign = -1 ∧ sgn b u = -(u : Int)) := by
  by_cases h : u = 0
  · subst h; left; left; cases b <;> simp [sgn]
  · have h' : (0 : Int) < (u : Int) := by omega
    cases b
    · left; right; exact ⟨by omega, Int.sign_eq_one_of_pos h', rfl⟩
    · right; exact ⟨by omega, Int.sign_eq_neg_one_of_neg (by simp only [sgn_true]; omega), rfl⟩

theorem wrap_is (z : Int) : wrap64 z = IntKind.i64.wrap z := by
  simp [wrap64, IntKind.wrap, IntKind.bits, IntKind.signed]
  omega

theorem wrap_cmp (p q : Int) : IntKind.i64.wrap (1 * cmpI p q) = cmpI p q ∧ IntKind.i64.wrap (-1 * cmpI p q) = cmpI (-p) (-q) ∧ IntKind.i64.wrap (0 * cmpI p q) = 0 := by
  have w1 : IntKind.i64.wrap 1 = 1 := by decide
  have w2 : IntKind.i64.wrap (-1) = -1 := by decide
  have w3 : IntKind.i64.wrap 0 = 0 := by decide
  rcases Int.lt_trichotomy p q with h | h | h
  · rw [cmpI_lt h, cmpI_gt (show -q < -p by omega)]; exact ⟨w2, w1, w3⟩
  · rw [cmpI_eq h, cmpI_eq (show -p = -q by omega)]; exact ⟨w3, w3, w3⟩
  · rw [cmpI_gt h, cmpI_lt (show -p < -q by omega)]; exact ⟨w1, w2, w3⟩

theorem cmp_size {b c : Bool} {u v : Nat} (h : (sgn b u).sign = (sgn c v).sign) : IntKind.i64.wrap ((sgn b u).sign * cmpI u v) = cmpI (sgn b u) (sgn c v) := by
  obtain ⟨w1, w2, w3⟩ := wrap_cmp u v
  rcases sgn_cases b u with (⟨h1, h2, h3⟩ | ⟨h1, h2, h3⟩) | ⟨h1, h2, h3⟩ <;> rcases sgn_cases c v with (⟨k1, k2, k3⟩ | ⟨k1, k2, k3⟩) | ⟨k1, k2, k3⟩ <;> rw [h2, k2] at h <;> first | omega | skip
  · rw [h2, h3, k3, w3, cmpI_eq rfl]
  · rw [h2, h3, k3, w1]
  · rw [h2, h3, k3, w2]

/-- Quotient, rounded down, and rest; or zeros and false. -/
def IDivPost (x y : Int) (w : World) (e : Ending) (w' : World) : Prop :=
  Below w.heap.size w w' ∧ ((y = 0 ∧ e = .returned (.tuple #[.agg #[.bool false, .slice none 0 0], .agg #[.bool false, .slice none 0 0], .bool false])) ∨
    (y ≠ 0 ∧ ∃ b ao n nc c bo m mc, e = .returned (.tuple #[.agg #[.bool b, .slice ao n nc], .agg #[.bool c, .slice bo m mc], .bool true]) ∧ Right w' b ao n nc (x.fdiv y) ∧ Right w' c bo m mc (x.fmod y)))

theorem fdiv_is {x y q r : Int} (e : r + y * q = x) (h : (0 < y ∧ 0 ≤ r ∧ r < y) ∨ (y < 0 ∧ y < r ∧ r ≤ 0)) : x.fdiv y = q ∧ x.fmod y = r := by
  rcases h with ⟨h0, h1, h2⟩ | ⟨h0, h1, h2⟩
  · exact (Int.fdiv_fmod_unique h0).2 ⟨e, h1, h2⟩
  · exact (Int.fdiv_fmod_unique' h0).2 ⟨e, h1, h2⟩

theorem fdiv_same (b : Bool) {u v : Nat} (hv : v ≠ 0) : (sgn b u).fdiv (sgn b v) = sgn false (u / v) ∧ (sgn b u).fmod (sgn b v) = sgn b (u % v) := by
  have e : (v : Int) * ((u / v : Nat) : Int) + ((u % v : Nat) : Int) = u := by exact_mod_cast Nat.div_add_mod u v
  have l : u % v < v := Nat.mod_lt _ (by omega)
  cases b
  · exact fdiv_is (by simp only [sgn_false]; omega) (.inl ⟨by simp only [sgn_false]; omega, by simp only [sgn_false]; omega, by simp only [sgn_false]; omega⟩)
  · refine fdiv_is ?_ (.inr ⟨by simp only [sgn_true]; omega, by simp only [sgn_true]; omega, by simp only [sgn_true]; omega⟩)
    simp only [sgn_true, sgn_false, Int.neg_mul]; omega

theorem fdiv_even {b c : Bool} (h : b ≠ c) {u v : Nat} (hv : v ≠ 0) (hr : u % v = 0) : (sgn b u).fdiv (sgn c v) = sgn true (u / v) ∧ (sgn b u).fmod (sgn c v) = sgn c (u % v) := by
  have e : (v : Int) * ((u / v : Nat) : Int) + ((u % v : Nat) : Int) = u := by exact_mod_cast Nat.div_add_mod u v
  rw [hr] at e ⊢
  cases b <;> cases c <;> simp only [ne_eq, not_true, reduceCtorEq, not_false_iff] at h
  · refine fdiv_is ?_ (.inr ⟨by simp only [sgn_true]; omega, by simp only [sgn_true]; omega, by simp only [sgn_true]; omega⟩)
    simp only [sgn_true, sgn_false, Int.neg_mul, Int.mul_neg]; omega
  · refine fdiv_is ?_ (.inl ⟨by simp only [sgn_false]; omega, by simp only [sgn_false]; omega, by simp only [sgn_false]; omega⟩)
    simp only [sgn_true, sgn_false, Int.mul_neg]; omega

theorem fdiv_odd {b c : Bool} (h : b ≠ c) {u v : Nat} (hv : v ≠ 0) (hr : u % v ≠ 0) : (sgn b u).fdiv (sgn c v) = sgn true (u / v + 1) ∧ (sgn b u).fmod (sgn c v) = sgn c (v - u % v) := by
  have e : (v : Int) * ((u / v : Nat) : Int) + ((u % v : Nat) : Int) = u := by exact_mod_cast Nat.div_add_mod u v
  have l : u % v < v := Nat.mod_lt _ (by omega)
  have e2 : (v : Int) * ((u / v + 1 : Nat) : Int) = (v : Int) * ((u / v : Nat) : Int) + v := by rw [Int.natCast_add, Int.mul_add]; simp
  cases b <;> cases c <;> simp only [ne_eq, not_true, reduceCtorEq, not_false_iff] at h
  · refine fdiv_is ?_ (.inr ⟨by simp only [sgn_true]; omega, by simp only [sgn_true]; omega, by simp only [sgn_true]; omega⟩)
    simp only [sgn_true, sgn_false, Int.neg_mul, Int.mul_neg]; omega
  · refine fdiv_is ?_ (.inl ⟨by simp only [sgn_false]; omega, by simp only [sgn_false]; omega, by simp only [sgn_false]; omega⟩)
    simp only [sgn_true, sgn_false, Int.mul_neg]; omega

theorem small {v k : Nat} (hk : k ≤ 1000000) (h : v < pw k) : v < pw 1000000 := Nat.lt_of_lt_of_le h (pw_le hk)

theorem IDivPost.stored {w wk : World} {x y q r : Int} {b c : Bool} {ao bo : Option Addr} {n nc m mc B C : Nat} {b1 b2 : Bool} {p1 p2 : Option Addr} {k1 k2 l1 l2 : Nat} (hQ : Right wk b ao n nc q) (hR : Right wk c bo m mc r)
    (zB : Box wk B (.bool b1) (.slice p1 k1 l1)) (zC : Box wk C (.bool b2) (.slice p2 k2 l2)) (hne : B ≠ C) (hb : Below w.heap.size w wk) (hB : w.heap.size ≤ B) (hC : w.heap.size ≤ C) (hy : y ≠ 0) (e : x.fdiv y = q ∧ x.fmod y = r) :
    IDivPost x y w (.returned (.tuple #[.agg #[.bool b, .slice ao n nc], .agg #[.bool c, .slice bo m mc], .bool true])) ((((wk.setCell ⟨B, 0, none⟩ (.bool b)).setCell ⟨B, 1, none⟩ (.slice ao n nc)).setCell ⟨C, 0, none⟩ (.bool c)).setCell ⟨C, 1, none⟩ (.slice bo m mc)) := by
  rw [← e.1] at hQ; rw [← e.2] at hR
  exact ⟨below_set (below_set hb hB _ _) hC _ _, .inr ⟨hy, b, ao, n, nc, c, bo, m, mc, rfl, (hQ.box zB _ _).box (zC.other hne.symm _ _) _ _, (hR.box zB _ _).box (zC.other hne.symm _ _) _ _⟩⟩

theorem IDivPost.stored' {w wk : World} {x y q r : Int} {b c : Bool} {ao bo : Option Addr} {n nc m mc B C : Nat} {b1 b2 : Bool} {p1 p2 : Option Addr} {k1 k2 l1 l2 : Nat} (hQ : Right wk b ao n nc q) (hR : Right wk c bo m mc r)
    (zB : Box wk B (.bool b1) (.slice p1 k1 l1)) (zC : Box wk C (.bool b2) (.slice p2 k2 l2)) (hne : B ≠ C) (hb : Below w.heap.size w wk) (hB : w.heap.size ≤ B) (hC : w.heap.size ≤ C) (hy : y ≠ 0) (e : x.fdiv y = q ∧ x.fmod y = r) :
    IDivPost x y w (.returned (.tuple #[.agg #[.bool b, .slice ao n nc], .agg #[.bool c, .slice bo m mc], .bool true])) ((((wk.setCell ⟨C, 0, none⟩ (.bool c)).setCell ⟨C, 1, none⟩ (.slice bo m mc)).setCell ⟨B, 0, none⟩ (.bool b)).setCell ⟨B, 1, none⟩ (.slice ao n nc)) := by
  rw [← e.1] at hQ; rw [← e.2] at hR
  exact ⟨below_set (below_set hb hC _ _) hB _ _, .inr ⟨hy, b, ao, n, nc, c, bo, m, mc, rfl, (hQ.box zC _ _).box (zB.other hne _ _) _ _, (hR.box zC _ _).box (zB.other hne _ _) _ _⟩⟩

end Go.Proofs.Ytlfilpjiepdejaa

namespace Go.Proofs.Ytlfilpjiepdejaa
open Go.RowKit Num

attribute [local go_sem ↓] Go.wp_at_zero Go.wp_at_succ

set_option maxHeartbeats 1000000 in
theorem long_no (ao : Option Addr) (n nc : Nat) (w : World) (h : n ≤ 32) :
    Calls Try.prog 59 #[.slice ao n nc] w (Says (.bool false) w) := by
  have hd : decide ((32 : Int) < (n : Int)) = false := by rw [decide_eq_false_iff_not]; omega
  go_enter Try.func59, Try.ntmps59
  go_wp2_with fail
  go_ret
  exact ⟨rfl, Below.refl _ w⟩

set_option maxHeartbeats 1000000 in
theorem long_yes (ao : Option Addr) (n nc : Nat) (w : World) (h : 32 < n) :
    Calls Try.prog 59 #[.slice ao n nc] w (Says (.bool true) w) := by
  have hd : decide ((32 : Int) < (n : Int)) = true := by rw [decide_eq_true_iff]; omega
  go_enter Try.func59, Try.ntmps59
  go_wp2_with fail
  go_ret
  exact ⟨rfl, Below.refl _ w⟩

set_option maxHeartbeats 1000000 in
theorem over_any (b : Bool) (ao bo : Option Addr) (n nc m mc : Nat) (x : Int) (g : Nat → Nat) (w : World) (A : Right w b ao n nc x) (B : Arg w bo m mc g) :
    Calls Try.prog 60 #[.agg #[.bool b, .slice ao n nc], .slice bo m mc] w (RatPost x (val g m) w) := by
  have A' := Lib.hid A; have B' := Lib.hid B
  clear A B
  go_enter Try.func60, Try.ntmps60
  go_wp2_with fail
  refine gen_wp (fun w' => Below w.heap.size w w' ∧ Box w' w.heap.size (.bool b) (.slice ao n nc) ∧ Box3 w' (w.heap.size + 1) (.bool false) (.slice none 0 0) (.slice none 0 0))
    ⟨(((Below.refl _ _).alloc (Nat.le_refl _) _).alloc (by first | (simp; done) | (simp; omega)) _), ((Box.new _ _ _ rfl).alloc _), (Box3.new _ _ _ _ (by first | (simp; done) | (simp; omega)))⟩ ?_
  rintro w0 ⟨bb, x0, x1⟩
  have bb := bb.drew; have x0 := x0.drew; have x1 := x1.drew
  have sa0 := True.intro
  go_region_held3 (fun w' => w'.cell? ⟨w.heap.size, 0, none⟩ = some (.bool b) ∧ w'.cell? ⟨w.heap.size, 1, none⟩ = some (.slice ao n nc))
    (first | with_reducible exact ⟨x0.c0, x0.c1⟩ | with_reducible exact ⟨(x0.other3 (by omega) _ _ _).c0, (x0.other3 (by omega) _ _ _).c1⟩ | go_keep)
    (first
    | (go_at_call 62; clear sa0; refine (norm_any bo m mc g _ (B'.out.below bb)).mono ?_; rintro e w' ⟨co, cn, cc, c, rfl, h1, h2, h3, h4, hb⟩; have bb := below_then bb (Nat.le_refl _) hb; have x0 := x0.later hb; have x1 := x1.later hb; clear hb; have q0 := x1.c0; have q1 := x1.c1; have q2 := x1.c2; have q3 := x1.fr 0; have q4 := x1.fr 1; have q5 := x1.fr 2; have sa1 := True.intro))
  have z := x1.set (.bool b) (.slice ao n nc) (.slice co cn cc)
  have e0 := z.c0; have e1 := z.c1; have e2 := z.c2
  have hR : Hid (Rt w' b ao n nc co cn cc x (val g m)) := Lib.hid ⟨A'.out.below bb, canon_right (b := false) h1 h2 h3 h4 (.inr rfl)⟩
  have x1' := Lib.hid x1; have bb' := Lib.hid bb
  clear z h3 h4 x1 bb x0 A' B'
  go_wp2_with fail
  refine bodyPost_ret (v := .agg #[.bool b, .slice ao n nc, .slice co cn cc]) (by simp [results, Try.results60, go_sem, e0, e1, e2]) rfl ?_
  exact RatPost.stored hR.out x1'.out bb'.out (by omega)

theorem make_bad {p q e : Int} {w w' : World} {E : Ending} (h : mkE p q = e) (he : e ≠ 0) (k : ResPost 0 0 e w E w') : MakePost p q w E w' := by
  subst h
  show ResPost (mkT p q) (mkB p q) (mkE p q) w E w'
  rw [(mk_bad he).1, (mk_bad he).2]
  exact k

theorem make_good {p q : Int} {w w' : World} {E : Ending} (h : mkE p q = 0) (k : ResPost (mkT p q) (mkB p q) 0 w E w') : MakePost p q w E w' := by
  show ResPost (mkT p q) (mkB p q) (mkE p q) w E w'
  rw [h]
  exact k

theorem whole_abs {w : World} {b : Bool} {ao : Option Addr} {n nc : Nat} {x : Int} (h : Whole w b ao n nc x) : ∃ f, Arg w ao n nc f ∧ val f n = x.natAbs := by
  obtain ⟨f, A, rfl⟩ := h.ex
  exact ⟨f, A, by rw [sgn_abs]⟩

theorem mkE_three {p q : Int} (h : q = 0) : mkE p q = 3 := mk_three.2 h

theorem mkE_seven {p q : Int} (h : q ≠ 0) (k : pw 32 ≤ p.natAbs / mkG p q ∨ pw 32 ≤ q.natAbs / mkG p q) : mkE p q = 7 := by
  unfold mkE
  rw [if_neg h, if_neg (by omega)]

theorem canon_long {v n : Nat} {f : Nat → Nat} (c : Canon v n f) (h : 32 < n) : pw 32 ≤ v := by
  apply Nat.le_of_not_lt
  intro hl
  have := c.len_le hl
  omega

theorem canon_short {v n : Nat} {f : Nat → Nat} (c : Canon v n f) (h : n ≤ 32) : v < pw 32 := Nat.lt_of_lt_of_le c.lt_pw (pw_le h)

theorem sign_small (p q : Int) : IntKind.i64.wrap (p.sign * q.sign) = p.sign * q.sign := by
  have e : (p * q).sign = p.sign * q.sign := Int.sign_mul ..
  rw [← e]
  rcases Int.lt_trichotomy (p * q) 0 with h | h | h
  · rw [Int.sign_eq_neg_one_of_neg h]; rfl
  · rw [h]; rfl
  · rw [Int.sign_eq_one_of_pos h]; rfl

end Go.Proofs.Ytlfilpjiepdejaa

namespace Go.Proofs.Ytlfilpjiepdejaa
open Go.RowKit Num

/-- addTimes: in a block of N limbs the m limbs from off on become, with the limb that is told, themselves and x times the other number; nothing else turns. -/
def TimesPost (b N off m x : Nat) (F g : Nat → Nat) (w : World) (e : Ending) (w' : World) : Prop :=
  ∃ (c : Nat) (F' : Nat → Nat), e = .returned (.int .u32 c) ∧ c < 4294967296 ∧ Blk w' b N F' ∧ Lim F' N ∧ (∀ j, (j < off ∨ off + m ≤ j) → F' j = F j) ∧
    val (fun j => F' (off + j)) m + c * pw m = val (fun j => F (off + j)) m + x * val g m ∧ w.grownBy w' (some b)

end Go.Proofs.Ytlfilpjiepdejaa
