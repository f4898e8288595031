/-
  scrimref04.Whole, Of, Neg, Mul, Div, Add, Sub, Cmp.
  scrimlaw04.part, alike, awake.
  What the laws of ratio ask for: a number as it is handed in; which ones are right; Make where it goes; brackets.
  Lists of ints as they lie in memory; whether a number is in one; two that are the same (scrimref06.In, scrimref01.Ints).
  Shapes, plain: how many cells there are, or the error; which place is which cell. scrimref07.Ints, Count.
  Rows of ints that a call makes; worlds told anew.
  Places of a shape, plain: which numbers are the place of a cell; the place behind a place.
  Rows of ints that a call makes, written into and appended to; scrimref07.next.
  Arrays of arrays: what they are (trees), and how they lie in memory.
  Labels, as the document's answer has them (scrimref01): Bit, Has, Join, Flows.
  scrimref08.Simple, zero.
-/
import Derived.Test.YtlfilpjiepdejaaMrgD
import Derived.Test.YtlfilpjiepdejaaChecked
import Derived.BigQuiet
import Derived.Deep.RegionHeld3
import Derived.Laws.AppendOwn
import Derived.Laws.OwnMore
import Derived.Deep.CutRange
namespace Go.Proofs.Ytlfilpjiepdejaa
open Go.RowKit Num

attribute [local go_sem ↓] Go.wp_at_zero Go.wp_at_succ

theorem Right.flip {w : World} {b : Bool} {ao : Option Addr} {n nc : Nat} {x : Int} (h : Right w b ao n nc x) (hx : x ≠ 0) : Right w (!b) ao n nc (-x) := by
  obtain ⟨f, h1, h2, h3, h4, rfl⟩ := h.ex
  refine ⟨f, h1, h2, h3, by rw [Int.natAbs_neg]; exact h4, ?_⟩
  rw [← decide_not, decide_eq_decide]
  omega

theorem Right.len_zero {w : World} {b : Bool} {ao : Option Addr} {n nc : Nat} {x : Int} (h : Right w b ao n nc x) : n = 0 ↔ x = 0 := by
  obtain ⟨f, _, _, _, h4, _⟩ := h.ex
  rw [h4.ne_zero]; omega

theorem grow_65 {x : Int} (h : x.natAbs < pw 64) : x.natAbs < pw 65 := Nat.lt_of_lt_of_le h (pw_le (by omega))

theorem cmp_diff (x y : Int) : (x - y).sign = cmpI x y := by
  unfold cmpI
  rcases Int.lt_trichotomy x y with h | h | h
  · rw [Int.sign_eq_neg_one_of_neg (by omega)]; simp [h] <;> omega
  · rw [h, Int.sub_self]; simp
  · rw [Int.sign_eq_one_of_pos (by omega)]; simp [Int.not_lt.2 (Int.le_of_lt h)] <;> omega

end Go.Proofs.Ytlfilpjiepdejaa

namespace Go.Proofs.Ytlfilpjiepdejaa
open Go.RowKit Num

attribute [local go_sem ↓] Go.wp_at_zero Go.wp_at_succ

theorem canon_lit {v : Nat} (h0 : v ≠ 0) (h : v < 4294967296) : Canon v 1 (fun _ => v) := ⟨fun _ _ => h, .inr h0, by simp [val, pw]⟩

theorem rt_one {W : World} {x y : Nat} (hx0 : x ≠ 0) (hx : x < 4294967296) (hy0 : y ≠ 0) (hy : y < 4294967296) {b d : Nat} (h : Sl W (some ⟨b, 0, none⟩) 1 (fun _ => x)) (k : Sl W (some ⟨d, 0, none⟩) 1 (fun _ => y)) :
    Rt W false (some ⟨b, 0, none⟩) 1 1 (some ⟨d, 0, none⟩) 1 1 x y :=
  ⟨⟨fun _ => x, Nat.le_refl _, by omega, h, canon_lit hx0 hx, by simp⟩, ⟨fun _ => y, Nat.le_refl _, by omega, k, canon_lit hy0 hy, by simp⟩⟩

theorem low_part {n : Nat} (h0 : n ≠ 0) (h : n < 4294967296) : Low 1 n := ⟨h0, Nat.gcd_one_left _, Nat.lt_of_lt_of_le (by decide : 1 < pw 1) (pw_le (by omega)), Nat.lt_of_lt_of_le (m := pw 1) (by simpa [pw] using h) (pw_le (by omega))⟩

theorem make_lit {p q : Int} {T : Int} {B : Nat} {E : Int} {w w' : World} {e : Ending} (h : (mkT p q, mkB p q, mkE p q) = (T, B, E)) (k : MakePost p q w e w') : ResPost T B E w e w' := by
  injection h with h1 h2; injection h2 with h2 h3
  subst h1 h2 h3; exact k

theorem mod_lit {P R : Int} {Q S : Nat} {T : Int} {B : Nat} {E : Int} {w w' : World} {e : Ending} (h : modRes P Q R S = (T, B, E)) (k : ModPost P Q R S w e w') : ResPost T B E w e w' := by
  unfold ModPost at k
  rw [h] at k; exact k

theorem rt_new1 (W : World) (t t' : TypeId) : Rt ((W.alloc (.cells #[.int .u32 5] t)).alloc (.cells #[.int .u32 6] t')).drew false (some ⟨W.heap.size, 0, none⟩) 1 1 (some ⟨W.heap.size + 1, 0, none⟩) 1 1 5 6 :=
  rt_one (x := 5) (y := 6) (by decide) (by decide) (by decide) (by decide) (((sl_one (x := 5) _ rfl rfl).below ((Below.refl _ _).alloc (Nat.le_refl _) _)).below (Below.refl _ _).drew) ((sl_one (x := 6) _ (by simp) rfl).below (Below.refl _ _).drew)

theorem rt_new2 (W : World) (t t' : TypeId) : Rt ((W.alloc (.cells #[.int .u32 6] t)).alloc (.cells #[.int .u32 5] t')).drew false (some ⟨W.heap.size + 1, 0, none⟩) 1 1 (some ⟨W.heap.size, 0, none⟩) 1 1 5 6 :=
  rt_one (x := 5) (y := 6) (by decide) (by decide) (by decide) (by decide) ((sl_one (x := 5) _ (by simp) rfl).below (Below.refl _ _).drew) (((sl_one (x := 6) _ rfl rfl).below ((Below.refl _ _).alloc (Nat.le_refl _) _)).below (Below.refl _ _).drew)

theorem lit_sum : (mkT ((1 : Int) * ((3 : Nat) : Int) + (1 : Int) * ((2 : Nat) : Int)) (((2 : Nat) : Int) * ((3 : Nat) : Int)), mkB ((1 : Int) * ((3 : Nat) : Int) + (1 : Int) * ((2 : Nat) : Int)) (((2 : Nat) : Int) * ((3 : Nat) : Int)), mkE ((1 : Int) * ((3 : Nat) : Int) + (1 : Int) * ((2 : Nat) : Int)) (((2 : Nat) : Int) * ((3 : Nat) : Int))) = ((5 : Int), (6 : Nat), (0 : Int)) := by decide +kernel

theorem lit_mod : modRes 3 1 (-7) 1 = (2, 1, 0) := by decide +kernel

end Go.Proofs.Ytlfilpjiepdejaa

namespace Go.Proofs.Ytlfilpjiepdejaa
open Go.RowKit Num

attribute [local go_sem ↓] Go.wp_at_zero Go.wp_at_succ

/-- A slice of limbs as it is handed in, of any length. -/
structure In (w : World) (ao : Option Addr) (n nc : Nat) (f : Nat → Nat) : Prop where
  len : n ≤ nc
  cap : nc ≤ 9223372036854775807
  sl : Sl w ao n f
  lim : Lim f n

theorem In.below {w w' : World} {ao : Option Addr} {n nc : Nat} {f : Nat → Nat} (h : In w ao n nc f) (hb : Below w.heap.size w w') : In w' ao n nc f := ⟨h.len, h.cap, h.sl.below hb, h.lim⟩

theorem In.arg {w : World} {ao : Option Addr} {n nc : Nat} {f : Nat → Nat} (h : In w ao n nc f) (hn : n ≤ 32) : Arg w ao n nc f := ⟨h.len, h.cap, by omega, h.sl, h.lim⟩

theorem Right.arg {w : World} {b : Bool} {ao : Option Addr} {n nc : Nat} {x : Int} (h : Right w b ao n nc x) (hx : x.natAbs < pw 32) : ∃ f, Arg w ao n nc f := by
  obtain ⟨f, h1, h2, h3, h4, _⟩ := h.ex
  exact ⟨f, h1, h2, Nat.le_trans (h4.len_le hx) (by omega), h3, h4.lim⟩

/-- What Make tells where it goes: a number in lowest terms that is p by q. -/
def OkPost (p q : Int) (w : World) (e : Ending) (w' : World) : Prop := ∃ T B, Low T B ∧ T * q = p * B ∧ T.natAbs ≤ p.natAbs ∧ B ≤ q.natAbs ∧ ResPost T B 0 w e w'

theorem make_goes {p q : Int} {w w' : World} {e : Ending} (h : mkE p q = 0) (k : MakePost p q w e w') : OkPost p q w e w' := ⟨mkT p q, mkB p q, mk_low h, mk_cross h, mkT_le _ _, mkB_le _ _, make_zero h k⟩

theorem make_is {p q : Int} {P : Int} {Q : Nat} {w w' : World} {e : Ending} (a : Low P Q) (hq : q ≠ 0) (h : p * Q = P * q) (k : MakePost p q w e w') : ResPost P Q 0 w e w' := by
  obtain ⟨h1, h2, h3⟩ := mk_of_low a hq h
  have k : ResPost (mkT p q) (mkB p q) (mkE p q) w e w' := k
  rwa [h1, h2, h3] at k

theorem ok_unique {T T' p p' q q' : Int} {B B' : Nat} (a : Low T B) (a' : Low T' B') (c : T * q = p * B) (c' : T' * q' = p' * B') (hq : q ≠ 0) (hq' : q' ≠ 0) (h : p * q' = p' * q) : T = T' ∧ B = B' := by
  refine low_unique a a' ?_
  refine Int.eq_of_mul_eq_mul_right hq (Int.eq_of_mul_eq_mul_right hq' ?_)
  grind

theorem nz_mul {Q S : Nat} (a : Q ≠ 0) (b : S ≠ 0) : (Q : Int) * S ≠ 0 := Int.mul_ne_zero (by omega) (by omega)

theorem back_add {T P R : Int} {B Q S : Nat} (c : T * (Q * S) = (P * S + R * Q) * B) : (T * S + -R * B) * Q = P * (B * S) := by grind

theorem back_div {T P R : Int} {B Q S : Nat} (c : T * (Q * R) = (P * S) * B) : (T * R) * Q = P * (B * S) := by grind

theorem add_brackets {P R V Tab Tbc : Int} {Q S U Bab Bbc : Nat} (hS : S ≠ 0) (h1 : Tab * (Q * S) = (P * S + R * Q) * Bab) (h2 : Tbc * (S * U) = (R * U + V * S) * Bbc) :
    (Tab * U + V * Bab) * (Q * Bbc) = (P * Bbc + Tbc * Q) * (Bab * U) := by
  have h0 : (S : Int) ≠ 0 := by omega
  refine Int.eq_of_mul_eq_mul_left h0 ?_
  grind

theorem mul_brackets {P R V Tbc Tq Tr : Int} {Q S U Bbc Bq Br : Nat} (hS : S ≠ 0) (hU : U ≠ 0) (h2 : Tbc * (S * U) = (R * U + V * S) * Bbc) (hq : Tq * (Q * S) = (P * R) * Bq) (hr : Tr * (Q * U) = (P * V) * Br) :
    (P * Tbc) * (Bq * Br) = (Tq * Br + Tr * Bq) * (Q * Bbc) := by
  have h0 : (S : Int) ≠ 0 := by omega
  have h1 : (U : Int) ≠ 0 := by omega
  refine Int.eq_of_mul_eq_mul_left h0 (Int.eq_of_mul_eq_mul_left h1 ?_)
  grind

theorem cmp_zero {P : Int} {Q : Nat} {w w' : World} {e : Ending} (k : Says (.int .i64 (cmpI (P * ((1 : Nat) : Int)) ((0 : Int) * Q))) w e w') : Says (.int .i64 P.sign) w e w' := by
  have e0 : cmpI (P * ((1 : Nat) : Int)) ((0 : Int) * Q) = P.sign := by
    rw [← cmp_diff]
    have : P * ((1 : Nat) : Int) - 0 * (Q : Int) = P := by omega
    rw [this]
  rwa [e0] at k

end Go.Proofs.Ytlfilpjiepdejaa

namespace Go.Proofs.Ytlfilpjiepdejaa
open Go.RowKit

/-- n ints behind an address. -/
def SlZ (w : World) (ao : Option Addr) (n : Nat) (f : Nat → Int) : Prop :=
  n = 0 ∨ ∃ b off, ao = some ⟨b, off, none⟩ ∧ ∀ j, j < n → w.cell? ⟨b, off + j, none⟩ = some (.int .i64 (f j))

theorem SlZ.nil (w : World) (ao : Option Addr) (f : Nat → Int) : SlZ w ao 0 f := .inl rfl

theorem SlZ.mono {w : World} {ao : Option Addr} {n m : Nat} {f : Nat → Int} (h : SlZ w ao n f) (hm : m ≤ n) : SlZ w ao m f := by
  rcases h with h | ⟨b, off, rfl, h⟩
  · exact .inl (by omega)
  · exact .inr ⟨b, off, rfl, fun j hj => h j (by omega)⟩

theorem SlZ.congr {w : World} {ao : Option Addr} {n : Nat} {f g : Nat → Int} (h : SlZ w ao n f) (e : ∀ j, j < n → f j = g j) : SlZ w ao n g := by
  rcases h with h | ⟨b, off, rfl, h⟩
  · exact .inl h
  · exact .inr ⟨b, off, rfl, fun j hj => by rw [← e j hj]; exact h j hj⟩

theorem SlZ.lt {w : World} {b off n : Nat} {f : Nat → Int} (h : SlZ w (some ⟨b, off, none⟩) n f) (hn : 0 < n) : b < w.heap.size := by
  rcases h with h | ⟨b', off', e, h⟩
  · omega
  · simp only [Option.some.injEq, Addr.mk.injEq] at e
    obtain ⟨rfl, rfl, _⟩ := e
    exact World.block_lt_of_cell? w _ (h 0 hn)

theorem SlZ.below {w w' : World} {ao : Option Addr} {n : Nat} {f : Nat → Int} (h : SlZ w ao n f) (hb : Below w.heap.size w w') : SlZ w' ao n f := by
  rcases h with h | ⟨b, off, rfl, h⟩
  · exact .inl h
  · exact .inr ⟨b, off, rfl, fun j hj => (hb.cell (World.block_lt_of_cell? w _ (h j hj))).trans (h j hj)⟩

theorem SlZ.same {w w' : World} {ao : Option Addr} {n : Nat} {f : Nat → Int} (h : SlZ w ao n f) (e : ∀ a, w'.cell? a = w.cell? a) : SlZ w' ao n f := by
  rcases h with h | ⟨b, off, rfl, h⟩
  · exact .inl h
  · exact .inr ⟨b, off, rfl, fun j hj => (e _).trans (h j hj)⟩

/-- What a call behind another one leaves. -/
theorem below_on {w w1 w2 : World} (h : Below w.heap.size w w1) (k : Below w1.heap.size w1 w2) : Below w.heap.size w w2 := h.trans (k.mono h.size)

def intOfZ : Value → Int
  | .int _ i => i
  | _ => 0

/-- Is a number among n of them? -/
def MemZ (f : Nat → Int) (n : Nat) (c : Int) : Prop := ∃ j, j < n ∧ f j = c

/-- Two rows of numbers are the same. -/
def SameZ (n m : Nat) (f g : Nat → Int) : Prop := n = m ∧ ∀ j, j < n → f j = g j

end Go.Proofs.Ytlfilpjiepdejaa

namespace Go.Proofs.Ytlfilpjiepdejaa
open Go.RowKit

/-- The product of the first lengths. -/
def prodZ (f : Nat → Int) : Nat → Int
  | 0 => 1
  | n + 1 => prodZ f n * f n

theorem prodZ_pos {f : Nat → Int} : ∀ n, (∀ j, j < n → 1 ≤ f j) → 1 ≤ prodZ f n
  | 0, _ => by show (1 : Int) ≤ 1; decide
  | n + 1, h => by
    have a := prodZ_pos n fun j hj => h j (by omega)
    have b := h n (by omega)
    show 1 ≤ prodZ f n * f n
    have := Int.mul_le_mul a b (by decide) (by omega)
    omega

theorem prodZ_mono {f : Nat → Int} {m : Nat} : ∀ n, (∀ j, j < n → 1 ≤ f j) → m ≤ n → prodZ f m ≤ prodZ f n
  | 0, _, h => by
    obtain rfl : m = 0 := by omega
    exact Int.le_refl _
  | n + 1, h, hm => by
    by_cases e : m = n + 1
    · subst e; exact Int.le_refl _
    · have a := prodZ_mono (m := m) n (fun j hj => h j (by omega)) (by omega)
      have p := prodZ_pos n fun j hj => h j (by omega)
      have b := h n (by omega)
      show prodZ f m ≤ prodZ f n * f n
      have := Int.mul_le_mul_of_nonneg_left b (show 0 ≤ prodZ f n by omega)
      omega

theorem prodZ_zero {f : Nat → Int} {j : Nat} (hj : f j = 0) : ∀ n, j < n → prodZ f n = 0
  | 0, h => by omega
  | n + 1, h => by
    show prodZ f n * f n = 0
    by_cases e : j = n
    · rw [← e, hj, Int.mul_zero]
    · rw [prodZ_zero hj n (by omega), Int.zero_mul]

theorem prodZ_congr {f g : Nat → Int} : ∀ n, (∀ j, j < n → f j = g j) → prodZ f n = prodZ g n
  | 0, _ => rfl
  | n + 1, h => by
    show prodZ f n * f n = prodZ g n * g n
    rw [prodZ_congr n fun j hj => h j (by omega), h n (by omega)]

/-- How many cells a shape has, or the error (3: Domain, 7: Limit). -/
def CountIs (f : Nat → Int) (n : Nat) (N e : Int) : Prop :=
  (6 < n ∧ N = 0 ∧ e = 7) ∨ (n ≤ 6 ∧ (((∃ j, j < n ∧ f j < 0) ∧ N = 0 ∧ e = 3) ∨ ((∀ j, j < n → 0 ≤ f j) ∧
    (((∃ j, j < n ∧ 2048 < f j) ∧ N = 0 ∧ e = 7) ∨ ((∀ j, j < n → f j ≤ 2048) ∧ ((2048 < prodZ f n ∧ N = 0 ∧ e = 7) ∨ (prodZ f n ≤ 2048 ∧ N = prodZ f n ∧ e = 0)))))))

theorem CountIs.uniq {f g : Nat → Int} {n : Nat} {N M e d : Int} (a : CountIs f n N e) (h : ∀ j, j < n → f j = g j) (b : CountIs g n M d) : N = M ∧ e = d := by
  have hp := prodZ_congr n h
  rcases a with ⟨a1, a2, a3⟩ | ⟨a1, ⟨⟨j, hj, a2⟩, a3, a4⟩ | ⟨a2, ⟨⟨j, hj, a3⟩, a4, a5⟩ | ⟨a3, ⟨a4, a5, a6⟩ | ⟨a4, a5, a6⟩⟩⟩⟩ <;>
  rcases b with ⟨b1, b2, b3⟩ | ⟨b1, ⟨⟨k, hk, b2⟩, b3, b4⟩ | ⟨b2, ⟨⟨k, hk, b3⟩, b4, b5⟩ | ⟨b3, ⟨b4, b5, b6⟩ | ⟨b4, b5, b6⟩⟩⟩⟩ <;>
  first
  | omega
  | (have := b2 j hj; have := h j hj; omega)
  | (have := a2 k hk; have := h k hk; omega)
  | (have := b3 j hj; have := h j hj; omega)
  | (have := a3 k hk; have := h k hk; omega)

/-- A shape of which Count tells no error. -/
structure Shape (f : Nat → Int) (n : Nat) (N : Int) : Prop where
  rank : n ≤ 6
  low : ∀ j, j < n → 0 ≤ f j
  high : ∀ j, j < n → f j ≤ 2048
  all : N = prodZ f n
  most : N ≤ 2048

theorem CountIs.shape {f : Nat → Int} {n : Nat} {N e : Int} (a : CountIs f n N e) (h : e = 0) : Shape f n N := by
  rcases a with ⟨a1, a2, a3⟩ | ⟨a1, ⟨⟨j, hj, a2⟩, a3, a4⟩ | ⟨a2, ⟨⟨j, hj, a3⟩, a4, a5⟩ | ⟨a3, ⟨a4, a5, a6⟩ | ⟨a4, a5, a6⟩⟩⟩⟩
  any_goals omega
  exact ⟨a1, a2, a3, a5, by omega⟩

theorem CountIs.none {f : Nat → Int} {n : Nat} {N e : Int} (a : CountIs f n N e) (h : e ≠ 0) : N = 0 ∧ (e = 3 ∨ e = 7) ∧ ∀ M, ¬ Shape f n M := by
  rcases a with ⟨a1, a2, a3⟩ | ⟨a1, ⟨⟨j, hj, a2⟩, a3, a4⟩ | ⟨a2, ⟨⟨j, hj, a3⟩, a4, a5⟩ | ⟨a3, ⟨a4, a5, a6⟩ | ⟨a4, a5, a6⟩⟩⟩⟩
  · exact ⟨a2, .inr a3, fun M k => by have := k.rank; omega⟩
  · exact ⟨a3, .inl a4, fun M k => by have := k.low j hj; omega⟩
  · exact ⟨a4, .inr a5, fun M k => by have := k.high j hj; omega⟩
  · exact ⟨a5, .inr a6, fun M k => by have := k.all; have := k.most; omega⟩
  · exact absurd a6 h

theorem Shape.countIs {f : Nat → Int} {n : Nat} {N : Int} (a : Shape f n N) : CountIs f n N 0 :=
  .inr ⟨a.rank, .inr ⟨a.low, .inr ⟨a.high, .inr ⟨by have := a.all; have := a.most; omega, a.all, rfl⟩⟩⟩⟩

set_option maxRecDepth 20000 in
set_option maxHeartbeats 1000000 in
theorem ints7_any (ao bo : Option Addr) (n nc m mc : Nat) (f g : Nat → Int) (w : World) (hn : n ≤ 9223372036854775807) (hf : SlZ w ao n f) (hg : SlZ w bo m g) :
    Calls Try.prog 27 #[.slice ao n nc, .slice bo m mc] w fun e w' => (e = .returned (.bool true) ∧ SameZ n m f g ∨ e = .returned (.bool false) ∧ ¬ SameZ n m f g) ∧ Below w.heap.size w w' := by
  by_cases hnm : n = m
  · subst hnm
    go_enter Try.func27, Try.ntmps27
    go_wp2_with fail
    go_loopw [5] (fun i wr => ∃ j : Nat, j ≤ n ∧ i = .int .i64 j ∧ Hid (∀ t, t < j → f t = g t) ∧ ∃ q, wr = w.drewN q) (fun i _ => n - (intOfZ i).toNat)
    case atStart => exact ⟨0, Nat.zero_le _, rfl, Lib.hid fun t h => by omega, 0, rfl⟩
    case round =>
      obtain ⟨j, hj, rfl, hd, q, rfl⟩ := hrel
      by_cases hlt : j < n
      · rcases hf with h | ⟨b, off, rfl, hc⟩
        · omega
        rcases hg with h | ⟨b', off', rfl, hc'⟩
        · omega
        have c1 := hc j hlt
        have c2 := hc' j hlt
        clear hc hc'
        have i0 : (0 : Int) ≤ (j : Int) := by omega
        have i1 : (j : Int) < (n : Int) := by omega
        by_cases he : f j = g j
        · have heb : (f j != g j) = false := by rw [bne_eq_false_iff_eq]; exact he
          have he' := Lib.hid he
          clear he
          go_wp2_with fail
          go_quiet (fail)
          go_wp2_with fail
          go_roundw
          case rel =>
            refine ⟨j + 1, by omega, by go_num, Lib.hid fun t ht => ?_, _, rfl⟩
            by_cases e : t = j
            · rw [e]; exact he'.out
            · exact hd.out t (by omega)
          case measure => simp [intOfZ]; omega
        · have heb : (f j != g j) = true := by rw [bne_iff_ne]; exact he
          have he' := Lib.hid he
          clear he
          go_wp2_with fail
          go_quiet (fail)
          go_wp2_with fail
          go_ret
          exact ⟨.inr ⟨rfl, fun ⟨_, h⟩ => he'.out (h j hlt)⟩, below_drewN (below_drewN (Below.refl _ _) _) _⟩
      · obtain rfl : j = n := by omega
        go_wp2_with fail
        go_ret
        exact ⟨.inl ⟨rfl, rfl, hd.out⟩, below_drewN (Below.refl _ _) _⟩
  · have hnb : ((n : Int) != (m : Int)) = true := by rw [bne_iff_ne]; omega
    have hnm' := Lib.hid hnm
    have hnp : ¬ ((n : Int) = (m : Int)) := by omega
    clear hnm
    go_enter Try.func27, Try.ntmps27
    go_wp2_with fail
    go_ret
    exact ⟨.inr ⟨rfl, fun ⟨h, _⟩ => hnm'.out h⟩, Below.refl _ _⟩

end Go.Proofs.Ytlfilpjiepdejaa

namespace Go.Proofs.Ytlfilpjiepdejaa
open Go.RowKit

theorem slz_new (w : World) (L : List Int) (t : TypeId) (vs : Array Value) (h : vs = (L.map (Value.int .i64)).toArray) : SlZ (w.alloc (.cells vs t)) (some ⟨w.heap.size, 0, none⟩) L.length (fun j => L.getD j 0) := by
  subst h
  refine .inr ⟨w.heap.size, 0, rfl, fun j hj => ?_⟩
  rw [Nat.zero_add, World.cell?_alloc_new]
  simp [hj]

theorem owns_later {w w' : World} {base size n : Nat} {e : TypeId} {v : Value} {xs : List Value} (h : w.ownsRow base e size v n xs) (hb : Below w.heap.size w w') : w'.ownsRow base e size v n xs :=
  h.kept (row := none) ⟨hb.os, hb.tape, hb.output, hb.size, fun k hk _ => hb.block k hk⟩ (Classical.em _)

def intCells (f : Nat → Int) (n : Nat) : List Value := (List.range n).map fun j => Value.int .i64 (f j)

theorem intCells_length (f : Nat → Int) (n : Nat) : (intCells f n).length = n := by simp [intCells]

theorem intCells_get (f : Nat → Int) (n j : Nat) (h : j < n) : (intCells f n)[j]? = some (.int .i64 (f j)) := by simp [intCells, h]

def putZ (f : Nat → Int) (i : Nat) (x : Int) (j : Nat) : Int := if j = i then x else f j

theorem intCells_snoc (f : Nat → Int) (j : Nat) (x : Int) : intCells f j ++ [Value.int .i64 x] = intCells (putZ f j x) (j + 1) := by
  unfold intCells
  rw [List.range_succ, List.map_append]
  congr 1
  · refine List.map_congr_left fun t ht => ?_
    have := List.mem_range.1 ht
    unfold putZ
    rw [if_neg (by omega)]
  · simp [putZ]

theorem owns_ints {w : World} {base n : Nat} {t : TypeId} {v : Value} {f : Nat → Int} (h : w.ownsRow base t 1 v n (intCells f n)) : ∃ ao cap, v = .slice ao n cap ∧ n ≤ cap ∧ cap ≤ 9223372036854775807 ∧ SlZ w ao n f := by
  rcases h.2 with ⟨rfl, rfl⟩ | ⟨g, cap, cur, hv, hb, hg, hnc, hcm, hcs, ht⟩
  · exact ⟨none, 0, rfl, Nat.le_refl _, by omega, .inl rfl⟩
  · subst hv
    exact ⟨_, cap, rfl, hnc, by unfold maxLen at hcm; omega, .inr ⟨g, 0, rfl, fun j hj => by rw [Nat.zero_add, h.cellAt j (by omega), intCells_get f n j hj]⟩⟩

theorem info64 : (Try.prog.info? 3).map (fun i => (i.zero, i.size, i.bytes)) = some (some (.int .i64 0), 1, 8) := by kernel_rfl

theorem newz_at (w : World) (v : Value) (t : TypeId) : ∀ j u, [v][j]? = some u → (w.alloc (.cells #[v] t)).cell? ((⟨w.heap.size, 0, none⟩ : Addr).add j) = some u := by
  intro j u h
  match j, h with
  | 0, h =>
    simp at h
    subst h
    simp [Addr.add]
  | _ + 1, h => simp at h

/-- A world, told anew by what holds of it. -/
theorem told_wp {P : Program} {c : Code} {Q : Exit → Act → World → Prop} {a : Act} {W : World} (R : World → Prop) (hW : R W) (h : ∀ w', R w' → Code.wp P c Q a w') : Code.wp P c Q a W := h W hW

theorem told_calls {P : Program} {f : FuncId} {args : Array Value} {Q : Ending → World → Prop} {W : World} (R : World → Prop) (hW : R W) (h : ∀ w', R w' → Calls P f args w' Q) : Calls P f args W Q := h W hW

theorem slz_one (w : World) (t : TypeId) (x : Int) : SlZ (w.alloc (.cells #[.int .i64 x] t)) (some ⟨w.heap.size, 0, none⟩) 1 (fun _ => x) := by
  refine .inr ⟨w.heap.size, 0, rfl, fun j hj => ?_⟩
  obtain rfl : j = 0 := by omega
  rw [Nat.zero_add, World.cell?_alloc_new]
  rfl

/-- It answers v, and what lay there lies as it did. -/
def Tell (v : Value) (w : World) (e : Ending) (w' : World) : Prop := e = .returned v ∧ Below w.heap.size w w'

end Go.Proofs.Ytlfilpjiepdejaa

namespace Go.Proofs.Ytlfilpjiepdejaa
open Go.RowKit

/-- The cell that stands at the first numbers of a place. -/
def cellZ (f g : Nat → Int) : Nat → Int
  | 0 => 0
  | n + 1 => cellZ f g n * f n + g n

/-- Each number is one of its axis'. -/
def Fits (f g : Nat → Int) (n : Nat) : Prop := ∀ j, j < n → 0 ≤ g j ∧ g j < f j

/-- g is the place of the cell c. -/
def PlaceIs (f g : Nat → Int) (n : Nat) (c : Int) : Prop := Fits f g n ∧ cellZ f g n = c

theorem Fits.mono {f g : Nat → Int} {n m : Nat} (h : Fits f g n) (hm : m ≤ n) : Fits f g m := fun j hj => h j (by omega)

theorem cellZ_congr {f g k : Nat → Int} : ∀ n, (∀ j, j < n → g j = k j) → cellZ f g n = cellZ f k n
  | 0, _ => rfl
  | n + 1, h => by
    show cellZ f g n * f n + g n = cellZ f k n * f n + k n
    rw [cellZ_congr n fun j hj => h j (by omega), h n (by omega)]

theorem cellZ_bound {f g : Nat → Int} : ∀ n, Fits f g n → 0 ≤ cellZ f g n ∧ cellZ f g n < prodZ f n
  | 0, _ => by show (0 : Int) ≤ 0 ∧ (0 : Int) < 1; decide
  | n + 1, h => by
    obtain ⟨a, b⟩ := cellZ_bound n (h.mono (by omega))
    obtain ⟨c, d⟩ := h n (by omega)
    show 0 ≤ cellZ f g n * f n + g n ∧ cellZ f g n * f n + g n < prodZ f n * f n
    have e1 : 0 ≤ cellZ f g n * f n := Int.mul_nonneg a (by omega)
    have e2 : (cellZ f g n + 1) * f n ≤ prodZ f n * f n := Int.mul_le_mul_of_nonneg_right (by omega) (by omega)
    rw [Int.add_mul, Int.one_mul] at e2
    omega

theorem mul_uniq {a b x y s : Int} (h : a * s + x = b * s + y) (hx0 : 0 ≤ x) (hx : x < s) (hy0 : 0 ≤ y) (hy : y < s) : a = b ∧ x = y := by
  have e : a = b := by
    refine Int.le_antisymm (Int.not_lt.1 fun k => ?_) (Int.not_lt.1 fun k => ?_)
    · have := Int.mul_le_mul_of_nonneg_right (show b + 1 ≤ a by omega) (show 0 ≤ s by omega)
      rw [Int.add_mul, Int.one_mul] at this
      omega
    · have := Int.mul_le_mul_of_nonneg_right (show a + 1 ≤ b by omega) (show 0 ≤ s by omega)
      rw [Int.add_mul, Int.one_mul] at this
      omega
  subst e
  exact ⟨rfl, by omega⟩

/-- Each cell has one place. -/
theorem place_uniq {f g k : Nat → Int} : ∀ n, Fits f g n → Fits f k n → cellZ f g n = cellZ f k n → ∀ j, j < n → g j = k j
  | 0, _, _, _, j, hj => by omega
  | n + 1, a, b, h, j, hj => by
    obtain ⟨a0, a1⟩ := a n (by omega)
    obtain ⟨b0, b1⟩ := b n (by omega)
    obtain ⟨e1, e2⟩ := mul_uniq h a0 a1 b0 b1
    by_cases e : j = n
    · rw [e]; exact e2
    · exact place_uniq n (a.mono (by omega)) (b.mono (by omega)) e1 j (by omega)

/-- The product of k lengths from i on. -/
def tailZ (f : Nat → Int) (i : Nat) : Nat → Int
  | 0 => 1
  | k + 1 => tailZ f i k * f (i + k)

theorem tail_front (f : Nat → Int) (i : Nat) : ∀ k, tailZ f i (k + 1) = f i * tailZ f (i + 1) k
  | 0 => by show 1 * f (i + 0) = f i * 1; rw [Int.one_mul, Int.mul_one]; rfl
  | k + 1 => by
    show tailZ f i (k + 1) * f (i + (k + 1)) = f i * (tailZ f (i + 1) k * f (i + 1 + k))
    rw [tail_front f i k, Int.mul_assoc, show i + (k + 1) = i + 1 + k by omega]

theorem prod_tail (f : Nat → Int) (i : Nat) : ∀ k, prodZ f (i + k) = prodZ f i * tailZ f i k
  | 0 => (Int.mul_one _).symm
  | k + 1 => by
    show prodZ f (i + k) * f (i + k) = prodZ f i * (tailZ f i k * f (i + k))
    rw [prod_tail f i k, Int.mul_assoc]

/-- Zeros behind: the cell is that of the first numbers times the product of the lengths behind. -/
theorem cellZ_zeros {f g : Nat → Int} {i : Nat} : ∀ k, (∀ t, t < k → g (i + t) = 0) → cellZ f g (i + k) = cellZ f g i * tailZ f i k
  | 0, _ => (Int.mul_one _).symm
  | k + 1, h => by
    show cellZ f g (i + k) * f (i + k) + g (i + k) = cellZ f g i * (tailZ f i k * f (i + k))
    rw [cellZ_zeros k fun t ht => h t (by omega), h k (by omega), Int.add_zero, Int.mul_assoc]

/-- Where the next place stands: the axes from i on are at their ends, and read as zeros already. -/
def Carried (f g h : Nat → Int) (n i : Nat) (c : Int) : Prop :=
  i ≤ n ∧ (∀ j, j < i → h j = g j) ∧ (∀ j, i ≤ j → j < n → h j = 0) ∧ c + 1 = (cellZ f g i + 1) * tailZ f i (n - i)

theorem carried_start {f g h : Nat → Int} {n : Nat} {c : Int} (a : PlaceIs f g n c) (e : ∀ j, j < n → h j = g j) : Carried f g h n n c :=
  ⟨Nat.le_refl _, e, fun j h1 h2 => by omega, by rw [Nat.sub_self]; show c + 1 = (cellZ f g n + 1) * 1; rw [a.2, Int.mul_one]⟩

/-- One axis further: this one is at its end, too. -/
theorem carried_step {f g h : Nat → Int} {n i : Nat} {c : Int} (a : Carried f g h n (i + 1) c) (e : g i + 1 = f i) : Carried f g (putZ h i 0) n i c := by
  obtain ⟨h1, h2, h3, h4⟩ := a
  refine ⟨by omega, fun j hj => ?_, fun j hj hj2 => ?_, ?_⟩
  · unfold putZ; rw [if_neg (by omega)]; exact h2 j (by omega)
  · unfold putZ
    by_cases k : j = i
    · rw [if_pos k]
    · rw [if_neg k]; exact h3 j (by omega) hj2
  · rw [h4, show n - i = (n - (i + 1)) + 1 by omega, tail_front, ← Int.mul_assoc]
    congr 1
    show cellZ f g i * f i + g i + 1 = (cellZ f g i + 1) * f i
    rw [Int.add_mul, Int.one_mul]
    omega

/-- It ends here: the place behind is told. -/
theorem carried_done {f g h : Nat → Int} {n i : Nat} {c : Int} (p : PlaceIs f g n c) (a : Carried f g h n (i + 1) c) (lt : g i + 1 < f i) : PlaceIs f (putZ h i (g i + 1)) n (c + 1) := by
  obtain ⟨h1, h2, h3, h4⟩ := a
  have hk : ∀ j, j < i → putZ h i (g i + 1) j = g j := fun j hj => by unfold putZ; rw [if_neg (by omega)]; exact h2 j (by omega)
  have hi : putZ h i (g i + 1) i = g i + 1 := by unfold putZ; rw [if_pos rfl]
  have hz : ∀ j, i + 1 ≤ j → j < n → putZ h i (g i + 1) j = 0 := fun j hj hj2 => by unfold putZ; rw [if_neg (by omega)]; exact h3 j hj hj2
  refine ⟨fun j hj => ?_, ?_⟩
  · have := p.1 j hj
    by_cases e : j < i
    · rw [hk j e]; exact this
    · by_cases e2 : j = i
      · subst e2; rw [hi]; omega
      · rw [hz j (by omega) hj]; omega
  · have e1 : n = (i + 1) + (n - (i + 1)) := by omega
    rw [e1, cellZ_zeros (n - (i + 1)) fun t ht => hz _ (by omega) (by omega), h4]
    congr 1
    show cellZ f (putZ h i (g i + 1)) i * f i + putZ h i (g i + 1) i = cellZ f g i * f i + g i + 1
    rw [hi, cellZ_congr i hk]
    omega

/-- It ended at no axis: the place was the last one. -/
theorem carried_last {f g h : Nat → Int} {n : Nat} {c : Int} (a : Carried f g h n 0 c) : c + 1 = prodZ f n := by
  have e := prod_tail f 0 n
  have h4 := a.2.2.2
  rw [Nat.sub_zero] at h4
  rw [Nat.zero_add] at e
  rw [h4, e]
  rfl

/-- No numbers but zeros: the first cell's place. -/
theorem place_zero {f : Nat → Int} {n : Nat} (h : ∀ j, j < n → 0 < f j) : PlaceIs f (fun _ => 0) n 0 := by
  refine ⟨fun j hj => ⟨Int.le_refl _, h j hj⟩, ?_⟩
  have e := cellZ_zeros (f := f) (g := fun _ => 0) (i := 0) n fun _ _ => rfl
  rw [Nat.zero_add] at e
  rw [e]
  exact Int.zero_mul _

end Go.Proofs.Ytlfilpjiepdejaa

namespace Go.Proofs.Ytlfilpjiepdejaa
open Go.RowKit

theorem own_base {w : World} {B C size n : Nat} {e : TypeId} {v : Value} {xs : List Value} (h : w.ownsRow B e size v n xs) (hC : C ≤ B) : w.ownsRow C e size v n xs := by
  refine ⟨h.1, ?_⟩
  rcases h.2 with h0 | ⟨g, cap, cur, hv, hb, rest⟩
  · exact .inl h0
  · exact .inr ⟨g, cap, cur, hv, by omega, rest⟩

theorem own_slz {w : World} {B n cap : Nat} {t : TypeId} {ao : Option Addr} {f : Nat → Int} (h : w.ownsRow B t 1 (.slice ao n cap) n (intCells f n)) : n ≤ cap ∧ cap ≤ 9223372036854775807 ∧ SlZ w ao n f := by
  obtain ⟨a, c, e, h1, h2, h3⟩ := owns_ints h
  cases e
  exact ⟨h1, h2, h3⟩

theorem own_some {w : World} {B n : Nat} {t : TypeId} {v : Value} {f : Nat → Int} (h : w.ownsRow B t 1 v n (intCells f n)) (hn : 0 < n) : ∃ g cap, v = .slice (some ⟨g, 0, none⟩) n cap ∧ n ≤ cap ∧ cap ≤ 9223372036854775807 ∧ B ≤ g := by
  rcases h.2 with ⟨_, hn0⟩ | ⟨g, cap, cur, hv, hb, hg, hnc, hcm, hcs, ht⟩
  · omega
  · exact ⟨g, cap, hv, hnc, by unfold maxLen at hcm; omega, hb⟩

theorem intCells_congr {f g : Nat → Int} {n : Nat} (h : ∀ j, j < n → f j = g j) : intCells f n = intCells g n :=
  List.map_congr_left fun j hj => by rw [h j (List.mem_range.1 hj)]

theorem intCells_put (f : Nat → Int) (n i : Nat) (x : Int) : (intCells f n).set i (.int .i64 x) = intCells (putZ f i x) n := by
  refine List.ext_getElem? fun j => ?_
  rw [List.getElem?_set]
  by_cases hj : j < n
  · rw [intCells_get _ _ _ hj, intCells_get _ _ _ hj]
    unfold putZ
    by_cases e : i = j
    · subst e; simp [intCells_length, hj]
    · rw [if_neg e, if_neg fun k => e k.symm]
  · have h1 : (intCells f n)[j]? = none := List.getElem?_eq_none (by rw [intCells_length]; omega)
    have h2 : (intCells (putZ f i x) n)[j]? = none := List.getElem?_eq_none (by rw [intCells_length]; omega)
    rw [h1, h2]
    by_cases e : i = j
    · subst e; simp [intCells_length, hj]
    · simp [e]

/-- m numbers behind n others. -/
def joinZ (F : Nat → Int) (n : Nat) (f : Nat → Int) (j : Nat) : Int := if j < n then F j else f (j - n)

theorem intCells_join (F f : Nat → Int) (n m : Nat) : intCells F n ++ intCells f m = intCells (joinZ F n f) (n + m) := by
  unfold intCells
  rw [List.range_add, List.map_append, List.map_map]
  congr 1
  · refine List.map_congr_left fun t ht => ?_
    have := List.mem_range.1 ht
    unfold joinZ
    rw [if_pos this]
  · refine List.map_congr_left fun t _ => ?_
    show Value.int .i64 (f t) = Value.int .i64 (joinZ F n f (n + t))
    unfold joinZ
    rw [if_neg (by omega), Nat.add_sub_cancel_left]

theorem run_append_ints {P : Program} {w : World} (base : Nat) (t ty e : TypeId) (i : TypeInfo) (bytes : Nat) (ht : P.underlying t = some (.slice e)) (hi : P.info? e = some i) (hz : i.zero = some (.int .i64 0)) (hsize : i.size = 1) (hby : i.bytes = bytes)
    (v : Value) (n : Nat) (F : Nat → Int) (hown : w.ownsRow base e 1 v n (intCells F n)) (ao : Option Addr) (m c : Nat) (f : Nat → Int) (hf : SlZ w ao m f) (h63 : n + m ≤ maxLen) (hbytes : (n + m) * bytes ≤ 140737488355328) (hbase : base ≤ w.heap.size) :
    ∃ v' w', (Builtin.append_ #[t, t] ty #[v, .slice ao m c]).run P w = .ok v' w' ∧ w'.ownsRow base e 1 v' (n + m) (intCells (joinZ F n f) (n + m)) ∧ w.grownBy w' v.ownBlock := by
  cases ao with
  | some a =>
    have hnews : ∀ j u, (intCells f m)[j]? = some u → w.cell? (a.add j) = some u := by
      intro j u hu
      have hj : j < m := by
        have := (List.getElem?_eq_some_iff.1 hu).1
        rwa [intCells_length] at this
      rw [intCells_get f m j hj] at hu
      rcases hf with h | ⟨b, off, e1, hc⟩
      · omega
      · cases e1
        rw [← hu, ← hc j hj, Addr.add_lit]
    obtain ⟨v', w', hr, h1, h2, _⟩ := run_append_own (P := P) w base t ty e i (.int .i64 0) 1 bytes ht hi hz hsize hby rfl (by decide) v n (intCells F n) hown a m c (intCells f m) (by rw [intCells_length, Nat.mul_one]) hnews (by intro u hu; obtain ⟨x, _, rfl⟩ := List.mem_map.1 hu; rfl) h63 hbytes hbase
    rw [intCells_join] at h1
    exact ⟨v', w', hr, h1, h2⟩
  | none =>
    have hm : m = 0 := by
      rcases hf with h | ⟨b, off, e1, hc⟩
      · exact h
      · cases e1
    subst hm
    refine ⟨v, w, ?_, ?_, ⟨rfl, rfl, rfl, Nat.le_refl _, fun _ _ _ => rfl⟩⟩
    · rcases hown.2 with ⟨rfl, rfl⟩ | ⟨g, cap, cur, rfl, _, _, hnc, _⟩
      · simp [Builtin.append_, run_underlying ht, sizeOf, typeInfo, hi, Builtin.lenOf, Builtin.firstCells]
      · simp [Builtin.append_, run_underlying ht, sizeOf, typeInfo, hi, Builtin.lenOf, Builtin.firstCells, hnc, storeCells]
    · rw [← intCells_join]
      simpa [intCells] using hown

theorem wpList_append_ints {P : Program} {w : World} {ops : Array Oper} {rest : List Oper} {o : Oper} {a : Act} {Q : Exit → Act → World → Prop} (hgd : o.guard = none) (s x : Operand) (t : TypeId)
    (ho : o.op = .call { callee := .builtin .append, args := #[s, x], argTypes := #[t, t] })
    (base : Nat) (e : TypeId) (i : TypeInfo) (bytes : Nat) (ht : P.underlying t = some (.slice e)) (hi : P.info? e = some i) (hz : i.zero = some (.int .i64 0)) (hsize : i.size = 1) (hby : i.bytes = bytes)
    (v : Value) (n : Nat) (F : Nat → Int) (hs : a.eval s = v) (hown : w.ownsRow base e 1 v n (intCells F n)) (ao : Option Addr) (m c : Nat) (f : Nat → Int) (hx : a.eval x = .slice ao m c) (hf : SlZ w ao m f)
    (h63 : n + m ≤ maxLen) (hbytes : (n + m) * bytes ≤ 140737488355328) (hbase : base ≤ w.heap.size)
    (h : ∀ v' w', w'.ownsRow base e 1 v' (n + m) (intCells (joinZ F n f) (n + m)) → w.grownBy w' v.ownBlock → wpList P ops Q rest (a.put o.dst v') w') : wpList P ops Q (o :: rest) a w := by
  refine wpList_plain hgd fun K hK => ?_
  obtain ⟨v', w', hr, h2, h3⟩ := run_append_ints (P := P) base t o.type e i bytes ht hi hz hsize hby v n F hown ao m c f hf h63 hbytes hbase
  unfold Oper.wp execOp
  simp only [ho, resolve, invoke, builtin, Sem.run_bind, Sem.run_pure, Result.andThen_ok, List.map_toArray, List.map_cons, List.map_nil, hs, hx, hr]
  exact hK _ _ (h v' w' h2 h3)

/-- A row of ints that a call has made. -/
def MadeZ (n : Nat) (R : (Nat → Int) → Prop) (w : World) (e : Ending) (w' : World) : Prop :=
  ∃ v h, e = .returned v ∧ w'.ownsRow w.heap.size 3 1 v n (intCells h n) ∧ Below w.heap.size w w' ∧ R h

end Go.Proofs.Ytlfilpjiepdejaa

namespace Go.Proofs.Ytlfilpjiepdejaa
open Go.RowKit Num

/-- A number's fields: its sign, its limbs above and below the stroke. -/
structure NumF where
  neg : Bool
  an : Nat
  fa : Nat → Nat
  am : Nat
  ga : Nat → Nat

/-- An array (a leaf is none): the label S, n lengths sh, m cells; of the i-th cell its label L, its kind K, its character C, its number N, and the k arrays in it. -/
inductive Tree where
  | leaf
  | arr (S : Nat) (n : Nat) (sh : Nat → Int) (m : Nat) (L : Nat → Nat) (K C : Nat → Int) (N : Nat → NumF) (k : Nat → Nat) (sub : Nat → Nat → Tree)

/-- A label. -/
def IsL (x : Nat) : Prop := x < 18446744073709551616

/-- An int. -/
def IsZ (x : Int) : Prop := -9223372036854775808 ≤ x ∧ x ≤ 9223372036854775807

/-- A length and a capacity as they come. -/
def IsN (n nc : Nat) : Prop := n ≤ nc ∧ nc ≤ 9223372036854775807 ∧ n ≤ 140737488355328

/-- A number's three cells. -/
def NumP (w : World) (N : NumF) (c0 c1 c2 : Value) : Prop :=
  c0 = .bool N.neg ∧ (∃ ao ac, c1 = .slice ao N.an ac ∧ IsN N.an ac ∧ Sl w ao N.an N.fa ∧ Lim N.fa N.an) ∧ (∃ bo bc, c2 = .slice bo N.am bc ∧ IsN N.am bc ∧ Sl w bo N.am N.ga ∧ Lim N.ga N.am)

/-- k arrays behind an address: R tells which. -/
def RowP (w : World) (ao : Option Addr) (k : Nat) (R : Nat → Value → Value → Value → Prop) : Prop :=
  k = 0 ∨ ∃ b o, ao = some ⟨b, o, none⟩ ∧ ∀ j, j < k → ∃ d0 d1 d2, w.cell? ⟨b, o + j * 3, none⟩ = some d0 ∧ w.cell? ⟨b, o + j * 3 + 1, none⟩ = some d1 ∧ w.cell? ⟨b, o + j * 3 + 2, none⟩ = some d2 ∧ R j d0 d1 d2

/-- A cell's seven cells of memory. -/
def CellP (w : World) (L : Nat) (K : Int) (N : NumF) (C : Int) (k : Nat) (R : Nat → Value → Value → Value → Prop) (e : Nat → Value) : Prop :=
  e 0 = .int .u64 L ∧ IsL L ∧ e 1 = .int .i64 K ∧ IsZ K ∧ NumP w N (e 2) (e 3) (e 4) ∧ e 5 = .int .i64 C ∧ IsZ C ∧ ∃ ao kc, e 6 = .slice ao k kc ∧ IsN k kc ∧ RowP w ao k R

/-- An array's three cells. -/
def ArrP (w : World) : Tree → Value → Value → Value → Prop
  | .leaf, _, _, _ => False
  | .arr S n sh m L K C N k sub, c0, c1, c2 =>
    c0 = .int .u64 S ∧ IsL S ∧ (∃ ao nc, c1 = .slice ao n nc ∧ IsN n nc ∧ SlZ w ao n sh ∧ ∀ j, j < n → IsZ (sh j)) ∧
    ∃ co mc, c2 = .slice co m mc ∧ IsN m mc ∧ (m = 0 ∨ ∃ b o, co = some ⟨b, o, none⟩ ∧ ∀ i, i < m → ∃ e : Nat → Value, (∀ t, t < 7 → w.cell? ⟨b, o + i * 7 + t, none⟩ = some (e t)) ∧
      CellP w (L i) (K i) (N i) (C i) (k i) (fun j d0 d1 d2 => ArrP w (sub i j) d0 d1 d2) e)

theorem ArrP.leaf {w : World} {c0 c1 c2 : Value} (h : ArrP w .leaf c0 c1 c2) : False := h

theorem NumP.below {w w' : World} {N : NumF} {c0 c1 c2 : Value} (h : NumP w N c0 c1 c2) (hb : Below w.heap.size w w') : NumP w' N c0 c1 c2 := by
  obtain ⟨h0, ⟨ao, ac, h1, h2, h3, h4⟩, ⟨bo, bc, k1, k2, k3, k4⟩⟩ := h
  exact ⟨h0, ⟨ao, ac, h1, h2, h3.below hb, h4⟩, ⟨bo, bc, k1, k2, k3.below hb, k4⟩⟩

theorem cell_below {w w' : World} {a : Addr} {v : Value} (h : w.cell? a = some v) (hb : Below w.heap.size w w') : w'.cell? a = some v := (hb.cell (World.block_lt_of_cell? w _ h)).trans h

theorem RowP.below {w w' : World} {ao : Option Addr} {k : Nat} {R Q : Nat → Value → Value → Value → Prop} (h : RowP w ao k R) (hb : Below w.heap.size w w') (hR : ∀ j d0 d1 d2, j < k → R j d0 d1 d2 → Q j d0 d1 d2) : RowP w' ao k Q := by
  rcases h with h | ⟨b, o, rfl, h⟩
  · exact .inl h
  · refine .inr ⟨b, o, rfl, fun j hj => ?_⟩
    obtain ⟨d0, d1, d2, h0, h1, h2, h3⟩ := h j hj
    exact ⟨d0, d1, d2, cell_below h0 hb, cell_below h1 hb, cell_below h2 hb, hR j d0 d1 d2 hj h3⟩

theorem CellP.below {w w' : World} {L : Nat} {K : Int} {N : NumF} {C : Int} {k : Nat} {R Q : Nat → Value → Value → Value → Prop} {e : Nat → Value} (h : CellP w L K N C k R e) (hb : Below w.heap.size w w') (hR : ∀ j d0 d1 d2, j < k → R j d0 d1 d2 → Q j d0 d1 d2) : CellP w' L K N C k Q e := by
  obtain ⟨h0, h1, h2, h3, h4, h5, h6, ao, kc, h7, h8, h9⟩ := h
  exact ⟨h0, h1, h2, h3, h4.below hb, h5, h6, ao, kc, h7, h8, h9.below hb hR⟩

theorem ArrP.below {w w' : World} : ∀ (A : Tree) (c0 c1 c2 : Value), ArrP w A c0 c1 c2 → Below w.heap.size w w' → ArrP w' A c0 c1 c2 := by
  intro A
  induction A with
  | leaf => intros; exact (ArrP.leaf ‹ArrP _ Tree.leaf _ _ _›).elim
  | arr S n sh m L K C N k sub ih =>
    intro c0 c1 c2 h hb
    obtain ⟨h0, h1, ⟨ao, nc, h2, h3, h4, h5⟩, co, mc, h6, h7, h8⟩ := h
    refine ⟨h0, h1, ⟨ao, nc, h2, h3, h4.below hb, h5⟩, co, mc, h6, h7, ?_⟩
    rcases h8 with h8 | ⟨b, o, rfl, h8⟩
    · exact .inl h8
    · refine .inr ⟨b, o, rfl, fun i hi => ?_⟩
      obtain ⟨e, h9, h10⟩ := h8 i hi
      exact ⟨e, fun t ht => cell_below (h9 t ht) hb, h10.below hb fun j d0 d1 d2 _ hd => ih i j d0 d1 d2 hd hb⟩

end Go.Proofs.Ytlfilpjiepdejaa

namespace Go.Proofs.Ytlfilpjiepdejaa
open Go.RowKit

set_option maxRecDepth 20000 in
set_option maxHeartbeats 2000000 in
theorem bit01_any (i : Nat) (hi : i < 64) (w : World) : Calls Try.prog 35 #[.int .i64 i] w fun e w' => e = .returned (.int .u64 ((2 ^ i : Nat) : Int)) ∧ w = w' := by
  go_enter Try.func35, Try.ntmps35
  go_wp2_with fail
  go_loopw [3, 4] (fun m j wr => ∃ k : Nat, k ≤ i ∧ j = .int .i64 k ∧ m = .int .u64 ((2 ^ k : Nat) : Int) ∧ wr = w) (fun _ j _ => i - (intOfZ j).toNat)
  case atStart => exact ⟨0, Nat.zero_le _, rfl, rfl, rfl⟩
  case round =>
    obtain ⟨k, hk, rfl, rfl, rfl⟩ := hrel
    obtain ⟨x, hx⟩ : ∃ x, x = 2 ^ k := ⟨_, rfl⟩
    by_cases hlt : k < i
    · have hx2 : x ≤ 2 ^ 62 := by rw [hx]; exact Nat.pow_le_pow_right (by decide) (by omega)
      have hx3 : x ≤ 4611686018427387904 := hx2
      have hn := Lib.hid (show 2 ^ (k + 1) = x * 2 by rw [Nat.pow_succ, hx])
      rw [← hx]
      clear hx hx2
      go_wp2_with fail
      go_roundw
      case rel => exact ⟨k + 1, by omega, by go_num, by rw [hn.out]; go_num, by trivial⟩
      case measure => simp [intOfZ]; omega
    · obtain rfl : k = i := by omega
      go_wp2_with fail
      go_ret
      exact ⟨rfl, rfl⟩

/-- Has a label a tag? -/
def hasL (l i : Nat) : Bool := l / 2 ^ i % 2 == 1

set_option maxRecDepth 20000 in
set_option maxHeartbeats 2000000 in
theorem has01_any (l i : Nat) (hl : IsL l) (hi : i < 64) (w : World) : Calls Try.prog 34 #[.int .u64 l, .int .i64 i] w fun e w' => e = .returned (.bool (hasL l i)) ∧ w = w' := by
  have hl' : l < 18446744073709551616 := hl
  go_enter Try.func34, Try.ntmps34
  go_wp2_with fail
  go_loopw [0, 5] (fun m j wr => ∃ k : Nat, k ≤ i ∧ j = .int .i64 k ∧ m = .int .u64 ((l / 2 ^ k : Nat) : Int) ∧ wr = w) (fun _ j _ => i - (intOfZ j).toNat)
  case atStart => exact ⟨0, Nat.zero_le _, rfl, by rw [Nat.pow_zero, Nat.div_one], rfl⟩
  case round =>
    obtain ⟨k, hk, rfl, rfl, rfl⟩ := hrel
    have hx2 : l / 2 ^ k ≤ l := Nat.div_le_self _ _
    obtain ⟨x, hx⟩ : ∃ x, x = l / 2 ^ k := ⟨_, rfl⟩
    have hn := Lib.hid (show l / 2 ^ (k + 1) = x / 2 by rw [Nat.pow_succ, ← Nat.div_div_eq_div_mul, hx])
    have hx' := Lib.hid hx
    rw [← hx] at hx2 ⊢
    clear hx
    by_cases hlt : k < i
    · go_wp2_with fail
      go_roundw
      case rel => exact ⟨k + 1, by omega, by go_num, by rw [hn.out]; go_num, by trivial⟩
      case measure => simp [intOfZ]; omega
    · obtain rfl : k = i := by omega
      have he := Lib.hid (show hasL l k = (x % 2 == 1) by unfold hasL; rw [← hx'.out])
      go_wp2_with fail
      go_ret
      refine ⟨congrArg (fun b => Ending.returned (.bool b)) ?_, rfl⟩
      rw [he.out, Bool.eq_iff_iff, beq_iff_eq, beq_iff_eq]
      omega

/-- The join of two labels. -/
def orL (a b : Nat) : Nat := a ||| b

theorem hasL_bit (l i : Nat) : hasL l i = l.testBit i := by
  unfold hasL
  rw [Nat.testBit_eq_decide_div_mod_eq, Bool.eq_iff_iff, beq_iff_eq, decide_eq_true_eq]

theorem hasL_or (a b i : Nat) : hasL (orL a b) i = (hasL a i || hasL b i) := by
  rw [hasL_bit, hasL_bit, hasL_bit]
  exact Nat.testBit_or ..

theorem orL_is {a b : Nat} (ha : IsL a) (hb : IsL b) : IsL (orL a b) := Nat.or_lt_two_pow (n := 64) ha hb

theorem orL_step (x j : Nat) : x % 2 ^ (j + 1) = x % 2 ^ j + if hasL x j then 2 ^ j else 0 := by
  rw [Nat.mod_pow_succ]
  congr 1
  unfold hasL
  have : x / 2 ^ j % 2 = 0 ∨ x / 2 ^ j % 2 = 1 := by omega
  rcases this with h | h
  · rw [h]; simp
  · rw [h]; simp

/-- May a label flow to another one? -/
def FlowsL (a b : Nat) : Prop := ∀ i, i < 64 → hasL a i = true → hasL b i = true

set_option maxRecDepth 20000 in
set_option maxHeartbeats 2000000 in
theorem flows01_any (a b : Nat) (ha : IsL a) (hb : IsL b) (w : World) : Calls Try.prog 21 #[.int .u64 a, .int .u64 b] w fun e w' => (e = .returned (.bool true) ∧ FlowsL a b ∨ e = .returned (.bool false) ∧ ¬ FlowsL a b) ∧ w = w' := by
  go_enter Try.func21, Try.ntmps21
  go_wp2_with fail
  go_loopw [5] (fun j wr => ∃ k : Nat, k ≤ 64 ∧ j = .int .i64 k ∧ Hid (∀ i, i < k → hasL a i = true → hasL b i = true) ∧ wr = w) (fun j _ => 64 - (intOfZ j).toNat)
  case atStart => exact ⟨0, Nat.zero_le _, rfl, Lib.hid fun i h => by omega, rfl⟩
  case round =>
    obtain ⟨k, hk, rfl, hd, rfl⟩ := hrel
    by_cases hlt : k < 64
    · have hnx := Lib.hid (show (hasL a k = true → hasL b k = true) → ∀ i, i < k + 1 → hasL a i = true → hasL b i = true from fun h i hi => by
        by_cases e : i = k
        · rw [e]; exact h
        · exact hd.out i (by omega))
      by_cases h1 : hasL a k = true
      · by_cases h2 : hasL b k = true
        · go_wp2_with fail
          refine (has01_any a k ha hlt _).mono ?_
          rintro e w' ⟨rfl, rfl⟩
          rw [h1]
          go_wp2_with fail
          refine (has01_any b k hb hlt _).mono ?_
          rintro e w' ⟨rfl, rfl⟩
          rw [h2]
          go_wp2_with fail
          go_roundw
          case rel => exact ⟨k + 1, by omega, by go_num, Lib.hid (hnx.out fun _ => h2), by trivial⟩
          case measure => simp [intOfZ]; omega
        · have h2f : hasL b k = false := by simpa using h2
          have h2' := Lib.hid h2
          clear h2
          go_wp2_with fail
          refine (has01_any a k ha hlt _).mono ?_
          rintro e w' ⟨rfl, rfl⟩
          rw [h1]
          go_wp2_with fail
          refine (has01_any b k hb hlt _).mono ?_
          rintro e w' ⟨rfl, rfl⟩
          rw [h2f]
          go_wp2_with fail
          go_ret
          exact ⟨.inr ⟨rfl, fun h => h2'.out (h k hlt h1)⟩, rfl⟩
      · have h1f : hasL a k = false := by simpa using h1
        have h1' := Lib.hid h1
        clear h1
        go_wp2_with (go_at_call 34; refine (has01_any a k ha hlt _).mono ?_; rintro e w' ⟨rfl, rfl⟩; rw [h1f])
        go_roundw
        case rel => exact ⟨k + 1, by omega, by go_num, Lib.hid (hnx.out fun h => absurd h h1'.out), by trivial⟩
        case measure => simp [intOfZ]; omega
    · obtain rfl : k = 64 := by omega
      go_wp2_with fail
      go_ret
      exact ⟨.inl ⟨rfl, hd.out⟩, rfl⟩

end Go.Proofs.Ytlfilpjiepdejaa

namespace Go.Proofs.Ytlfilpjiepdejaa
open Go.RowKit

/-- One cell without axes that is no box. -/
def simpleT : Tree → Bool
  | .leaf => false
  | .arr _ n _ m _ K _ _ _ _ => decide (n = 0) && decide (m = 1) && !decide (K 0 = 2)

/-- Is a number's field empty? -/
def zeroF (N : NumF) : Bool := !N.neg && decide (N.an = 0) && decide (N.am = 0)

end Go.Proofs.Ytlfilpjiepdejaa
