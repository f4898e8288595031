/-
  What the laws of ratio ask for: a number as it is handed in; which ones are right; Make where it goes; brackets.
-/
import Derived.Test.YtnnipciifjpooaaQk
namespace Go.Proofs.Ytnnipciifjpooaa
open Go.RowKit Num

attribute [local go_sem ↓] Go.wp_at_zero Go.wp_at_succ

/-- A slice of limbs as it is handed in, of any length. -/
structure In (w : World) (ao : Option Addr) (n nc : Nat) (f : Nat → Nat) : Prop where
  len : n ≤ nc
  cap : nc ≤ 9223372036854775807
  sl : Sl w ao n f
  lim : Lim f n
theorem In.below {w w' : World} {ao : Option Addr} {n nc : Nat} {f : Nat → Nat} (h : In w ao n nc f) (hb : Below w.heap.size w w') : In w' ao n nc f := ⟨h.len, h.cap, h.sl.below hb, h.lim⟩
theorem In.arg {w : World} {ao : Option Addr} {n nc : Nat} {f : Nat → Nat} (h : In w ao n nc f) (hn : n ≤ 32) : Arg w ao n nc f := ⟨h.len, h.cap, by omega, h.sl, h.lim⟩

set_option maxHeartbeats 1000000 in
theorem right4_long (ab : Bool) (ap aq : Option Addr) (an ac am ae : Nat) (w : World) (h : 32 < an ∨ 32 < am) :
    Calls Try.prog 8 #[.agg #[.bool ab, .slice ap an ac, .slice aq am ae]] w (RightPost ab ap an ac aq am ae w) := by
  by_cases ht : 32 < an
  · have hd : decide ((32 : Int) < (an : Int)) = true := by rw [decide_eq_true_iff]; omega
    have ht' := Lib.hid ht
    clear ht h
    go_enter Try.func8, Try.ntmps8
    go_wp2_with fail
    go_ret
    exact ⟨false, rfl, (fun h => by cases h), fun P Q l R => absurd (R.top.le_len l.abs_lt) (Nat.not_le.2 ht'.out), (Below.refl _ _).alloc (Nat.le_refl _) _⟩
  have hd : decide ((32 : Int) < (an : Int)) = false := by rw [decide_eq_false_iff_not]; omega
  have hu' : Hid (32 < am) := Lib.hid (h.resolve_left ht)
  have hd2 : decide ((32 : Int) < (am : Int)) = true := by have := hu'.out; rw [decide_eq_true_iff]; omega
  clear ht h
  go_enter Try.func8, Try.ntmps8
  go_wp2_with fail
  go_ret
  exact ⟨false, rfl, (fun h => by cases h), fun P Q l R => absurd (R.bot.le_len l.bot_lt) (Nat.not_le.2 hu'.out), (Below.refl _ _).alloc (Nat.le_refl _) _⟩

theorem right4_in (ab : Bool) (ap aq : Option Addr) (an ac am ae : Nat) (f g : Nat → Nat) (w : World) (A : In w ap an ac f) (B : In w aq am ae g) :
    Calls Try.prog 8 #[.agg #[.bool ab, .slice ap an ac, .slice aq am ae]] w (RightPost ab ap an ac aq am ae w) := by
  by_cases h : 32 < an ∨ 32 < am
  · exact right4_long ab ap aq an ac am ae w h
  · exact right4_any ab ap aq an ac am ae f g w (A.arg (by omega)) (B.arg (by omega))

theorem Right.arg {w : World} {b : Bool} {ao : Option Addr} {n nc : Nat} {x : Int} (h : Right w b ao n nc x) (hx : x.natAbs < pw 32) : ∃ f, Arg w ao n nc f := by
  obtain ⟨f, h1, h2, h3, h4, _⟩ := h.ex
  exact ⟨f, h1, h2, Nat.le_trans (h4.len_le hx) (by omega), h3, h4.lim⟩
theorem right4_yes (ab : Bool) (ap aq : Option Addr) (an ac am ae : Nat) (P : Int) (Q : Nat) (w : World) (A : Rt w ab ap an ac aq am ae P Q) (l : Low P Q) :
    Calls Try.prog 8 #[.agg #[.bool ab, .slice ap an ac, .slice aq am ae]] w (Says (.bool true) w) := by
  obtain ⟨f, F⟩ := A.top.arg l.abs_lt
  obtain ⟨g, G⟩ := A.bot.arg l.bot_lt
  refine (right4_any ab ap aq an ac am ae f g w F G).mono ?_
  rintro e w' ⟨r, rfl, _, h, hb⟩
  have := h P Q l A
  subst this
  exact ⟨rfl, hb⟩

/-- What Make tells where it goes: a number in lowest terms that is p by q. -/
def OkPost (p q : Int) (w : World) (e : Ending) (w' : World) : Prop := ∃ T B, Low T B ∧ T * q = p * B ∧ T.natAbs ≤ p.natAbs ∧ B ≤ q.natAbs ∧ ResPost T B 0 w e w'
theorem make_goes {p q : Int} {w w' : World} {e : Ending} (h : mkE p q = 0) (k : MakePost p q w e w') : OkPost p q w e w' := ⟨mkT p q, mkB p q, mk_low h, mk_cross h, mkT_le _ _, mkB_le _ _, make_zero h k⟩
theorem make_is {p q : Int} {P : Int} {Q : Nat} {w w' : World} {e : Ending} (a : Low P Q) (hq : q ≠ 0) (h : p * Q = P * q) (k : MakePost p q w e w') : ResPost P Q 0 w e w' := by
  obtain ⟨h1, h2, h3⟩ := mk_of_low a hq h
  have k : ResPost (mkT p q) (mkB p q) (mkE p q) w e w' := k
  rwa [h1, h2, h3] at k
theorem ok_unique {T T' p p' q q' : Int} {B B' : Nat} (a : Low T B) (a' : Low T' B') (c : T * q = p * B) (c' : T' * q' = p' * B') (hq : q ≠ 0) (hq' : q' ≠ 0) (h : p * q' = p' * q) : T = T' ∧ B = B' := by
  refine low_unique a a' ?_
  refine Int.eq_of_mul_eq_mul_right hq (Int.eq_of_mul_eq_mul_right hq' ?_)
  grind
theorem nz_mul {Q S : Nat} (a : Q ≠ 0) (b : S ≠ 0) : (Q : Int) * S ≠ 0 := Int.mul_ne_zero (by omega) (by omega)
theorem back_add {T P R : Int} {B Q S : Nat} (c : T * (Q * S) = (P * S + R * Q) * B) : (T * S + -R * B) * Q = P * (B * S) := by grind
theorem back_div {T P R : Int} {B Q S : Nat} (c : T * (Q * R) = (P * S) * B) : (T * R) * Q = P * (B * S) := by grind
theorem add_brackets {P R V Tab Tbc : Int} {Q S U Bab Bbc : Nat} (hS : S ≠ 0) (h1 : Tab * (Q * S) = (P * S + R * Q) * Bab) (h2 : Tbc * (S * U) = (R * U + V * S) * Bbc) :
    (Tab * U + V * Bab) * (Q * Bbc) = (P * Bbc + Tbc * Q) * (Bab * U) := by
  have h0 : (S : Int) ≠ 0 := by omega
  refine Int.eq_of_mul_eq_mul_left h0 ?_
  grind
theorem mul_brackets {P R V Tbc Tq Tr : Int} {Q S U Bbc Bq Br : Nat} (hS : S ≠ 0) (hU : U ≠ 0) (h2 : Tbc * (S * U) = (R * U + V * S) * Bbc) (hq : Tq * (Q * S) = (P * R) * Bq) (hr : Tr * (Q * U) = (P * V) * Br) :
    (P * Tbc) * (Bq * Br) = (Tq * Br + Tr * Bq) * (Q * Bbc) := by
  have h0 : (S : Int) ≠ 0 := by omega
  have h1 : (U : Int) ≠ 0 := by omega
  refine Int.eq_of_mul_eq_mul_left h0 (Int.eq_of_mul_eq_mul_left h1 ?_)
  grind
theorem cmp_zero {P : Int} {Q : Nat} {w w' : World} {e : Ending} (k : Says (.int .i64 (cmpI (P * ((1 : Nat) : Int)) ((0 : Int) * Q))) w e w') : Says (.int .i64 P.sign) w e w' := by
  have e0 : cmpI (P * ((1 : Nat) : Int)) ((0 : Int) * Q) = P.sign := by
    rw [← cmp_diff]
    have : P * ((1 : Nat) : Int) - 0 * (Q : Int) = P := by omega
    rw [this]
  rwa [e0] at k

end Go.Proofs.Ytnnipciifjpooaa
