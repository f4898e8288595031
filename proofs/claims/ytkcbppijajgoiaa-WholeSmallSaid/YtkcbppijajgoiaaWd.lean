/-
  whole.Small.
-/
import Derived.Test.YtkcbppijajgoiaaWb
import Derived.Test.YtkcbppijajgoiaaNum3
import Derived.Test.YtkcbppijajgoiaaBitsNum
namespace Go.Proofs.Ytkcbppijajgoiaa
open Go.RowKit Num

attribute [local go_sem ↓] Go.wp_at_zero Go.wp_at_succ

theorem or_word {x y : Nat} (hx : x < 4294967296) (hy : y < 4294967296) : bits BinOp.or IntKind.u64 (x : Int) ((y : Int) * 4294967296) = ((x + y * 4294967296 : Nat) : Int) := by
  have e : (y : Int) * 4294967296 = ((y * 4294967296 : Nat) : Int) := by omega
  rw [e, or64 _ _ (by omega) (by omega)]
  have h := or_low (a := x) (u := 32) (m := y) hx
  have h4 : x ||| y * 4294967296 = x + y * 4294967296 := by rw [Nat.mul_comm y, show (4294967296 : Nat) = 2 ^ 32 from rfl, h]
  rw [h4]
theorem or_zero {y : Nat} (hy : y < 4294967296) : bits BinOp.or IntKind.u64 (0 : Int) (y : Int) = (y : Int) := by
  have h := or64 0 y (by omega) (by omega)
  simpa using h

/-- Is it an int's? -/
def isSmall (x : Int) : Bool := decide (-9223372036854775808 ≤ x ∧ x ≤ 9223372036854775807)
/-- The number as an int, and true; 0 and false. -/
def smallV (x : Int) : Value := .tuple #[.int .i64 (if isSmall x then x else 0), .bool (isSmall x)]

set_option maxHeartbeats 1000000 in
theorem wSmall_any (b : Bool) (ao : Option Addr) (n nc : Nat) (x : Int) (w : World) (A : Whole w b ao n nc x) :
    Calls Try.prog 27 #[.agg #[.bool b, .slice ao n nc]] w (Says (smallV x) w) := by
  have A' := Lib.hid A
  clear A
  go_enter Try.func27, Try.ntmps27
  go_wp2_with fail
  refine gen_calls (fun w' => Below w.heap.size w w' ∧ Box w' w.heap.size (.bool b) (.slice ao n nc))
    ⟨((Below.refl _ w).alloc (Nat.le_refl _) _), (Box.new _ _ _ rfl)⟩ ?_
  rintro w0 ⟨hb0, x0⟩
  refine (wNorm_any b ao n nc x _ (A'.out.below hb0)).mono ?_
  rintro e w1 ⟨sb, so, sn, sc, rfl, hR, hb⟩
  have y0 := x0.later hb
  have hb1 := below_then hb0 (Nat.le_refl _) hb
  have hR1 := Lib.hid (hR.box y0 (.bool sb) (.slice so sn sc))
  have hB1 := Lib.hid (below_set hb1 (Nat.le_refl _) (.bool sb) (.slice so sn sc))
  have z0 := y0.set (.bool sb) (.slice so sn sc)
  have q1 := y0.c0; have q2 := y0.c1; have q3 := y0.fr 0; have q4 := y0.fr 1
  have e0 := z0.c0; have e1 := z0.c1
  clear hb0 hb x0 y0 hb1 hR
  by_cases h2 : 2 < sn
  · have h2i : (2 : Int) < (sn : Int) := by omega
    obtain ⟨f, f1, f2, hs, cf, hsg⟩ := hR1.out.ex
    have hbig : isSmall x = false := by
      have h1 := cf.val
      have h3 : f (sn - 1) ≠ 0 := by rcases cf.top with h | h <;> omega
      obtain ⟨j, rfl⟩ : ∃ j, sn = j + 1 + 1 + 1 := ⟨sn - 3, by omega⟩
      have h3 : f (j + 1 + 1) ≠ 0 := h3
      have h4 := val_ge h3
      have h5 : pw 2 ≤ pw (j + 1 + 1) := pw_le (by omega)
      have h6 : pw 2 = 18446744073709551616 := rfl
      simp only [isSmall, decide_eq_false_iff_not]
      omega
    have hbig' := Lib.hid hbig
    clear f1 f2 hs cf hsg hbig
    go_wp2_with fail
    go_ret2
    refine ⟨?_, hB1.out⟩
    simp [smallV, hbig'.out]
  · have z0' := Lib.hid z0
    clear z0
    go_wp2_with fail
    refine gen_wp (fun w' => Below w.heap.size w w' ∧ Box w' w.heap.size (.bool sb) (.slice so sn sc) ∧ Right w' sb so sn sc x) ⟨hB1.out, z0'.out, hR1.out⟩ ?_
    rintro w2 ⟨hb2, z, hR⟩
    obtain ⟨f, f1, f2, hs, cf, hsg⟩ := hR.ex
    have hb2' := Lib.hid hb2; have hs' := Lib.hid hs; have cf' := Lib.hid cf; have hsg' := Lib.hid hsg
    have p0 := z.c0
    clear hb2 z hR hs cf hsg hR1 hB1 q1 q2 q3 q4 e0 e1 z0'
    go_loop [4, 16] (fun s i => ∃ j : Nat, j ≤ sn ∧ i = .int .i64 j ∧ s = .int .u64 (val f j)) (fun _ i => sn - (intOf i).toNat)
    case atStart => exact ⟨0, Nat.zero_le _, rfl, rfl⟩
    case round =>
      obtain ⟨j, hj, rfl, rfl⟩ := hrel
      by_cases hlt : j < sn
      · rcases hs'.out with h | ⟨g, off, rfl, hc⟩
        · omega
        have hcell := hc j hlt
        have hl := cf'.out.lim j hlt
        clear hc
        have hj01 : j = 0 ∨ j = 1 := by omega
        rcases hj01 with rfl | rfl
        · simp only [Nat.add_zero] at hcell
          go_wp2_with fail
          go_round
          case rel =>
            refine ⟨1, by omega, rfl, int_eq ?_⟩
            rw [val_succ, val_zero]
            simp only [pw, Nat.zero_add, Nat.mul_one]
            exact or_zero hl
          case measure => simp [intOf]; omega
        · have hl0 := cf'.out.lim 0 (by omega)
          go_wp2_with fail
          go_round
          case rel =>
            refine ⟨2, by omega, rfl, int_eq ?_⟩
            have e1 : val f 1 = f 0 := by simp [val, pw]
            have e2 : val f 2 = f 0 + f 1 * 4294967296 := by simp [val, pw]
            rw [e1, e2]
            exact or_word hl0 hl
          case measure => simp [intOf]; omega
      · obtain rfl : j = sn := by omega
        have hv : val f j = x.natAbs := cf'.out.val
        rw [hv]
        have hj1 := hlt
        have hfin : ∀ (z : Int) (t : Bool), (t = true → z = x) → (t = false → z = 0) → isSmall x = t → Ending.returned (.tuple #[.int .i64 z, .bool t]) = .returned (smallV x) := by
          intro z t h1 h0 ht
          cases t
          · rw [h0 rfl]; simp [smallV, ht]
          · rw [h1 rfl]; simp [smallV, ht]
        have hfin' := Lib.hid hfin
        clear hfin
        cases sb
        · have hx0 : 0 ≤ x := by have := hsg'.out; simp at this; exact this
          by_cases hle : (x.natAbs : Int) ≤ 9223372036854775807
          · have es : isSmall x = true := by simp only [isSmall, decide_eq_true_eq]; omega
            have es' := Lib.hid es
            have en : Hid ((x.natAbs : Int) = x) := Lib.hid (by omega)
            clear es hx0
            go_wp2_with fail
            go_ret2
            exact ⟨hfin'.out _ _ (fun _ => en.out) (fun h => by cases h) es'.out, hb2'.out⟩
          · have es : isSmall x = false := by simp only [isSmall, decide_eq_false_iff_not]; omega
            have es' := Lib.hid es
            have hgt : decide ((x.natAbs : Int) ≤ 9223372036854775807) = false := decide_eq_false hle
            clear es hx0
            go_wp2_with fail
            go_ret2
            exact ⟨hfin'.out _ _ (fun h => by cases h) (fun _ => rfl) es'.out, hb2'.out⟩
        · have hx0 : x < 0 := by have := hsg'.out; simp at this; exact this
          by_cases hle : (x.natAbs : Int) ≤ 9223372036854775808
          · have es : isSmall x = true := by simp only [isSmall, decide_eq_true_eq]; omega
            have es' := Lib.hid es
            have en : Hid (wrap64 (IntKind.u64.wrap (-(x.natAbs : Int))) = x) := Lib.hid (by
              have : (x.natAbs : Int) = -x := by omega
              rw [this]
              simp [wrap64, IntKind.wrap, IntKind.bits, IntKind.signed]
              omega)
            clear es hx0
            go_wp2_with fail
            go_ret2
            exact ⟨hfin'.out _ _ (fun _ => en.out) (fun h => by cases h) es'.out, hb2'.out⟩
          · have es : isSmall x = false := by simp only [isSmall, decide_eq_false_iff_not]; omega
            have es' := Lib.hid es
            have hgt : decide ((x.natAbs : Int) ≤ 9223372036854775808) = false := decide_eq_false hle
            clear es hx0
            go_wp2_with fail
            go_ret2
            exact ⟨hfin'.out _ _ (fun h => by cases h) (fun _ => rfl) es'.out, hb2'.out⟩

end Go.Proofs.Ytkcbppijajgoiaa
