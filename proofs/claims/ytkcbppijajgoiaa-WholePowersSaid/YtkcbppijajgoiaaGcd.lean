/-
  nat.word, fromWord, gcdOfWords and Gcd: the greatest number that divides both.
-/
import Derived.Test.YtkcbppijajgoiaaDiv
import Derived.Deep.LoopGhost
namespace Go.Proofs.Ytkcbppijajgoiaa
open Go.RowKit Num

theorem val_two {f : Nat → Nat} {n : Nat} (h : n ≤ 2) : at0 f n 1 * 4294967296 + at0 f n 0 = val f n := by
  rw [← val_at0_ge h]
  simp [val, pw]
  omega

/-- A number of at most 1000000 limbs without noughts on top, that may be handed on. -/
theorem Num.Canon.arg {w : World} {ao : Option Addr} {n nc v : Nat} {f : Nat → Nat} (h : Canon v n f) (hs : Sl w ao n f) (hn : n ≤ nc) (hc : nc ≤ 9223372036854775807) (hv : v < pw 1000000) : Arg w ao n nc f :=
  ⟨hn, hc, h.len_le hv, hs, h.lim⟩

end Go.Proofs.Ytkcbppijajgoiaa
