/-
  scrimlaw03.WholePowers, walked.
-/
import Derived.Test.YtkcbppijajgoiaaRp
namespace Go.Proofs.Ytkcbppijajgoiaa
open Go.RowKit Num

attribute [local go_sem ↓] Go.wp_at_zero Go.wp_at_succ

set_option maxHeartbeats 4000000 in
theorem powers_walk (b : Bool) (ao : Option Addr) (k kc : Nat) (n : Int) (w : World) (n0 : -9223372036854775808 ≤ n) (n1 : n ≤ 9223372036854775807) (hk : k ≤ kc) (hkc : kc ≤ 9223372036854775807) (x : Int) (A : Whole w b ao (min k 36) kc x) :
    Calls Try.prog 7 #[.agg #[.bool b, .slice ao k kc], .int .i64 n] w (Says (.bool true) w) := by
  obtain ⟨l, hl⟩ : ∃ l, l = min k 36 := ⟨_, rfl⟩
  rw [← hl] at A
  have hl' := Lib.hid hl
  have hx : Hid (x.natAbs < pw 64) := Lib.hid (by obtain ⟨f, A2, rfl⟩ := A.ex; rw [sgn_abs]; exact Nat.lt_of_lt_of_le (val_lt A2.lim) (pw_le (by omega)))
  have A' := Lib.hid A
  obtain ⟨pe, hpe⟩ : ∃ pe, pe = powE n x := ⟨_, rfl⟩
  have hpe' := Lib.hid hpe
  clear A hl hpe
  go_enter Try.func7, Try.ntmps7
  go_wp2_with fail
  refine gen_calls (fun w' => Below w.heap.size w w' ∧ Box w' w.heap.size (.bool b) (.slice ao k kc))
    ⟨((Below.refl _ w).alloc (Nat.le_refl _) _), (Box.new _ _ _ rfl)⟩ ?_
  rintro w0 ⟨hb0, x0⟩
  refine (few3_any b ao k kc _ hk hkc).mono ?_
  rw [← hl'.out]
  rintro e w1 ⟨rfl, hb⟩
  have y0 := x0.later hb
  have hb1 := below_then hb0 (Nat.le_refl _) hb
  have A1 := Lib.hid ((A'.out.below hb1).box y0 (.bool b) (.slice ao l kc))
  have hB1 := Lib.hid (below_set hb1 (Nat.le_refl _) (.bool b) (.slice ao l kc))
  have z0 := Lib.hid (y0.set (.bool b) (.slice ao l kc))
  have q1 := y0.c0; have q2 := y0.c1; have q3 := y0.fr 0; have q4 := y0.fr 1
  have e0 := z0.out.c0; have e1 := z0.out.c1
  clear hb0 hb x0 y0 hb1 A'
  by_cases hbig : 3000 < n
  · have hbi : decide ((3000 : Int) < n) = true := decide_eq_true hbig
    go_wp2_with fail
    refine (awake3_any _).mono ?_
    rintro e w2 ⟨rfl, hb⟩
    have bb := Lib.hid (below_then hB1.out (Nat.le_refl _) hb)
    clear hb
    go_wp2_with fail
    go_ret
    exact ⟨rfl, bb.out⟩
  · have hbi : decide ((3000 : Int) < n) = false := decide_eq_false hbig
    go_wp2_with fail
    refine gen_calls (fun w' => Below w.heap.size w w' ∧ Box w' w.heap.size (.bool b) (.slice ao l kc) ∧ Whole w' b ao l kc x) ⟨hB1.out, z0.out, A1.out⟩ ?_
    rintro w2 ⟨bb, p, A⟩
    clear q1 q2 q3 q4 e0 e1 hB1 z0 A1
    refine (mine_any b ao l kc _).mono ?_
    rintro e w3 ⟨rfl, hb⟩
    have bb := Lib.hid (below_then bb (Nat.le_refl _) hb); have p := Lib.hid (p.later hb); have A := Lib.hid (A.below hb)
    clear hb
    go_wp2_with fail
    refine (wPow_any b ao l kc x n _ A.out hx.out n0 n1).mono ?_
    rintro e w4 ⟨xb, xo, xn, xc, rfl, hX, hb⟩
    have bb := Lib.hid (below_then bb.out (Nat.le_refl _) hb); have p := Lib.hid (p.out.later hb); have A := Lib.hid (A.out.below hb); have hX := Lib.hid hX
    rw [← hpe'.out]
    have c0 : ∀ o, (w4.alloc o).cell? ⟨w.heap.size, 0, none⟩ = some (.bool b) := fun o => (p.out.alloc o).c0
    have c1 : ∀ o, (w4.alloc o).cell? ⟨w.heap.size, 1, none⟩ = some (.slice ao l kc) := fun o => (p.out.alloc o).c1
    clear hb
    go_wp2_with fail
    refine gen_calls (fun w' => Below w.heap.size w w' ∧ Box w' w4.heap.size (.bool xb) (.slice xo xn xc) ∧ Whole w' b ao l kc x ∧ Right w' xb xo xn xc (powV n x)) ⟨bb.out.alloc bb.out.size _, Box.new _ _ _ rfl, A.out.alloc _, hX.out.alloc _⟩ ?_
    clear c0 c1 p
    rintro w5 ⟨bb, q, A, hX⟩
    refine (rPow_any b ao l kc x n _ A hx.out n0 n1).mono ?_
    rintro e w6 ⟨yb, yo, yn, yc, rfl, hY, hb⟩
    have bb := Lib.hid (below_then bb (Nat.le_refl _) hb); have q := Lib.hid (q.later hb); have hX := Lib.hid (hX.below hb); have hY := Lib.hid hY
    rw [← hpe'.out]
    have c0 : ∀ o, (w6.alloc o).cell? ⟨w4.heap.size, 0, none⟩ = some (.bool xb) := fun o => (q.out.alloc o).c0
    have c1 : ∀ o, (w6.alloc o).cell? ⟨w4.heap.size, 1, none⟩ = some (.slice xo xn xc) := fun o => (q.out.alloc o).c1
    clear hb
    go_wp2_with fail
    refine gen_calls (fun w' => Below w.heap.size w w' ∧ Right w' xb xo xn xc (powV n x) ∧ Right w' yb yo yn yc (powV n x)) ⟨bb.out.alloc bb.out.size _, hX.out.alloc _, hY.out.alloc _⟩ ?_
    clear c0 c1 q
    rintro w7 ⟨bb, hX, hY⟩
    refine (same3_any xb yb xo yo xn xc yn yc (powV n x) _ hX hY).mono ?_
    rintro e w8 ⟨rfl, hb⟩
    have bb := Lib.hid (below_then bb (Nat.le_refl _) hb)
    clear hb hX hY
    go_wp2_with fail
    refine (awake3_any _).mono ?_
    rintro e w9 ⟨rfl, hb⟩
    have bb := Lib.hid (below_then bb.out (Nat.le_refl _) hb)
    clear hb
    go_wp2_with fail
    go_ret
    exact ⟨rfl, bb.out⟩

end Go.Proofs.Ytkcbppijajgoiaa
