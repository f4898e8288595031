/-
  scrimlaw03.WholeSmall, walked.
-/
import Derived.Test.YtkcbppijajgoiaaRe
namespace Go.Proofs.Ytkcbppijajgoiaa
open Go.RowKit Num

attribute [local go_sem ↓] Go.wp_at_zero Go.wp_at_succ

set_option maxHeartbeats 4000000 in
theorem small_walk (n : Int) (b : Bool) (ao : Option Addr) (k kc : Nat) (w : World) (n0 : -9223372036854775808 ≤ n) (n1 : n ≤ 9223372036854775807) (hk : k ≤ kc) (hkc : kc ≤ 9223372036854775807) (x : Int) (A : Whole w b ao (min k 36) kc x) :
    Calls Try.prog 4 #[.int .i64 n, .agg #[.bool b, .slice ao k kc]] w (Says (.bool true) w) := by
  obtain ⟨l, hl⟩ : ∃ l, l = min k 36 := ⟨_, rfl⟩
  rw [← hl] at A
  have hl' := Lib.hid hl
  have hx : Hid (x.natAbs < pw 36) := Lib.hid (by obtain ⟨f, A2, rfl⟩ := A.ex; rw [sgn_abs]; exact Nat.lt_of_lt_of_le (val_lt A2.lim) (pw_le (by omega)))
  have A' := Lib.hid A
  have nn : smallV n = .tuple #[.int .i64 n, .bool true] := by
    have e : isSmall n = true := by simp only [isSmall, decide_eq_true_eq]; omega
    simp [smallV, e]
  have nn' := Lib.hid nn
  clear A hl nn
  go_enter Try.func4, Try.ntmps4
  go_wp2_with fail
  refine gen_calls (fun w' => Below w.heap.size w w' ∧ Box w' w.heap.size (.bool b) (.slice ao k kc))
    ⟨((Below.refl _ w).alloc (Nat.le_refl _) _), (Box.new _ _ _ rfl)⟩ ?_
  rintro w0 ⟨hb0, x0⟩
  refine (few3_any b ao k kc _ hk hkc).mono ?_
  rw [← hl'.out]
  rintro e w1 ⟨rfl, hb⟩
  have y0 := x0.later hb
  have hb1 := below_then hb0 (Nat.le_refl _) hb
  have A1 := Lib.hid ((A'.out.below hb1).box y0 (.bool b) (.slice ao l kc))
  have hB1 := Lib.hid (below_set hb1 (Nat.le_refl _) (.bool b) (.slice ao l kc))
  have z0 := Lib.hid (y0.set (.bool b) (.slice ao l kc))
  have q1 := y0.c0; have q2 := y0.c1; have q3 := y0.fr 0; have q4 := y0.fr 1
  clear hb0 hb x0 y0 hb1 A'
  go_wp2_with fail
  refine gen_calls (fun w' => Below w.heap.size w w' ∧ Box w' w.heap.size (.bool b) (.slice ao l kc) ∧ Whole w' b ao l kc x) ⟨hB1.out, z0.out, A1.out⟩ ?_
  rintro w2 ⟨bb, p, A⟩
  clear q1 q2 q3 q4 hB1 z0 A1
  refine (wOf_any n _ n0 n1).mono ?_
  rintro e w3 ⟨xb, xo, xn, xc, rfl, hX, hb⟩
  have bb := Lib.hid (below_then bb (Nat.le_refl _) hb); have p := Lib.hid (p.later hb); have A := Lib.hid (A.below hb); have hX := Lib.hid hX
  clear hb
  go_wp2_with fail
  refine gen_calls (fun w' => Below w.heap.size w w' ∧ Box w' w.heap.size (.bool b) (.slice ao l kc) ∧ Box w' w3.heap.size (.bool xb) (.slice xo xn xc) ∧ Whole w' b ao l kc x ∧ Right w' xb xo xn xc n)
    ⟨bb.out.alloc bb.out.size _, p.out.alloc _, Box.new _ _ _ rfl, A.out.alloc _, hX.out.alloc _⟩ ?_
  rintro w4 ⟨bb, p, q, A, hX⟩
  refine (wSmall_any xb xo xn xc n _ (hX.whole (int_small n0 n1) (by omega))).mono ?_
  rw [nn'.out]
  rintro e w5 ⟨rfl, hb⟩
  have bb := Lib.hid (below_then bb (Nat.le_refl _) hb); have p := Lib.hid (p.later hb); have q := Lib.hid (q.later hb); have A := Lib.hid (A.below hb); have hX := Lib.hid (hX.below hb)
  have p0 := p.out.c0; have p1 := p.out.c1
  clear hb nn'
  go_wp2_with fail
  refine (mine_any b ao l kc _).mono ?_
  rintro e w6 ⟨rfl, hb⟩
  have bb := Lib.hid (below_then bb.out (Nat.le_refl _) hb); have p := Lib.hid (p.out.later hb); have q := Lib.hid (q.out.later hb); have A := Lib.hid (A.out.below hb); have hX := Lib.hid (hX.out.below hb)
  clear hb p0 p1
  go_wp2_with fail
  refine (wSmall_any b ao l kc x _ A.out).mono ?_
  simp only [smallV]
  rintro e w7 ⟨rfl, hb⟩
  have bb := Lib.hid (below_then bb.out (Nat.le_refl _) hb); have p := Lib.hid (p.out.later hb); have q := Lib.hid (q.out.later hb); have A := Lib.hid (A.out.below hb); have hX := Lib.hid (hX.out.below hb)
  obtain ⟨sx, hsx⟩ : ∃ sx, sx = isSmall x := ⟨_, rfl⟩
  obtain ⟨sv, hsv⟩ : ∃ sv, sv = if isSmall x then x else 0 := ⟨_, rfl⟩
  rw [← hsx] at hsv ⊢
  rw [← hsv]
  have hsx' := Lib.hid hsx; have hsv' := Lib.hid hsv
  clear hsx hsv
  have p0 := p.out.c0; have p1 := p.out.c1
  clear hb
  go_wp2_with fail
  refine (rSmall_any b ao l kc x _ A.out 36 (by omega) (by omega) hx.out).mono ?_
  simp only [smallV]
  rw [← hsx'.out, ← hsv'.out]
  rintro e w8 ⟨rfl, hb⟩
  have bb := below_then bb.out (Nat.le_refl _) hb; have q := q.out.later hb; have hX := hX.out.below hb
  clear hb p0 p1 p A
  go_wp2_with fail
  have bb := bb.drew; have q := q.drew; have hX := hX.drew
  have sa0 := True.intro
  go_region_held3 (fun w' => w'.cell? ⟨w3.heap.size, 0, none⟩ = some (.bool xb) ∧ w'.cell? ⟨w3.heap.size, 1, none⟩ = some (.slice xo xn xc))
    (first | with_reducible exact ⟨q.c0, q.c1⟩ | go_keep)
    (first
    | (go_at_call 29; clear sa0; refine (rOf_any n _ n0 n1).mono ?_; rintro e w' ⟨tb, to_, tn, tc, rfl, hT, hb⟩; have bb := below_then bb (Nat.le_refl _) hb; have q := q.later hb; have hX := hX.below hb; have sa1 := True.intro)
    | (go_at_call 10; clear sa1; refine (same3_any xb tb xo to_ xn xc tn tc n _ hX hT).mono ?_; rintro e w' ⟨rfl, hb⟩; have bb := below_then bb (Nat.le_refl _) hb; have q := q.later hb; have hX := hX.below hb; have hT := hT.below hb; have sa2 := True.intro)
    | (go_at_call 25; clear sa2; refine (awake3_any _).mono ?_; rintro e w' ⟨rfl, hb⟩; have bb := below_then bb (Nat.le_refl _) hb; have q := q.later hb; have hX := hX.below hb; have sa3 := True.intro))
  go_wp2_with fail
  go_ret
  exact ⟨rfl, bb⟩

end Go.Proofs.Ytkcbppijajgoiaa
