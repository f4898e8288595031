/-
  scrimref03.Norm, Same, Neg, Sign; scrimlaw03.Mine, Theirs, few, same.
-/
import Derived.Test.YtnnipciifjpooaaWb
import Derived.Test.YtnnipciifjpooaaRef
namespace Go.Proofs.Ytnnipciifjpooaa
open Go.RowKit Num

attribute [local go_sem ↓] Go.wp_at_zero Go.wp_at_succ

theorem canon_right {w : World} {b : Bool} {ao : Option Addr} {n nc v : Nat} {f : Nat → Nat} (hn : n ≤ nc) (hc : nc ≤ 9223372036854775807) (hs : Sl w ao n f) (cf : Canon v n f) (h : 0 < n ∨ b = false) : Right w b ao n nc (sgn b v) := by
  refine ⟨f, hn, hc, hs, by rw [sgn_abs]; exact cf, ?_⟩
  rw [sgn_neg]
  rcases h with h | h
  · have := cf.ne_zero
    have : 0 < v := by omega
    simp [this]
  · simp [h]

set_option maxHeartbeats 1000000 in
theorem rNorm_any (b : Bool) (ao : Option Addr) (n nc : Nat) (x : Int) (w : World) (A : Whole w b ao n nc x) :
    Calls Try.prog 69 #[.agg #[.bool b, .slice ao n nc]] w (IntPost x w) := by
  obtain ⟨f, A, hx⟩ := A.ex
  have A' := Lib.hid A; have hx' := Lib.hid hx
  clear A hx
  go_enter Try.func69, Try.ntmps69
  go_wp2_with fail
  refine gen_calls (fun w' => Below w.heap.size w w' ∧ Box w' w.heap.size (.bool b) (.slice ao n nc) ∧ Box w' (w.heap.size + 1) (.bool false) (.slice none 0 0))
    ⟨(((Below.refl _ w).alloc (Nat.le_refl _) _).alloc (by first | (simp; done) | (simp; omega)) _), ((Box.new _ _ _ rfl).alloc _), (Box.new _ _ _ (by first | (simp; done) | (simp; omega)))⟩ ?_
  rintro w0 ⟨hb0, x0, x1⟩
  refine (refNorm_any ao n nc f _ (A'.out.below hb0)).mono ?_
  rintro e w1 ⟨co, cn, cc, c, rfl, h1, h2, h3, h4, hb⟩
  have y0 := x0.later hb; have y1 := x1.later hb
  have hb1 := Lib.hid (below_then hb0 (Nat.le_refl _) hb)
  have h3' := Lib.hid h3; have h4' := Lib.hid h4; have y0' := Lib.hid y0; have y1' := Lib.hid y1
  have p0 := y0.c0; have q1 := y1.c0; have q2 := y1.c1; have q3 := y1.fr 0; have q4 := y1.fr 1
  clear h3 h4 x0 x1 hb hb0 y0 y1
  by_cases h0 : cn = 0
  · subst h0
    have z := y1'.out.set (.bool false) (.slice none 0 0)
    have e0 := z.c0; have e1 := z.c1
    have hz : x = 0 := by
      rw [← hx'.out, h4'.out.ne_zero.1 rfl]; cases b <;> rfl
    have hz' := Lib.hid hz
    clear z hz
    go_wp2_with fail
    refine bodyPost_ret (v := .agg #[.bool false, .slice none 0 0]) (by simp [results, Try.results69, go_sem, e0, e1]) rfl ?_
    rw [hz'.out]
    exact IntPost.stored ⟨fun _ => 0, Nat.le_refl _, by omega, .inl rfl, canon_zero _, rfl⟩ y1'.out hb1.out (by omega)
  · have z := y1'.out.set (.bool b) (.slice co cn cc)
    have e0 := z.c0; have e1 := z.c1
    clear z
    go_wp2_with fail
    refine bodyPost_ret (v := .agg #[.bool b, .slice co cn cc]) (by simp [results, Try.results69, go_sem, e0, e1]) rfl ?_
    rw [← hx'.out]
    exact IntPost.stored (canon_right h1 h2 h3'.out h4'.out (.inl (Nat.pos_of_ne_zero h0))) y1'.out hb1.out (by omega)

set_option maxHeartbeats 1000000 in
theorem rNeg_any (b : Bool) (ao : Option Addr) (n nc : Nat) (x : Int) (w : World) (A : Whole w b ao n nc x) :
    Calls Try.prog 85 #[.agg #[.bool b, .slice ao n nc]] w (IntPost (-x) w) := by
  have B : Whole w (!b) ao n nc (-x) := by
    obtain ⟨g, B, hy⟩ := A.ex
    exact ⟨g, B, by rw [sgn_not, hy]⟩
  have B' := Lib.hid B
  clear A B
  go_enter Try.func85, Try.ntmps85
  go_wp2_with fail
  refine gen_calls (fun w' => Below w.heap.size w w' ∧ Box w' w.heap.size (.bool b) (.slice ao n nc) ∧ Box w' (w.heap.size + 1) (.bool false) (.slice none 0 0))
    ⟨(((Below.refl _ w).alloc (Nat.le_refl _) _).alloc (by first | (simp; done) | (simp; omega)) _), ((Box.new _ _ _ rfl).alloc _), (Box.new _ _ _ (by first | (simp; done) | (simp; omega)))⟩ ?_
  rintro w0 ⟨hb0, x0, x1⟩
  refine (rNorm_any (!b) ao n nc (-x) _ (B'.out.below hb0)).mono ?_
  rintro e w1 ⟨sb, so, sn, sc, rfl, hR, hb⟩
  have z2 := x1.later hb
  have q1 := z2.c0; have q2 := z2.c1; have q3 := z2.fr 0; have q4 := z2.fr 1
  have z3 := z2.set (.bool sb) (.slice so sn sc)
  have e0 := z3.c0; have e1 := z3.c1
  have hR' := Lib.hid hR; have z2' := Lib.hid z2; have hb1' := Lib.hid (below_then hb0 (Nat.le_refl _) hb)
  clear hR z2 z3 hb hb0 x0 x1
  go_wp2_with fail
  refine bodyPost_ret (v := .agg #[.bool sb, .slice so sn sc]) (by simp [results, Try.results85, go_sem, e0, e1]) rfl ?_
  exact IntPost.stored hR'.out z2'.out hb1'.out (by omega)

set_option maxHeartbeats 1000000 in
theorem rSign_any (b : Bool) (ao : Option Addr) (n nc : Nat) (x : Int) (w : World) (A : Whole w b ao n nc x) :
    Calls Try.prog 51 #[.agg #[.bool b, .slice ao n nc]] w (Says (.int .i64 x.sign) w) := by
  have A' := Lib.hid A
  clear A
  go_enter Try.func51, Try.ntmps51
  go_wp2_with fail
  refine gen_calls (fun w' => Below w.heap.size w w' ∧ Box w' w.heap.size (.bool b) (.slice ao n nc))
    ⟨((Below.refl _ w).alloc (Nat.le_refl _) _), (Box.new _ _ _ rfl)⟩ ?_
  rintro w0 ⟨hb0, x0⟩
  refine (rNorm_any b ao n nc x _ (A'.out.below hb0)).mono ?_
  rintro e w1 ⟨sb, so, sn, sc, rfl, hR, hb⟩
  obtain ⟨f, r1, r2, r3, r4, r5⟩ := hR.ex
  have hb1 := Lib.hid (below_then hb0 (Nat.le_refl _) hb)
  have hz := Lib.hid r4.ne_zero; have hs := Lib.hid r5
  clear hR r1 r2 r3 r4 r5 hb hb0 x0
  by_cases h0 : sn = 0
  · subst h0
    have e : x = 0 := by have := hz.out; omega
    subst e
    go_wp2_with fail
    go_ret
    exact ⟨rfl, hb1.out.alloc hb1.out.size _⟩
  · have hx0 : x.natAbs ≠ 0 := fun e => h0 (hz.out.2 e)
    by_cases hn : x < 0
    · have : sb = true := by rw [hs.out]; simp [hn]
      subst this
      go_wp2_with fail
      go_ret
      exact ⟨ret_num (Int.sign_eq_neg_one_of_neg hn).symm, hb1.out.alloc hb1.out.size _⟩
    · have : sb = false := by rw [hs.out]; simp [hn]
      subst this
      go_wp2_with fail
      go_ret
      exact ⟨ret_num (Int.sign_eq_one_of_pos (show 0 < x by omega)).symm, hb1.out.alloc hb1.out.size _⟩

end Go.Proofs.Ytnnipciifjpooaa
