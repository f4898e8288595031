/-
  scrimref03.Sub, Cmp, Mul.
-/
import Derived.Test.YtnnipciifjpooaaRb
namespace Go.Proofs.Ytnnipciifjpooaa
open Go.RowKit Num

attribute [local go_sem ↓] Go.wp_at_zero Go.wp_at_succ

set_option maxHeartbeats 1000000 in
theorem rSub_any (b c : Bool) (ao bo : Option Addr) (n nc m mc : Nat) (x y : Int) (w : World) (A : Whole w b ao n nc x) (B : Whole w c bo m mc y) (M : Nat) (hM : M ≤ 1000) (hx : x.natAbs < pw M) (hy : y.natAbs < pw M) :
    Calls Try.prog 52 #[.agg #[.bool b, .slice ao n nc], .agg #[.bool c, .slice bo m mc]] w (IntPost (x - y) w) := by
  have A' := Lib.hid A; have B' := Lib.hid B
  clear A B
  go_enter Try.func52, Try.ntmps52
  go_wp2_with fail
  refine gen_wp (fun w' => Below w.heap.size w w' ∧ Box w' w.heap.size (.bool b) (.slice ao n nc) ∧ Box w' (w.heap.size + 1) (.bool c) (.slice bo m mc) ∧ Box w' (w.heap.size + 2) (.bool false) (.slice none 0 0))
    ⟨((((Below.refl _ w).alloc (Nat.le_refl _) _).alloc (by first | (simp; done) | (simp; omega)) _).alloc (by first | (simp; done) | (simp; omega)) _), (((Box.new _ _ _ rfl).alloc _).alloc _), ((Box.new _ _ _ (by first | (simp; done) | (simp; omega))).alloc _), (Box.new _ _ _ (by first | (simp; done) | (simp; omega)))⟩ ?_
  rintro w0 ⟨hb0, x0, x1, x2⟩
  have hb0 := hb0.drew; have x0 := x0.drew; have x1 := x1.drew; have x2 := x2.drew
  go_region_held3 (fun w' => w'.cell? ⟨w.heap.size, 0, none⟩ = some (.bool b) ∧ w'.cell? ⟨w.heap.size, 1, none⟩ = some (.slice ao n nc) ∧ w'.cell? ⟨w.heap.size + 1, 0, none⟩ = some (.bool c) ∧ w'.cell? ⟨w.heap.size + 1, 1, none⟩ = some (.slice bo m mc))
    (first | with_reducible exact ⟨x0.c0, x0.c1, x1.c0, x1.c1⟩ | with_reducible exact ⟨y0.c0, y0.c1, y1.c0, y1.c1⟩ | with_reducible exact ⟨z0.c0, z0.c1, z1.c0, z1.c1⟩ | with_reducible exact ⟨(z0.other (by omega) _ _).c0, (z0.other (by omega) _ _).c1, (z1.other (by omega) _ _).c0, (z1.other (by omega) _ _).c1⟩ | go_keep)
    (first
    | (go_at_call 85; refine (rNeg_any c bo m mc y _ (B'.out.below hb0)).mono ?_; rintro e w1 ⟨tb, to_, tn, tc, rfl, hT, hb⟩; have y0 := x0.later hb; have y1 := x1.later hb; have y2 := x2.later hb; have hb1 := below_then hb0 (Nat.le_refl _) hb)
    | (go_at_call 48; refine (rAdd_any b tb ao to_ n nc tn tc x (-y) _ (A'.out.below hb1) (hT.whole (k := M) (by rw [Int.natAbs_neg]; exact hy) (by omega)) M hM hx (by rw [Int.natAbs_neg]; exact hy)).mono ?_; rintro e w2 ⟨sb, so, sn, sc, rfl, hR, hb2⟩; have z0 := y0.later hb2; have z1 := y1.later hb2; have z2 := y2.later hb2; have hb3 := below_then hb1 (Nat.le_refl _) hb2; have q1 := z2.c0; have q2 := z2.c1; have q3 := z2.fr 0; have q4 := z2.fr 1))
  have z3 := z2.set (.bool sb) (.slice so sn sc)
  have e0 := z3.c0; have e1 := z3.c1
  clear z3
  go_wp2_with fail
  refine bodyPost_ret (v := .agg #[.bool sb, .slice so sn sc]) (by simp [results, Try.results52, go_sem, e0, e1]) rfl ?_
  rw [Int.sub_eq_add_neg]
  exact IntPost.stored hR z2 hb3 (by omega)

theorem sub_abs {x y : Int} {M : Nat} (hx : x.natAbs < pw M) (hy : y.natAbs < pw M) : (x - y).natAbs < pw (M + 1) := by
  have e : pw (M + 1) = 4294967296 * pw M := rfl
  omega
theorem add_abs {x y : Int} {M : Nat} (hx : x.natAbs < pw M) (hy : y.natAbs < pw M) : (x + y).natAbs < pw (M + 1) := by
  have e : pw (M + 1) = 4294967296 * pw M := rfl
  omega
theorem mul_abs {x y : Int} {M L : Nat} (hx : x.natAbs < pw M) (hy : y.natAbs < pw L) : (x * y).natAbs < pw (M + L) := by
  rw [Int.natAbs_mul, pw_add]
  exact Nat.mul_lt_mul'' hx hy

theorem field0 (u v : Value) (w : World) : (Instr.field 44 (.agg #[u, v]) 0).run Try.prog w = .ok u w := by kernel_rfl

attribute [local go_sem] field0

theorem sign_mul (x y : Int) : sgn (!(decide (x < 0) == decide (y < 0))) (x.natAbs * y.natAbs) = x * y := by
  rw [← sgn_mul, sgn_self, sgn_self]

set_option maxHeartbeats 2000000 in
theorem rMul_any (b c : Bool) (ao bo : Option Addr) (n nc m mc : Nat) (x y : Int) (w : World) (A : Whole w b ao n nc x) (B : Whole w c bo m mc y) (M : Nat) (hM : M ≤ 1000) (hx : x.natAbs < pw M) (hy : y.natAbs < pw M) :
    Calls Try.prog 49 #[.agg #[.bool b, .slice ao n nc], .agg #[.bool c, .slice bo m mc]] w (IntPost (x * y) w) := by
  obtain ⟨f, A, hfx⟩ := A.ex
  obtain ⟨g, B, hgy⟩ := B.ex
  have A' := Lib.hid A; have B' := Lib.hid B; have hfx' := Lib.hid hfx; have hgy' := Lib.hid hgy
  have vf := Lib.hid (show val f n = x.natAbs by rw [← hfx, sgn_abs]); have vg := Lib.hid (show val g m = y.natAbs by rw [← hgy, sgn_abs])
  clear A B hfx hgy
  go_enter Try.func49, Try.ntmps49
  go_wp2_with fail
  refine gen_wp (fun w' => Below w.heap.size w w' ∧ Box w' w.heap.size (.bool b) (.slice ao n nc) ∧ Box w' (w.heap.size + 1) (.bool c) (.slice bo m mc) ∧ Box w' (w.heap.size + 2) (.bool false) (.slice none 0 0))
    ⟨((((Below.refl _ w).alloc (Nat.le_refl _) _).alloc (by first | (simp; done) | (simp; omega)) _).alloc (by first | (simp; done) | (simp; omega)) _), (((Box.new _ _ _ rfl).alloc _).alloc _), ((Box.new _ _ _ (by first | (simp; done) | (simp; omega))).alloc _), (Box.new _ _ _ (by first | (simp; done) | (simp; omega)))⟩ ?_
  rintro w0 ⟨hb0, x0, x1, x2⟩
  have hb0 := hb0.drew; have x0 := x0.drew; have x1 := x1.drew; have x2 := x2.drew
  go_region_held3 (fun w' => w'.cell? ⟨w.heap.size, 0, none⟩ = some (.bool b) ∧ w'.cell? ⟨w.heap.size, 1, none⟩ = some (.slice ao n nc) ∧ w'.cell? ⟨w.heap.size + 1, 0, none⟩ = some (.bool c) ∧ w'.cell? ⟨w.heap.size + 1, 1, none⟩ = some (.slice bo m mc))
    (first | with_reducible exact ⟨x0.c0, x0.c1, x1.c0, x1.c1⟩ | with_reducible exact ⟨y0.c0, y0.c1, y1.c0, y1.c1⟩ | with_reducible exact ⟨z0.c0, z0.c1, z1.c0, z1.c1⟩ | with_reducible exact ⟨u0.c0, u0.c1, u1.c0, u1.c1⟩ | with_reducible exact ⟨v0.c0, v0.c1, v1.c0, v1.c1⟩ | with_reducible exact ⟨s0.c0, s0.c1, s1.c0, s1.c1⟩ | with_reducible exact ⟨t0.c0, t0.c1, t1.c0, t1.c1⟩ | with_reducible exact ⟨(t0.other (by omega) _ _).c0, (t0.other (by omega) _ _).c1, (t1.other (by omega) _ _).c0, (t1.other (by omega) _ _).c1⟩ | go_keep)
    (first
    | (go_at_call_of 69 ao; refine (rNorm_any b ao n nc x _ ⟨f, A'.out.below hb0, hfx'.out⟩).mono ?_; rintro e w1 ⟨sb, so, sn, sc, rfl, hR, hb1⟩; have y0 := x0.later hb1; have y1 := x1.later hb1; have y2 := x2.later hb1; have gb1 := below_then hb0 (Nat.le_refl _) hb1)
    | (go_at_call_of 69 bo; refine (rNorm_any c bo m mc y _ ⟨g, B'.out.below gb1, hgy'.out⟩).mono ?_; rintro e w2 ⟨tb, to_, tn, tc, rfl, hT, hb2⟩; have z0 := y0.later hb2; have z1 := y1.later hb2; have z2 := y2.later hb2; have gb2 := below_then gb1 (Nat.le_refl _) hb2)
    | (go_at_call_of 82 ao; refine (refNorm_any ao n nc f _ (A'.out.below gb2)).mono ?_; rintro e w3 ⟨fo, fn, fc, fl, rfl, f1, f2, f3, f4, hb3⟩; have u0 := z0.later hb3; have u1 := z1.later hb3; have u2 := z2.later hb3; have gb3 := below_then gb2 (Nat.le_refl _) hb3)
    | (go_at_call_of 82 bo; refine (refNorm_any bo m mc g _ (B'.out.below gb3)).mono ?_; rintro e w4 ⟨go_, gn, gc, gl, rfl, g1, g2, g3, g4, hb4⟩; have v0 := u0.later hb4; have v1 := u1.later hb4; have v2 := u2.later hb4; have gb4 := below_then gb3 (Nat.le_refl _) hb4; have f3 := f3.below hb4; obtain ⟨FA, fn2⟩ := f4.few f3 f1 f2 (by rw [vf.out]; exact hx) (Nat.le_trans hM (by omega)); obtain ⟨GA, gn2⟩ := g4.few g3 g1 g2 (by rw [vg.out]; exact hy) (Nat.le_trans hM (by omega)))
    | (go_at_call 81; refine (refMul_any fo go_ fn fc gn gc fl gl _ FA GA (by omega) (by omega)).mono ?_; rintro e w5 ⟨ko, kn, kc, k, rfl, k1, k2, k3, k4, hb5⟩; have s0 := v0.later hb5; have s1 := v1.later hb5; have s2 := v2.later hb5; have gb5 := below_then gb4 (Nat.le_refl _) hb5; have k5 := k4.val; rw [f4.val, g4.val, vf.out, vg.out] at k4)
    | (go_at_call_of 69 ko; refine (rNorm_any (!(sb == tb)) ko kn kc (x * y) _ ⟨k, k4.arg k3 k1 k2 (small2 (k := M + M) (by omega) (by rw [← Int.natAbs_mul]; exact mul_abs hx hy)), by rw [k4.val, hR.neg, hT.neg, sign_mul]⟩).mono ?_; rintro e w6 ⟨vb, vo, vn, vc, rfl, hV, hb6⟩; have t0 := s0.later hb6; have t1 := s1.later hb6; have t2 := s2.later hb6; have gb6 := below_then gb5 (Nat.le_refl _) hb6; have q1 := t2.c0; have q2 := t2.c1; have q3 := t2.fr 0; have q4 := t2.fr 1))
  have z3 := t2.set (.bool vb) (.slice vo vn vc)
  have e0 := z3.c0; have e1 := z3.c1
  clear z3
  go_wp2_with fail
  refine bodyPost_ret (v := .agg #[.bool vb, .slice vo vn vc]) (by simp [results, Try.results49, go_sem, e0, e1]) rfl ?_
  exact IntPost.stored hV t2 gb6 (by omega)

end Go.Proofs.Ytnnipciifjpooaa
