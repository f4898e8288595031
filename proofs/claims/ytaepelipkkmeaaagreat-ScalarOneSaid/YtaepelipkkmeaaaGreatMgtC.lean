/-
  whole.Cmp, whole.DivMod.
  ratio.upper, lower, over, long; ratio.Make.
  nat.addTimes and nat.Mul: the product.
  whole.Neg, whole.Mul, whole.Add, whole.Sub.
  scrimref03.Sub, Cmp, Mul.
  Powers: what a power comes to, square by square, and whole.Pow.
  ratio.Whole, Of, Sign, Neg, Abs, Cmp.
  scrimref02.Gcd of longer numbers.
-/
import Derived.Test.YtaepelipkkmeaaaGreatMgtA
import Derived.Test.YtaepelipkkmeaaaGreatMgtB
import Derived.Deep.LoopGhost
import Derived.WalkKit
import Derived.Lib.BitFns
import Derived.Laws.CopyOwn
import Derived.Deep.RegionWith
import Derived.Deep.RegionHeld3
import Derived.Deep.DrawnRows
import Derived.Lib.Small
import Derived.Lib.Walk
import Derived.Deep.QuietTactic
import Derived.BigQuiet
import Derived.WalkSpells
import Derived.WalkLawsBesides
import Derived.Lib.Hide
import Derived.Deep.CutRange
set_option maxRecDepth 20000
set_option maxHeartbeats 16000000
namespace Go.Proofs.YtaepelipkkmeaaaGreat
open Go.RowKit Num
attribute [local go_sem ↓] Go.wp_at_zero Go.wp_at_succ
theorem cmp_sign {x y : Int} (h : x.sign ≠ y.sign) : cmpI x.sign y.sign = cmpI x y := by
 rcases Int.lt_trichotomy x 0 with hx | rfl | hx <;> rcases Int.lt_trichotomy y 0 with hy | rfl | hy <;>
  simp_all [Int.sign_eq_one_of_pos, Int.sign_eq_neg_one_of_neg, cmpI] <;> (repeat' split) <;> omega
theorem sgn_cases (b : Bool) (u : Nat) : ((u = 0 ∧ (sgn b u).sign = 0 ∧ sgn b u = 0) ∨ (0 < u ∧ (sgn b u).sign = 1 ∧ sgn b u = u)) ∨ (0 < u ∧ (sgn b u).sign = -1 ∧ sgn b u = -(u : Int)) := by
 by_cases h : u = 0
 ·subst h; left; left; cases b <;> simp [sgn]
 ·have h' : (0 : Int) < (u : Int) := by omega
  cases b
  ·left; right; exact ⟨by omega, Int.sign_eq_one_of_pos h', rfl⟩
  ·right; exact ⟨by omega, Int.sign_eq_neg_one_of_neg (by simp only [sgn_true]; omega), rfl⟩
theorem wrap_is (z : Int) : wrap64 z = IntKind.i64.wrap z := by
 simp [wrap64, IntKind.wrap, IntKind.bits, IntKind.signed]
 omega
theorem wrap_cmp (p q : Int) : IntKind.i64.wrap (1 * cmpI p q) = cmpI p q ∧ IntKind.i64.wrap (-1 * cmpI p q) = cmpI (-p) (-q) ∧ IntKind.i64.wrap (0 * cmpI p q) = 0 := by
 have w1 : IntKind.i64.wrap 1 = 1 := by decide
 have w2 : IntKind.i64.wrap (-1) = -1 := by decide
 have w3 : IntKind.i64.wrap 0 = 0 := by decide
 rcases Int.lt_trichotomy p q with h | h | h
 ·rw [cmpI_lt h, cmpI_gt (show -q < -p by omega)]; exact ⟨w2, w1, w3⟩
 ·rw [cmpI_eq h, cmpI_eq (show -p = -q by omega)]; exact ⟨w3, w3, w3⟩
 ·rw [cmpI_gt h, cmpI_lt (show -p < -q by omega)]; exact ⟨w1, w2, w3⟩
theorem cmp_size {b c : Bool} {u v : Nat} (h : (sgn b u).sign = (sgn c v).sign) : IntKind.i64.wrap ((sgn b u).sign * cmpI u v) = cmpI (sgn b u) (sgn c v) := by
 obtain ⟨w1, w2, w3⟩ := wrap_cmp u v
 rcases sgn_cases b u with (⟨h1, h2, h3⟩ | ⟨h1, h2, h3⟩) | ⟨h1, h2, h3⟩ <;> rcases sgn_cases c v with (⟨k1, k2, k3⟩ | ⟨k1, k2, k3⟩) | ⟨k1, k2, k3⟩ <;> rw [h2, k2] at h <;> first | omega | skip
 ·rw [h2, h3, k3, w3, cmpI_eq rfl]
 ·rw [h2, h3, k3, w1]
 ·rw [h2, h3, k3, w2]
theorem wCmp_any (b c : Bool) (ao bo : Option Addr) (n nc m mc : Nat) (x y : Int) (w : World) (A : Whole w b ao n nc x) (B : Whole w c bo m mc y) :
  Calls Tryz.prog 165 #[.agg #[.bool b, .slice ao n nc], .agg #[.bool c, .slice bo m mc]] w (Says (.int .i64 (cmpI x y)) w) := by
 have A' := Lib.hid A; have B' := Lib.hid B
 clear A B
 go_enter Tryz.func165, Tryz.ntmps165
 go_wp2_with fail
 refine gen_wp (fun w' => Below w.heap.size w w' ∧ Box w' w.heap.size (.bool b) (.slice ao n nc) ∧ Box w' (w.heap.size + 1) (.bool c) (.slice bo m mc))
  ⟨(((Below.refl _ w).alloc (Nat.le_refl _) _).alloc (by simp <;> omega) _), ((Box.new _ _ _ rfl).alloc _), (Box.new _ _ _ (by simp <;> omega))⟩ ?_
 rintro w0 ⟨hb0, x0, x1⟩
 have hb0 := hb0.drew; have x0 := x0.drew; have x1 := x1.drew
 go_region_held3 (fun w' => w'.cell? ⟨w.heap.size, 0, none⟩ = some (.bool b) ∧ w'.cell? ⟨w.heap.size, 1, none⟩ = some (.slice ao n nc) ∧ w'.cell? ⟨w.heap.size + 1, 0, none⟩ = some (.bool c) ∧ w'.cell? ⟨w.heap.size + 1, 1, none⟩ = some (.slice bo m mc))
  (first | with_reducible exact ⟨x0.c0, x0.c1, x1.c0, x1.c1⟩ | with_reducible exact ⟨y0.c0, y0.c1, y1.c0, y1.c1⟩ | with_reducible exact ⟨z0.c0, z0.c1, z1.c0, z1.c1⟩)
  (first
  | (go_at_call_of 110 (Value.agg #[.bool b, .slice ao n nc]); refine (wSign_any b ao n nc x _ (A'.out.below hb0)).mono ?_; rintro e w1 ⟨rfl, hb⟩; have y0 := x0.later hb; have y1 := x1.later hb; have hb1 := below_then hb0 (Nat.le_refl _) hb)
  | (go_at_call_of 110 (Value.agg #[.bool c, .slice bo m mc]); refine (wSign_any c bo m mc y _ (B'.out.below hb1)).mono ?_; rintro e w2 ⟨rfl, hb2⟩; have z0 := y0.later hb2; have z1 := y1.later hb2; have hb3 := below_then hb1 (Nat.le_refl _) hb2))
 have hb3' := Lib.hid hb3; have z0' := Lib.hid z0; have z1' := Lib.hid z1
 clear x0 x1 y0 y1 hb0 hb hb1 hb2 hb3 z0 z1
 by_cases hs : x.sign = y.sign
 ·have p0 := z0'.out.c0; have p1 := z0'.out.c1; have p2 := z1'.out.c0; have p3 := z1'.out.c1
  obtain ⟨f, A, hx⟩ := A'.out.ex
  obtain ⟨g, B, hy⟩ := B'.out.ex
  have A := Lib.hid A; have B := Lib.hid B; have hx := Lib.hid hx; have hy := Lib.hid hy; have hs' := Lib.hid hs
  go_wp2_with fail
  refine (cmp_any ao bo n nc m mc f g _ (A.out.below hb3'.out) (B.out.below hb3'.out)).mono ?_
  rintro e w3 ⟨rfl, hd⟩
  have hb := below_drawn hd
  have hb4 := Lib.hid (below_then hb3'.out (Nat.le_refl _) hb)
  clear hd hb
  go_wp2_with fail
  go_ret
  refine ⟨ret_num ?_, hb4.out⟩
  have key := cmp_size (b := b) (c := c) (u := val f n) (v := val g m) (by rw [hx.out, hy.out]; exact hs'.out)
  rw [hx.out, hy.out] at key
  rw [← hs, wrap_is]
  exact key
 ·go_wp2_with fail
  refine (cmp_int x.sign y.sign _).mono ?_
  rintro e w3 ⟨rfl, rfl⟩
  rw [cmp_sign hs]
  go_wp2_with fail
  go_ret
  exact ⟨rfl, hb3'.out⟩
def IDivPost (x y : Int) (w : World) (e : Ending) (w' : World) : Prop :=
 Below w.heap.size w w' ∧ ((y = 0 ∧ e = .returned (.tuple #[.agg #[.bool false, .slice none 0 0], .agg #[.bool false, .slice none 0 0], .bool false])) ∨
  (y ≠ 0 ∧ ∃ b ao n nc c bo m mc, e = .returned (.tuple #[.agg #[.bool b, .slice ao n nc], .agg #[.bool c, .slice bo m mc], .bool true]) ∧ Right w' b ao n nc (x.fdiv y) ∧ Right w' c bo m mc (x.fmod y)))
theorem fdiv_is {x y q r : Int} (e : r + y * q = x) (h : (0 < y ∧ 0 ≤ r ∧ r < y) ∨ (y < 0 ∧ y < r ∧ r ≤ 0)) : x.fdiv y = q ∧ x.fmod y = r := by
 rcases h with ⟨h0, h1, h2⟩ | ⟨h0, h1, h2⟩
 ·exact (Int.fdiv_fmod_unique h0).2 ⟨e, h1, h2⟩
 ·exact (Int.fdiv_fmod_unique' h0).2 ⟨e, h1, h2⟩
theorem fdiv_same (b : Bool) {u v : Nat} (hv : v ≠ 0) : (sgn b u).fdiv (sgn b v) = sgn false (u / v) ∧ (sgn b u).fmod (sgn b v) = sgn b (u % v) := by
 have e : (v : Int) * ((u / v : Nat) : Int) + ((u % v : Nat) : Int) = u := by exact_mod_cast Nat.div_add_mod u v
 have l : u % v < v := Nat.mod_lt _ (by omega)
 cases b
 ·exact fdiv_is (by simp only [sgn_false]; omega) (.inl ⟨by simp only [sgn_false]; omega, by simp only [sgn_false]; omega, by simp only [sgn_false]; omega⟩)
 ·refine fdiv_is ?_ (.inr ⟨by simp only [sgn_true]; omega, by simp only [sgn_true]; omega, by simp only [sgn_true]; omega⟩)
  simp only [sgn_true, sgn_false, Int.neg_mul]; omega
theorem fdiv_even {b c : Bool} (h : b ≠ c) {u v : Nat} (hv : v ≠ 0) (hr : u % v = 0) : (sgn b u).fdiv (sgn c v) = sgn true (u / v) ∧ (sgn b u).fmod (sgn c v) = sgn c (u % v) := by
 have e : (v : Int) * ((u / v : Nat) : Int) + ((u % v : Nat) : Int) = u := by exact_mod_cast Nat.div_add_mod u v
 rw [hr] at e ⊢
 cases b <;> cases c <;> simp only [ne_eq, not_true, reduceCtorEq, not_false_iff] at h
 ·refine fdiv_is ?_ (.inr ⟨by simp only [sgn_true]; omega, by simp only [sgn_true]; omega, by simp only [sgn_true]; omega⟩)
  simp only [sgn_true, sgn_false, Int.neg_mul, Int.mul_neg]; omega
 ·refine fdiv_is ?_ (.inl ⟨by simp only [sgn_false]; omega, by simp only [sgn_false]; omega, by simp only [sgn_false]; omega⟩)
  simp only [sgn_true, sgn_false, Int.mul_neg]; omega
theorem fdiv_odd {b c : Bool} (h : b ≠ c) {u v : Nat} (hv : v ≠ 0) (hr : u % v ≠ 0) : (sgn b u).fdiv (sgn c v) = sgn true (u / v + 1) ∧ (sgn b u).fmod (sgn c v) = sgn c (v - u % v) := by
 have e : (v : Int) * ((u / v : Nat) : Int) + ((u % v : Nat) : Int) = u := by exact_mod_cast Nat.div_add_mod u v
 have l : u % v < v := Nat.mod_lt _ (by omega)
 have e2 : (v : Int) * ((u / v + 1 : Nat) : Int) = (v : Int) * ((u / v : Nat) : Int) + v := by rw [Int.natCast_add, Int.mul_add]; simp
 cases b <;> cases c <;> simp only [ne_eq, not_true, reduceCtorEq, not_false_iff] at h
 ·refine fdiv_is ?_ (.inr ⟨by simp only [sgn_true]; omega, by simp only [sgn_true]; omega, by simp only [sgn_true]; omega⟩)
  simp only [sgn_true, sgn_false, Int.neg_mul, Int.mul_neg]; omega
 ·refine fdiv_is ?_ (.inl ⟨by simp only [sgn_false]; omega, by simp only [sgn_false]; omega, by simp only [sgn_false]; omega⟩)
  simp only [sgn_true, sgn_false, Int.mul_neg]; omega
theorem small {v k : Nat} (hk : k ≤ 1000000) (h : v < pw k) : v < pw 1000000 := Nat.lt_of_lt_of_le h (pw_le hk)
theorem IDivPost.stored {w wk : World} {x y q r : Int} {b c : Bool} {ao bo : Option Addr} {n nc m mc B C : Nat} {b1 b2 : Bool} {p1 p2 : Option Addr} {k1 k2 l1 l2 : Nat} (hQ : Right wk b ao n nc q) (hR : Right wk c bo m mc r)
  (zB : Box wk B (.bool b1) (.slice p1 k1 l1)) (zC : Box wk C (.bool b2) (.slice p2 k2 l2)) (hne : B ≠ C) (hb : Below w.heap.size w wk) (hB : w.heap.size ≤ B) (hC : w.heap.size ≤ C) (hy : y ≠ 0) (e : x.fdiv y = q ∧ x.fmod y = r) :
  IDivPost x y w (.returned (.tuple #[.agg #[.bool b, .slice ao n nc], .agg #[.bool c, .slice bo m mc], .bool true])) ((((wk.setCell ⟨B, 0, none⟩ (.bool b)).setCell ⟨B, 1, none⟩ (.slice ao n nc)).setCell ⟨C, 0, none⟩ (.bool c)).setCell ⟨C, 1, none⟩ (.slice bo m mc)) := by
 rw [← e.1] at hQ; rw [← e.2] at hR
 exact ⟨below_set (below_set hb hB _ _) hC _ _, .inr ⟨hy, b, ao, n, nc, c, bo, m, mc, rfl, (hQ.box zB _ _).box (zC.other hne.symm _ _) _ _, (hR.box zB _ _).box (zC.other hne.symm _ _) _ _⟩⟩
set_option maxHeartbeats 1000000 in
theorem wDivMod_any (b c : Bool) (ao bo : Option Addr) (n nc m mc : Nat) (x y : Int) (w : World) (A : Whole w b ao n nc x) (B : Whole w c bo m mc y) :
    Calls Tryz.prog 114 #[.agg #[.bool b, .slice ao n nc], .agg #[.bool c, .slice bo m mc]] w (IDivPost x y w) := by
  obtain ⟨f, A, hx⟩ := A.ex
  obtain ⟨g, B, hy⟩ := B.ex
  have A' := Lib.hid A; have hx' := Lib.hid hx; have B' := Lib.hid B; have hy' := Lib.hid hy
  clear A hx B hy
  go_enter Tryz.func114, Tryz.ntmps114
  go_wp2_with fail
  refine gen_calls (fun w' => Below w.heap.size w w' ∧ Box w' w.heap.size (.bool b) (.slice ao n nc) ∧ Box w' (w.heap.size + 1) (.bool c) (.slice bo m mc) ∧ Box w' (w.heap.size + 2) (.bool false) (.slice none 0 0) ∧ Box w' (w.heap.size + 3) (.bool false) (.slice none 0 0))
    ⟨(((((Below.refl _ w).alloc (Nat.le_refl _) _).alloc (by first | (simp; done) | (simp; omega)) _).alloc (by first | (simp; done) | (simp; omega)) _).alloc (by first | (simp; done) | (simp; omega)) _), ((((Box.new _ _ _ rfl).alloc _).alloc _).alloc _), (((Box.new _ _ _ (by first | (simp; done) | (simp; omega))).alloc _).alloc _), ((Box.new _ _ _ (by first | (simp; done) | (simp; omega))).alloc _), (Box.new _ _ _ (by first | (simp; done) | (simp; omega)))⟩ ?_
  rintro w0 ⟨hb0, x0, x1, x2, x3⟩
  refine (divMod_any ao bo n nc m mc f g _ (A'.out.below hb0) (B'.out.below hb0)).mono ?_
  rintro e w1 ⟨hb, h⟩
  have y0 := x0.later hb; have y1 := x1.later hb; have y2 := x2.later hb; have y3 := x3.later hb
  have hb1 := below_then hb0 (Nat.le_refl _) hb
  clear x0 x1 x2 x3 hb hb0
  rcases h with ⟨h0, rfl⟩ | ⟨h0, qo, qn, qc, q, ro, rn, rc, r, rfl, g1, g2, g3, g4, g5, g6, g7, g8⟩
  · have hb1' := Lib.hid hb1
    have hy0 : y = 0 := by rw [← hy'.out, h0]; cases c <;> rfl
    have hy0' := Lib.hid hy0
    have p0 := y2.c0; have p1 := y2.c1; have p2 := y2.fr 0; have p3 := y2.fr 1; have p4 := y3.c0; have p5 := y3.c1; have p6 := y3.fr 0; have p7 := y3.fr 1
    have z2 := Lib.hid ((y2.set (.bool false) (.slice none 0 0)).other (C := w.heap.size + 3) (by omega) (.bool false) (.slice none 0 0))
    have z3 := Lib.hid ((y3.other (C := w.heap.size + 2) (by omega) (.bool false) (.slice none 0 0)).set (.bool false) (.slice none 0 0))
    clear hb1 h0 hy0 y0 y1 y2 y3
    go_wp2_with fail
    have e0 := z2.out.c0; have e1 := z2.out.c1; have e2 := z3.out.c0; have e3 := z3.out.c1
    refine bodyPost_ret (v := .tuple #[.agg #[.bool false, .slice none 0 0], .agg #[.bool false, .slice none 0 0], .bool false]) (by simp [results, Tryz.results114, go_sem, e0, e1, e2, e3]) rfl ?_
    exact ⟨below_set (below_set hb1'.out (by omega) _ _) (by omega) _ _, .inl ⟨hy0'.out, rfl⟩⟩
  · have h0' := Lib.hid h0; have g5' := Lib.hid g5; have g6' := Lib.hid g6; have g7' := Lib.hid g7; have g8' := Lib.hid g8; have hb1' := Lib.hid hb1
    have p0 := y0.c0; have p1 := y1.c0
    have y0' := Lib.hid y0; have y1' := Lib.hid y1; have y2' := Lib.hid y2; have y3' := Lib.hid y3
    clear h0 g5 g6 g7 g8 hb1 y0 y1 y2 y3
    by_cases hbc : b = c
    · subst hbc
      go_wp2_with fail
      have hbw := Lib.hid hb1'.out.drew
      have x1 := y1'.out.drew; have x2 := y2'.out.drew; have x3 := y3'.out.drew
      go_region_held3 (fun w' => w'.cell? ⟨w.heap.size + 1, 0, none⟩ = some (.bool b))
        (first | with_reducible exact x1.c0 | with_reducible exact u1.c0 | with_reducible exact v1.c0 | with_reducible exact (v1.other (C := w.heap.size + 2) (by omega) _ _).c0 | with_reducible exact (v1.other (C := w.heap.size + 3) (by omega) _ _).c0 | with_reducible exact ((v1.other (C := w.heap.size + 2) (by omega) _ _).other (C := w.heap.size + 3) (by omega) _ _).c0 | with_reducible exact ((v1.other (C := w.heap.size + 3) (by omega) _ _).other (C := w.heap.size + 2) (by omega) _ _).c0)
        (first
        | (go_at_call_of 150 qo; refine (signed_any false qo _ qn qc q _ g1 g2 (g5'.out.below (Below.refl _ _).drew) g6'.out).mono ?_; rintro e w2 ⟨sb, so, sn, sc, rfl, hQ, hb2⟩; have u1 := x1.later hb2; have u2 := x2.later hb2; have u3 := x3.later hb2; have hb3 := below_then hbw.out (Nat.le_refl _) hb2; have g7 := g7'.out.below ((Below.refl _ _).drew.trans hb2))
        | (go_at_call_of 150 ro; refine (signed_any b ro _ rn rc r _ g3 g4 g7 g8'.out).mono ?_; rintro e w3 ⟨tb, to_, tn, tc, rfl, hR, hb4⟩; have v1 := u1.later hb4; have v2 := u2.later hb4; have v3 := u3.later hb4; have hb5 := below_then hb3 (Nat.le_refl _) hb4; have hQ3 := hQ.below hb4
           have q0 := v2.c0; have q1 := v2.c1; have q2 := v2.fr 0; have q3 := v2.fr 1; have q4 := v3.c0; have q5 := v3.c1; have q6 := v3.fr 0; have q7 := v3.fr 1))
      have z2 := (v2.set (.bool sb) (.slice so sn sc)).other (C := w.heap.size + 3) (by omega) (.bool tb) (.slice to_ tn tc)
      have z3 := (v3.other (C := w.heap.size + 2) (by omega) (.bool sb) (.slice so sn sc)).set (.bool tb) (.slice to_ tn tc)
      have e0 := z2.c0; have e1 := z2.c1; have e2 := z3.c0; have e3 := z3.c1
      have hQ3' := Lib.hid hQ3; have hR' := Lib.hid hR; have v2' := Lib.hid v2; have v3' := Lib.hid v3; have hb5' := Lib.hid hb5
      clear z2 z3 q0 q1 q2 q3 q4 q5 q6 q7 hQ hR hb2 hb3 hb4 hb5 u1 u2 u3 v1 v2 v3 x1 x2 x3 g7 hQ3
      go_wp2_with fail
      refine bodyPost_ret (v := .tuple #[.agg #[.bool sb, .slice so sn sc], .agg #[.bool tb, .slice to_ tn tc], .bool true]) (by simp [results, Tryz.results114, go_sem, e0, e1, e2, e3]) rfl ?_
      have hy0 : y ≠ 0 := by
        rw [← hy'.out]
        intro e
        have e1 := congrArg Int.natAbs e
        rw [sgn_abs] at e1
        exact h0'.out (by simpa using e1)
      exact IDivPost.stored hQ3'.out hR'.out v2'.out v3'.out (by omega) hb5'.out (by omega) (by omega) hy0 (by rw [← hx'.out, ← hy'.out]; exact fdiv_same b h0'.out)
    · have hbc' : (b == c) = false := by simp [hbc]
      by_cases hr : rn = 0
      · subst hr
        go_wp2_with fail
        have hbw := Lib.hid hb1'.out.drew
        have x1 := y1'.out.drew; have x2 := y2'.out.drew; have x3 := y3'.out.drew
        go_region_held3 (fun w' => w'.cell? ⟨w.heap.size + 1, 0, none⟩ = some (.bool c))
          (first | with_reducible exact x1.c0 | with_reducible exact u1.c0 | with_reducible exact v1.c0 | with_reducible exact (v1.other (C := w.heap.size + 2) (by omega) _ _).c0 | with_reducible exact (v1.other (C := w.heap.size + 3) (by omega) _ _).c0 | with_reducible exact ((v1.other (C := w.heap.size + 2) (by omega) _ _).other (C := w.heap.size + 3) (by omega) _ _).c0 | with_reducible exact ((v1.other (C := w.heap.size + 3) (by omega) _ _).other (C := w.heap.size + 2) (by omega) _ _).c0)
          (first
          | (go_at_call_of 150 qo; refine (signed_any true qo _ qn qc q _ g1 g2 (g5'.out.below (Below.refl _ _).drew) g6'.out).mono ?_; rintro e w2 ⟨sb, so, sn, sc, rfl, hQ, hb2⟩; have u1 := x1.later hb2; have u2 := x2.later hb2; have u3 := x3.later hb2; have hb3 := below_then hbw.out (Nat.le_refl _) hb2; have g7 := g7'.out.below ((Below.refl _ _).drew.trans hb2))
          | (go_at_call_of 150 ro; refine (signed_any c ro _ 0 rc r _ g3 g4 g7 g8'.out).mono ?_; rintro e w3 ⟨tb, to_, tn, tc, rfl, hR, hb4⟩; have v1 := u1.later hb4; have v2 := u2.later hb4; have v3 := u3.later hb4; have hb5 := below_then hb3 (Nat.le_refl _) hb4; have hQ3 := hQ.below hb4
             have q0 := v2.c0; have q1 := v2.c1; have q2 := v2.fr 0; have q3 := v2.fr 1; have q4 := v3.c0; have q5 := v3.c1; have q6 := v3.fr 0; have q7 := v3.fr 1))
        have z2 := (v2.set (.bool sb) (.slice so sn sc)).other (C := w.heap.size + 3) (by omega) (.bool tb) (.slice to_ tn tc)
        have z3 := (v3.other (C := w.heap.size + 2) (by omega) (.bool sb) (.slice so sn sc)).set (.bool tb) (.slice to_ tn tc)
        have e0 := z2.c0; have e1 := z2.c1; have e2 := z3.c0; have e3 := z3.c1
        have hQ3' := Lib.hid hQ3; have hR' := Lib.hid hR; have v2' := Lib.hid v2; have v3' := Lib.hid v3; have hb5' := Lib.hid hb5
        clear z2 z3 q0 q1 q2 q3 q4 q5 q6 q7 hQ hR hb2 hb3 hb4 hb5 u1 u2 u3 v1 v2 v3 x1 x2 x3 g7 hQ3
        go_wp2_with fail
        refine bodyPost_ret (v := .tuple #[.agg #[.bool sb, .slice so sn sc], .agg #[.bool tb, .slice to_ tn tc], .bool true]) (by simp [results, Tryz.results114, go_sem, e0, e1, e2, e3]) rfl ?_
        have hy0 : y ≠ 0 := by
          rw [← hy'.out]
          intro e
          have e1 := congrArg Int.natAbs e
          rw [sgn_abs] at e1
          exact h0'.out (by simpa using e1)
        exact IDivPost.stored hQ3'.out hR'.out v2'.out v3'.out (by omega) hb5'.out (by omega) (by omega) hy0 (by rw [← hx'.out, ← hy'.out]; exact fdiv_even hbc h0'.out (g8'.out.ne_zero.1 rfl))
      · have hr0 := Nat.pos_of_ne_zero hr
        have hlt := Lib.hid (val_lt A'.out.lim)
        have hfew := Lib.hid (small A'.out.few hlt.out)
        have hQa := Lib.hid (g6'.out.arg g5'.out g1 g2 (Nat.lt_of_le_of_lt (Nat.div_le_self _ _) hfew.out))
        have hRa := Lib.hid (g8'.out.arg g7'.out g3 g4 (Nat.lt_of_le_of_lt (Nat.mod_le _ _) hfew.out))
        have hrv := Lib.hid g8'.out.val; have hqv := Lib.hid g6'.out.val
        have hrn : Hid (val f n % val g m ≠ 0) := Lib.hid (fun e => hr (g8'.out.ne_zero.2 e))
        clear hr
        go_wp2_with fail
        refine gen_calls (fun w' => Below w1.heap.size w1 w' ∧ Sl w' (some ⟨w1.heap.size, 0, none⟩) 1 (fun _ => 1)) ⟨(Below.refl _ _).alloc (Nat.le_refl _) _, sl_new1 w1 _ _ _ rfl⟩ ?_
        rintro w4 ⟨k2, ks⟩
        refine (add_any qo (some ⟨w1.heap.size, 0, none⟩) qn qc 1 1 q (fun _ => 1) _ (hQa.out.below k2) ⟨Nat.le_refl _, by omega, by omega, ks, fun _ _ => (by decide : 1 < 4294967296)⟩).mono ?_
        have e1 : val (fun _ => 1) 1 = 1 := by simp [val, pw]
        rw [e1, hqv.out]
        clear e1 g1 g2 g5' g6' ks
        rintro e w5 ⟨qo, qn, qc, q, rfl, g1, g2, g5, g6, hb6⟩
        have hb7 := k2.trans (hb6.mono k2.size)
        have hb1' := Lib.hid (below_then hb1'.out (Nat.le_refl _) hb7)
        have y1' := Lib.hid (y1'.out.later hb7); have y2' := Lib.hid (y2'.out.later hb7); have y3' := Lib.hid (y3'.out.later hb7)
        have hRa := Lib.hid (hRa.out.below hb7)
        have g5' := Lib.hid g5; have g6' := Lib.hid g6
        have p1 := y1'.out.c1
        clear k2 hb6 hb7 g5 g6 p0 y0'
        go_wp2_with fail
        refine (sub_any bo ro m mc rn rc g r _ (B'.out.below hb1'.out) hRa.out).mono ?_
        rw [hrv.out]
        rintro e w6 ⟨hb8, h⟩
        rcases h with ⟨h, _⟩ | ⟨_, so, sn, sc, s, rfl, k3, k4, k7, k8⟩
        · exact absurd h (Nat.not_lt.2 (Nat.le_of_lt (Nat.mod_lt _ (Nat.pos_of_ne_zero h0'.out))))
        have hb1' := Lib.hid (below_then hb1'.out (Nat.le_refl _) hb8)
        have y1' := Lib.hid (y1'.out.later hb8); have y2' := Lib.hid (y2'.out.later hb8); have y3' := Lib.hid (y3'.out.later hb8)
        have g5' := Lib.hid (g5'.out.below hb8)
        have g7' := Lib.hid k7; have g8' := Lib.hid k8
        have p1 := y1'.out.c0
        clear hb8 k7 k8 g3 g4 hRa
        go_wp2_with fail
        have hbw := Lib.hid hb1'.out.drew
        have x1 := y1'.out.drew; have x2 := y2'.out.drew; have x3 := y3'.out.drew
        go_region_held3 (fun w' => w'.cell? ⟨w.heap.size + 1, 0, none⟩ = some (.bool c))
          (first | with_reducible exact x1.c0 | with_reducible exact u1.c0 | with_reducible exact v1.c0 | with_reducible exact (v1.other (C := w.heap.size + 2) (by omega) _ _).c0 | with_reducible exact (v1.other (C := w.heap.size + 3) (by omega) _ _).c0 | with_reducible exact ((v1.other (C := w.heap.size + 2) (by omega) _ _).other (C := w.heap.size + 3) (by omega) _ _).c0 | with_reducible exact ((v1.other (C := w.heap.size + 3) (by omega) _ _).other (C := w.heap.size + 2) (by omega) _ _).c0)
          (first
          | (go_at_call_of 150 qo; refine (signed_any true qo _ qn qc q _ g1 g2 (g5'.out.below (Below.refl _ _).drew) g6'.out).mono ?_; rintro e w2 ⟨sb, vo, vn, vc, rfl, hQ, hb2⟩; have u1 := x1.later hb2; have u2 := x2.later hb2; have u3 := x3.later hb2; have hb3 := below_then hbw.out (Nat.le_refl _) hb2; have g7 := g7'.out.below ((Below.refl _ _).drew.trans hb2))
          | (go_at_call_of 150 so; refine (signed_any c so _ sn sc s _ k3 k4 g7 g8'.out).mono ?_; rintro e w3 ⟨tb, to_, tn, tc, rfl, hR, hb4⟩; have v1 := u1.later hb4; have v2 := u2.later hb4; have v3 := u3.later hb4; have hb5 := below_then hb3 (Nat.le_refl _) hb4; have hQ3 := hQ.below hb4
             have q0 := v2.c0; have q1 := v2.c1; have q2 := v2.fr 0; have q3 := v2.fr 1; have q4 := v3.c0; have q5 := v3.c1; have q6 := v3.fr 0; have q7 := v3.fr 1))
        have z2 := (v2.set (.bool sb) (.slice vo vn vc)).other (C := w.heap.size + 3) (by omega) (.bool tb) (.slice to_ tn tc)
        have z3 := (v3.other (C := w.heap.size + 2) (by omega) (.bool sb) (.slice vo vn vc)).set (.bool tb) (.slice to_ tn tc)
        have e0 := z2.c0; have e1 := z2.c1; have e2 := z3.c0; have e3 := z3.c1
        have hQ3' := Lib.hid hQ3; have hR' := Lib.hid hR; have v2' := Lib.hid v2; have v3' := Lib.hid v3; have hb5' := Lib.hid hb5
        clear z2 z3 q0 q1 q2 q3 q4 q5 q6 q7 hQ hR hb2 hb3 hb4 hb5 u1 u2 u3 v1 v2 v3 x1 x2 x3 g7 hQ3
        go_wp2_with fail
        refine bodyPost_ret (v := .tuple #[.agg #[.bool sb, .slice vo vn vc], .agg #[.bool tb, .slice to_ tn tc], .bool true]) (by simp [results, Tryz.results114, go_sem, e0, e1, e2, e3]) rfl ?_
        have hy0 : y ≠ 0 := by
          rw [← hy'.out]
          intro e
          have e1 := congrArg Int.natAbs e
          rw [sgn_abs] at e1
          exact h0'.out (by simpa using e1)
        exact IDivPost.stored hQ3'.out hR'.out v2'.out v3'.out (by omega) hb5'.out (by omega) (by omega) hy0 (by rw [← hx'.out, ← hy'.out]; exact fdiv_odd hbc h0'.out hrn.out)
end Go.Proofs.YtaepelipkkmeaaaGreat
namespace Go.Proofs.YtaepelipkkmeaaaGreat
open Go.RowKit Num
attribute [local go_sem ↓] Go.wp_at_zero Go.wp_at_succ
theorem upper_any (ab : Bool) (ap aq : Option Addr) (an ac am ae : Nat) (w : World) :
  Calls Tryz.prog 107 #[.agg #[.bool ab, .slice ap an ac, .slice aq am ae]] w (Says (.agg #[.bool ab, .slice ap an ac]) w) := by
 go_enter Tryz.func107, Tryz.ntmps107
 go_wp2_with fail
 refine bodyPost_ret (v := .agg #[.bool ab, .slice ap an ac]) (by simp [results, Tryz.results107, go_sem]) rfl ?_
 exact ⟨rfl, ((Below.refl _ w).alloc (Nat.le_refl _) _).alloc (by simp) _⟩
theorem lower_any (ab : Bool) (ap aq : Option Addr) (an ac am ae : Nat) (w : World) :
  Calls Tryz.prog 113 #[.agg #[.bool ab, .slice ap an ac, .slice aq am ae]] w (Says (.agg #[.bool false, .slice aq am ae]) w) := by
 go_enter Tryz.func113, Tryz.ntmps113
 go_wp2_with fail
 refine bodyPost_ret (v := .agg #[.bool false, .slice aq am ae]) (by simp [results, Tryz.results113, go_sem]) rfl ?_
 exact ⟨rfl, ((Below.refl _ w).alloc (Nat.le_refl _) _).alloc (by simp) _⟩
theorem long_no (ao : Option Addr) (n nc : Nat) (w : World) (h : n ≤ 32) :
  Calls Tryz.prog 151 #[.slice ao n nc] w (Says (.bool false) w) := by
 have hd : decide ((32 : Int) < (n : Int)) = false := by rw [decide_eq_false_iff_not]; omega
 go_enter Tryz.func151, Tryz.ntmps151
 go_wp2_with fail
 go_ret
 exact ⟨rfl, Below.refl _ w⟩
theorem long_yes (ao : Option Addr) (n nc : Nat) (w : World) (h : 32 < n) :
  Calls Tryz.prog 151 #[.slice ao n nc] w (Says (.bool true) w) := by
 have hd : decide ((32 : Int) < (n : Int)) = true := by rw [decide_eq_true_iff]; omega
 go_enter Tryz.func151, Tryz.ntmps151
 go_wp2_with fail
 go_ret
 exact ⟨rfl, Below.refl _ w⟩
theorem over_any (b : Bool) (ao bo : Option Addr) (n nc m mc : Nat) (x : Int) (g : Nat → Nat) (w : World) (A : Right w b ao n nc x) (B : Arg w bo m mc g) :
  Calls Tryz.prog 105 #[.agg #[.bool b, .slice ao n nc], .slice bo m mc] w (RatPost x (val g m) w) := by
 have A' := Lib.hid A; have B' := Lib.hid B
 clear A B
 go_enter Tryz.func105, Tryz.ntmps105
 go_wp2_with fail
 refine gen_wp (fun w' => Below w.heap.size w w' ∧ Box w' w.heap.size (.bool b) (.slice ao n nc) ∧ Box3 w' (w.heap.size + 1) (.bool false) (.slice none 0 0) (.slice none 0 0))
  ⟨(((Below.refl _ _).alloc (Nat.le_refl _) _).alloc (by simp <;> omega) _), ((Box.new _ _ _ rfl).alloc _), (Box3.new _ _ _ _ (by simp <;> omega))⟩ ?_
 rintro w0 ⟨bb, x0, x1⟩
 have bb := bb.drew; have x0 := x0.drew; have x1 := x1.drew
 have sa0 := True.intro
 go_region_held3 (fun w' => w'.cell? ⟨w.heap.size, 0, none⟩ = some (.bool b) ∧ w'.cell? ⟨w.heap.size, 1, none⟩ = some (.slice ao n nc))
  (first | with_reducible exact ⟨x0.c0, x0.c1⟩ | with_reducible exact ⟨(x0.other3 (by omega) _ _ _).c0, (x0.other3 (by omega) _ _ _).c1⟩ | go_keep)
  (first
  | (go_at_call 149; clear sa0; refine (norm_any bo m mc g _ (B'.out.below bb)).mono ?_; rintro e w' ⟨co, cn, cc, c, rfl, h1, h2, h3, h4, hb⟩; have bb := below_then bb (Nat.le_refl _) hb; have x0 := x0.later hb; have x1 := x1.later hb; clear hb; have q0 := x1.c0; have q1 := x1.c1; have q2 := x1.c2; have q3 := x1.fr 0; have q4 := x1.fr 1; have q5 := x1.fr 2; have sa1 := True.intro))
 have z := x1.set (.bool b) (.slice ao n nc) (.slice co cn cc)
 have e0 := z.c0; have e1 := z.c1; have e2 := z.c2
 have hR : Hid (Rt w' b ao n nc co cn cc x (val g m)) := Lib.hid ⟨A'.out.below bb, canon_right (b := false) h1 h2 h3 h4 (.inr rfl)⟩
 have x1' := Lib.hid x1; have bb' := Lib.hid bb
 clear z h3 h4 x1 bb x0 A' B'
 go_wp2_with fail
 refine bodyPost_ret (v := .agg #[.bool b, .slice ao n nc, .slice co cn cc]) (by simp [results, Tryz.results105, go_sem, e0, e1, e2]) rfl ?_
 exact RatPost.stored hR.out x1'.out bb'.out (by omega)
theorem make_bad {p q e : Int} {w w' : World} {E : Ending} (h : mkE p q = e) (he : e ≠ 0) (k : ResPost 0 0 e w E w') : MakePost p q w E w' := by
 subst h
 show ResPost (mkT p q) (mkB p q) (mkE p q) w E w'
 rw [(mk_bad he).1, (mk_bad he).2]
 exact k
theorem make_good {p q : Int} {w w' : World} {E : Ending} (h : mkE p q = 0) (k : ResPost (mkT p q) (mkB p q) 0 w E w') : MakePost p q w E w' := by
 show ResPost (mkT p q) (mkB p q) (mkE p q) w E w'
 rw [h]
 exact k
theorem whole_abs {w : World} {b : Bool} {ao : Option Addr} {n nc : Nat} {x : Int} (h : Whole w b ao n nc x) : ∃ f, Arg w ao n nc f ∧ val f n = x.natAbs := by
 obtain ⟨f, A, rfl⟩ := h.ex
 exact ⟨f, A, by rw [sgn_abs]⟩
theorem mkE_three {p q : Int} (h : q = 0) : mkE p q = 3 := mk_three.2 h
theorem mkE_seven {p q : Int} (h : q ≠ 0) (k : pw 32 ≤ p.natAbs / mkG p q ∨ pw 32 ≤ q.natAbs / mkG p q) : mkE p q = 7 := by
 unfold mkE
 rw [if_neg h, if_neg (by omega)]
theorem canon_long {v n : Nat} {f : Nat → Nat} (c : Canon v n f) (h : 32 < n) : pw 32 ≤ v := by
 apply Nat.le_of_not_lt
 intro hl
 have := c.len_le hl
 omega
theorem canon_short {v n : Nat} {f : Nat → Nat} (c : Canon v n f) (h : n ≤ 32) : v < pw 32 := Nat.lt_of_lt_of_le c.lt_pw (pw_le h)
theorem sign_small (p q : Int) : IntKind.i64.wrap (p.sign * q.sign) = p.sign * q.sign := by
 have e : (p * q).sign = p.sign * q.sign := Int.sign_mul ..
 rw [← e]
 rcases Int.lt_trichotomy (p * q) 0 with h | h | h
 ·rw [Int.sign_eq_neg_one_of_neg h]; rfl
 ·rw [h]; rfl
 ·rw [Int.sign_eq_one_of_pos h]; rfl
theorem make_any (b c : Bool) (ao bo : Option Addr) (n nc m mc : Nat) (p q : Int) (w : World) (A : Whole w b ao n nc p) (B : Whole w c bo m mc q) :
  Calls Tryz.prog 111 #[.agg #[.bool b, .slice ao n nc], .agg #[.bool c, .slice bo m mc]] w (MakePost p q w) := by
 have A' := Lib.hid A; have B' := Lib.hid B
 clear A B
 go_enter Tryz.func111, Tryz.ntmps111
 go_wp2_with fail
 refine gen_calls (fun w' => Below w.heap.size w w' ∧ Box w' w.heap.size (.bool b) (.slice ao n nc) ∧ Box w' (w.heap.size + 1) (.bool c) (.slice bo m mc) ∧ Box3 w' (w.heap.size + 2) (.bool false) (.slice none 0 0) (.slice none 0 0))
  ⟨((((Below.refl _ _).alloc (Nat.le_refl _) _).alloc (by simp <;> omega) _).alloc (by simp <;> omega) _), (((Box.new _ _ _ rfl).alloc _).alloc _), ((Box.new _ _ _ (by simp <;> omega)).alloc _), (Box3.new _ _ _ _ (by simp <;> omega))⟩ ?_
 rintro w0 ⟨hb0, x0, x1, x2⟩
 refine (wSign_any c bo m mc q _ (B'.out.below hb0)).mono ?_
 by_cases hq : q = 0
 ·have hs : q.sign = 0 := by rw [hq]; rfl
  rw [hs]
  have hE := Lib.hid (mkE_three (p := p) hq)
  clear hs hq
  rintro e w1 ⟨rfl, hb⟩
  have x2 := x2.later hb
  have bb := Lib.hid (below_then hb0 (Nat.le_refl _) hb)
  have x2' := Lib.hid x2
  have q0 := x2.c0; have q1 := x2.c1; have q2 := x2.c2; have q3 := x2.fr 0; have q4 := x2.fr 1; have q5 := x2.fr 2
  have z := x2.set (.bool false) (.slice none 0 0) (.slice none 0 0)
  have e0 := z.c0; have e1 := z.c1; have e2 := z.c2
  clear x0 x1 x2 hb hb0 z A' B'
  go_wp2_with fail
  refine bodyPost_ret (v := .tuple #[.agg #[.bool false, .slice none 0 0, .slice none 0 0], .int .i64 3]) (by simp [results, Tryz.results111, go_sem, e0, e1, e2]) rfl ?_
  exact make_bad hE.out (by decide) (ResPost.stored (rt_zero _) x2'.out bb.out (by omega))
 have hs : ¬ q.sign = 0 := fun e => hq (Int.sign_eq_zero_iff_zero.1 e)
 have hq' := Lib.hid hq
 clear hq
 rintro e w1 ⟨rfl, hb⟩
 have x0 := x0.later hb; have x1 := x1.later hb; have x2 := Lib.hid (x2.later hb)
 have bb := Lib.hid (below_then hb0 (Nat.le_refl _) hb)
 have A1 := Lib.hid (A'.out.below bb.out); have B1 := Lib.hid (B'.out.below bb.out)
 have p0 := x0.c1; have p1 := x1.c1
 have x0' := Lib.hid x0; have x1' := Lib.hid x1
 clear hb hb0 A' B' x0 x1
 go_wp2_with fail
 clear p0 p1 hs
 obtain ⟨f, hF, hf⟩ := whole_abs A1.out
 obtain ⟨g, hG, hg⟩ := whole_abs B1.out
 have hF := Lib.hid hF; have hf := Lib.hid hf; have hG := Lib.hid hG; have hg := Lib.hid hg
 refine (gcd_any ao bo n nc m mc f g _ hF.out hG.out).mono ?_
 rw [hf.out, hg.out]
 rintro e w2 ⟨go, gn, gc, gf, rfl, g1, g2, g3, g4, hb⟩
 have g4 : Hid (Canon (mkG p q) gn gf) := Lib.hid g4
 have hfew : Hid (mkG p q < pw 1000000) := Lib.hid (Nat.lt_of_le_of_lt (Nat.le_of_dvd (by have := hq'.out; omega) (Nat.gcd_dvd_right _ _)) (by rw [← hg.out]; exact small2 hG.out.few (val_lt hG.out.lim)))
 have gA := Lib.hid (g4.out.arg g3 g1 g2 hfew.out)
 have bb := Lib.hid (below_then bb.out (Nat.le_refl _) hb)
 have x0 := x0'.out.later hb; have x1 := x1'.out.later hb; have x2 := Lib.hid (x2.out.later hb)
 have hF := Lib.hid (hF.out.below hb); have hG := Lib.hid (hG.out.below hb); have A1 := Lib.hid (A1.out.below hb); have B1 := Lib.hid (B1.out.below hb)
 have p0 := x0.c1
 have x0' := Lib.hid x0; have x1' := Lib.hid x1
 clear hb g3 hfew x0 x1
 go_wp2_with fail
 clear p0
 refine (divMod_any ao go n nc gn gc f gf _ hF.out gA.out).mono ?_
 rw [hf.out, g4.out.val]
 rintro e w3 ⟨hb, h⟩
 have hg0 : Hid (mkG p q ≠ 0) := Lib.hid (Nat.pos_iff_ne_zero.1 (mkG_pos hq'.out))
 rcases h with ⟨h, _⟩ | ⟨_, to_, tn, tc, tf, ro, rn, rc, rf, rfl, t1, t2, _, _, t3, t4, _, _⟩
 ·exact absurd h hg0.out
 have t3 := Lib.hid t3; have t4 := Lib.hid t4
 have bb := Lib.hid (below_then bb.out (Nat.le_refl _) hb)
 have x0 := x0'.out.later hb; have x1 := x1'.out.later hb; have x2 := Lib.hid (x2.out.later hb)
 have hG := Lib.hid (hG.out.below hb); have A1 := Lib.hid (A1.out.below hb); have B1 := Lib.hid (B1.out.below hb); have gA := Lib.hid (gA.out.below hb)
 have p0 := x1.c1
 have x0' := Lib.hid x0; have x1' := Lib.hid x1
 clear hb x0 x1 hF
 go_wp2_with fail
 clear p0
 refine (divMod_any bo go m mc gn gc g gf _ hG.out gA.out).mono ?_
 rw [hg.out, g4.out.val]
 rintro e w4 ⟨hb, h⟩
 rcases h with ⟨h, _⟩ | ⟨_, uo, un, uc, uf, ro', rn', rc', rf', rfl, u1, u2, _, _, u3, u4, _, _⟩
 ·exact absurd h hg0.out
 have u3 := Lib.hid u3; have u4 := Lib.hid u4; have t3 := Lib.hid (t3.out.below hb)
 have bb := Lib.hid (below_then bb.out (Nat.le_refl _) hb)
 have x0' := Lib.hid (x0'.out.later hb); have x1' := Lib.hid (x1'.out.later hb); have x2 := Lib.hid (x2.out.later hb)
 have A1 := Lib.hid (A1.out.below hb); have B1 := Lib.hid (B1.out.below hb)
 clear hb hG gA
 by_cases ht : 32 < tn
 ·have hE := Lib.hid (mkE_seven hq'.out (.inl (canon_long t4.out ht)))
  go_wp2_with fail
  refine (long_yes to_ tn tc _ ht).mono ?_
  rintro e w5 ⟨rfl, hb⟩
  have bb := Lib.hid (below_then bb.out (Nat.le_refl _) hb)
  have x2 := x2.out.later hb
  have x2' := Lib.hid x2
  have q0 := x2.c0; have q1 := x2.c1; have q2 := x2.c2; have q3 := x2.fr 0; have q4 := x2.fr 1; have q5 := x2.fr 2
  have z := x2.set (.bool false) (.slice none 0 0) (.slice none 0 0)
  have e0 := z.c0; have e1 := z.c1; have e2 := z.c2
  clear x2 hb z ht
  go_wp2_with fail
  refine bodyPost_ret (v := .tuple #[.agg #[.bool false, .slice none 0 0, .slice none 0 0], .int .i64 7]) (by simp [results, Tryz.results111, go_sem, e0, e1, e2]) rfl ?_
  exact make_bad hE.out (by decide) (ResPost.stored (rt_zero _) x2'.out bb.out (by omega))
 have ht' := Lib.hid ht
 clear ht
 go_wp2_with fail
 refine (long_no to_ tn tc _ (Nat.le_of_not_lt ht'.out)).mono ?_
 rintro e w5 ⟨rfl, hb⟩
 have bb := Lib.hid (below_then bb.out (Nat.le_refl _) hb)
 have x0' := Lib.hid (x0'.out.later hb); have x1' := Lib.hid (x1'.out.later hb); have x2 := Lib.hid (x2.out.later hb)
 have A1 := Lib.hid (A1.out.below hb); have B1 := Lib.hid (B1.out.below hb); have t3 := Lib.hid (t3.out.below hb); have u3 := Lib.hid (u3.out.below hb)
 clear hb
 by_cases hu : 32 < un
 ·have hE := Lib.hid (mkE_seven hq'.out (.inr (canon_long u4.out hu)))
  go_wp2_with fail
  refine (long_yes uo un uc _ hu).mono ?_
  rintro e w6 ⟨rfl, hb⟩
  have bb := Lib.hid (below_then bb.out (Nat.le_refl _) hb)
  have x2 := x2.out.later hb
  have x2' := Lib.hid x2
  have q0 := x2.c0; have q1 := x2.c1; have q2 := x2.c2; have q3 := x2.fr 0; have q4 := x2.fr 1; have q5 := x2.fr 2
  have z := x2.set (.bool false) (.slice none 0 0) (.slice none 0 0)
  have e0 := z.c0; have e1 := z.c1; have e2 := z.c2
  clear x2 hb z hu
  go_wp2_with fail
  refine bodyPost_ret (v := .tuple #[.agg #[.bool false, .slice none 0 0, .slice none 0 0], .int .i64 7]) (by simp [results, Tryz.results111, go_sem, e0, e1, e2]) rfl ?_
  exact make_bad hE.out (by decide) (ResPost.stored (rt_zero _) x2'.out bb.out (by omega))
 have hu' := Lib.hid hu
 clear hu
 go_wp2_with fail
 refine (long_no uo un uc _ (Nat.le_of_not_lt hu'.out)).mono ?_
 rintro e w6 ⟨rfl, hb⟩
 have bb := Lib.hid (below_then bb.out (Nat.le_refl _) hb)
 have x0' := Lib.hid (x0'.out.later hb); have x1' := Lib.hid (x1'.out.later hb); have x2 := Lib.hid (x2.out.later hb)
 have A1 := Lib.hid (A1.out.below hb); have B1 := Lib.hid (B1.out.below hb); have t3 := Lib.hid (t3.out.below hb); have u3 := Lib.hid (u3.out.below hb)
 have hE : Hid (mkE p q = 0) := Lib.hid (mkE_ok.2 ⟨hq'.out, canon_short t4.out (Nat.le_of_not_lt ht'.out), canon_short u4.out (Nat.le_of_not_lt hu'.out)⟩)
 clear hb
 go_wp2_with fail
 have bb := bb.out.drew; have x0 := x0'.out.drew; have x1 := x1'.out.drew; have x2 := x2.out.drew
 have A1 := A1.out.below (Below.refl _ _).drew; have B1 := B1.out.below (Below.refl _ _).drew
 have t3 := t3.out.below (Below.refl _ _).drew; have u3 := u3.out.below (Below.refl _ _).drew
 clear x0' x1'
 have sb0 := True.intro
 go_region_held3 (fun w' => w'.cell? ⟨w.heap.size, 0, none⟩ = some (.bool b) ∧ w'.cell? ⟨w.heap.size, 1, none⟩ = some (.slice ao n nc) ∧ w'.cell? ⟨(w.heap.size + 1), 0, none⟩ = some (.bool c) ∧ w'.cell? ⟨(w.heap.size + 1), 1, none⟩ = some (.slice bo m mc))
  (first | with_reducible exact ⟨x0.c0, x0.c1, x1.c0, x1.c1⟩ | with_reducible exact ⟨(x0.other3 (by omega) _ _ _).c0, (x0.other3 (by omega) _ _ _).c1, (x1.other3 (by omega) _ _ _).c0, (x1.other3 (by omega) _ _ _).c1⟩ | go_keep)
  (first
  | (go_at_call 110; clear sb0; refine (wSign_any b ao n nc p _ A1).mono ?_; rintro e w' ⟨rfl, hb⟩; have bb := below_then bb (Nat.le_refl _) hb; have x0 := x0.later hb; have x1 := x1.later hb; have x2 := x2.later hb; have A1 := A1.below hb; have B1 := B1.below hb; have t3 := t3.below hb; have u3 := u3.below hb; clear hb; have sb1 := True.intro)
  | (go_at_call 110; clear sb1; refine (wSign_any c bo m mc q _ B1).mono ?_; rintro e w' ⟨rfl, hb⟩; have bb := below_then bb (Nat.le_refl _) hb; have x0 := x0.later hb; have x1 := x1.later hb; have x2 := x2.later hb; have A1 := A1.below hb; have B1 := B1.below hb; have t3 := t3.below hb; have u3 := u3.below hb; clear hb; have q0 := x2.c0; have q1 := x2.c1; have q2 := x2.c2; have q3 := x2.fr 0; have q4 := x2.fr 1; have q5 := x2.fr 2; have sb2 := True.intro))
 have z := x2.set (.bool (decide (p.sign * q.sign < 0))) (.slice to_ tn tc) (.slice uo un uc)
 have e0 := z.c0; have e1 := z.c1; have e2 := z.c2
 have hR : Hid (Rt w' (decide (p.sign * q.sign < 0)) to_ tn tc uo un uc (mkT p q) (mkB p q)) := Lib.hid ⟨by
  rw [mkT_ok hE.out]
  refine canon_right t1 t2 t3 t4.out ?_
  by_cases h0 : 0 < tn
  ·exact .inl h0
  ·refine .inr ?_
   have : tn = 0 := by omega
   have e := t4.out.ne_zero.1 this
   have hp : p = 0 := by
    rcases Nat.div_eq_zero_iff.1 e with h | h
    ·exact absurd h hg0.out
    ·have hd : mkG p q ∣ p.natAbs := Nat.gcd_dvd_left _ _
     have := Nat.eq_zero_of_dvd_of_lt hd h
     omega
   rw [hp]; simp, by
  rw [mkB_ok hE.out]
  exact canon_right (b := false) u1 u2 u3 u4.out (.inr rfl)⟩
 have x2' := Lib.hid x2; have bb' := Lib.hid bb
 clear z x2 bb x0 x1 t3 u3 A1 B1
 go_wp2_with fail
 refine bodyPost_ret (v := .tuple #[.agg #[.bool (decide (p.sign * q.sign < 0)), .slice to_ tn tc, .slice uo un uc], .int .i64 0]) (by simp [results, Tryz.results111, go_sem, sign_small, e0, e1, e2]) rfl ?_
 have := ResPost.stored (E := 0) hR.out x2'.out bb'.out (Nat.le_add_right _ 2)
 refine make_good hE.out ?_
 simpa only [sign_small] using this
end Go.Proofs.YtaepelipkkmeaaaGreat
namespace Go.Proofs.YtaepelipkkmeaaaGreat
open Go.RowKit Num
def TimesPost (b N off m x : Nat) (F g : Nat → Nat) (w : World) (e : Ending) (w' : World) : Prop :=
 ∃ (c : Nat) (F' : Nat → Nat), e = .returned (.int .u32 c) ∧ c < 4294967296 ∧ Blk w' b N F' ∧ Lim F' N ∧ (∀ j, (j < off ∨ off + m ≤ j) → F' j = F j) ∧
  val (fun j => F' (off + j)) m + c * pw m = val (fun j => F (off + j)) m + x * val g m ∧ w.grownBy w' (some b)
theorem addTimes_any (b N off m cs : Nat) (bo : Option Addr) (mc x : Nat) (F g : Nat → Nat) (w : World) (hN : off + m ≤ N) (hmb : m ≤ 1000000)
  (hF : Blk w b N F) (lF : Lim F N) (hg : Sl w bo m g) (hi : Off b bo m) (lg : Lim g m) (hx : x < 4294967296) :
  Calls Tryz.prog 176 #[.slice (some ⟨b, off, none⟩) m cs, .slice bo m mc, .int .u32 x] w (TimesPost b N off m x F g w) := by
 have hF' := Lib.hid hF; have lF' := Lib.hid lF; have hg' := Lib.hid hg; have hi' := Lib.hid hi; have lg' := Lib.hid lg
 clear hF lF hg hi lg
 go_enter Tryz.func176, Tryz.ntmps176
 go_wp2_with fail
 go_loopw [7, 12] (fun cv i wr => ∃ (k : Nat) (G : Nat → Nat) (c : Nat), k ≤ m ∧ i = .int .i64 k ∧ cv = .int .u64 c ∧ c < 4294967296 ∧ Blk wr b N G ∧ Lim G N ∧ (∀ j, (j < off ∨ off + k ≤ j) → G j = F j) ∧
   val (fun j => G (off + j)) k + c * pw k = val (fun j => F (off + j)) k + x * val g k ∧ w.grownBy wr (some b))
  (fun _ i _ => m - (intOf i).toNat)
 case atStart => exact ⟨0, F, 0, Nat.zero_le _, rfl, rfl, by omega, hF'.out, lF'.out, fun _ _ => rfl, rfl, grown_refl _ _⟩
 case round =>
  obtain ⟨k, G, c, hk, rfl, rfl, hc, hblk1, hlim1, hsame1, hval1, hgr1⟩ := hrel
  have hlim := Lib.hid hlim1; have hval := Lib.hid hval1; have hgr := Lib.hid hgr1; have hblk := Lib.hid hblk1; have hsame := Lib.hid hsame1; clear hlim1 hval1 hgr1 hblk1 hsame1
  by_cases hlt : k < m
  ·have hcell := hblk.out.cell (off + k) (by omega)
   have hfree := hblk.out.free (off + k)
   have bG := hlim.out (off + k) (by omega)
   have bg := lg'.out k hlt
   have hfit0 := mul_fits hx bg bG hc
   have hsgr := hg'.out.grown hi'.out hgr.out
   rcases hsgr with h | ⟨b2, off2, rfl, hcg⟩
   ·omega
   have hcg' := hcg k hlt
   clear hcg
   have hne : b2 ≠ b := by
    rcases hi'.out with h | h
    ·omega
    ·exact h _ rfl
   obtain ⟨P, hP⟩ : ∃ P, P = x * g k := ⟨_, rfl⟩
   have hPi : (x : Int) * (g k : Int) = (P : Int) := by rw [hP]; exact (Int.natCast_mul x (g k)).symm
   rw [← hP] at hfit0
   have hP' := Lib.hid hP; clear hP
   go_wp2_with fail
   go_roundw
   case rel =>
    refine ⟨k + 1, put G (off + k) ((c + (P + G (off + k))) % 4294967296), (c + (P + G (off + k))) / 4294967296, by omega, by go_num, int_eq (by omega), by omega, hblk.out.set (off + k) (by omega) _ _ (by omega),
     put_lim hlim.out (Nat.mod_lt _ (by decide)), ?_, ?_, grown_setCell hgr.out _ _⟩
    ·intro j hj
     rw [put_ne (by omega)]
     exact hsame.out j (by omega)
    ·have e1 : val (fun j => put G (off + k) ((c + (P + G (off + k))) % 4294967296) (off + j)) k = val (fun j => G (off + j)) k := val_congr fun j hj => put_ne (by omega)
     have e2 : G (off + k) = F (off + k) := hsame.out _ (by omega)
     rw [val_succ, val_succ, val_succ, pw_succ, e1, put_at, ← e2]
     refine mul_step hval.out ?_
     rw [← hP'.out]
     omega
   case measure => simp [intOf]; omega
  ·obtain rfl : k = m := by omega
   go_wp2_with fail
   go_ret
   exact ⟨c, G, rfl, hc, hblk.out, hlim.out, hsame.out, hval.out, hgr.out⟩
theorem mul_any (ao bo : Option Addr) (n nc m mc : Nat) (f g : Nat → Nat) (w : World) (A : Arg w ao n nc f) (B : Arg w bo m mc g) :
  Calls Tryz.prog 154 #[.slice ao n nc, .slice bo m mc] w (NumPost (val f n * val g m) w) := by
 obtain ⟨hn, hnc, hnb, hf, lf⟩ := A
 obtain ⟨hm, hmc, hmb, hg, lg⟩ := B
 obtain ⟨i32, hi, hz0, hz1, hz2⟩ := info_parts info32
 go_enter Tryz.func154, Tryz.ntmps154
 go_wp2_with fail
 refine (trim_any ao n nc f w hn (by omega) hf).mono ?_
 rintro e w' ⟨k, hk, rfl, htf0, hvf0, rfl⟩
 have htf := Lib.hid htf0; have hvf := Lib.hid hvf0; clear htf0 hvf0
 go_wp2_with fail
 refine (trim_any bo m mc g w hm (by omega) hg).mono ?_
 rintro e w' ⟨l, hl, rfl, htg0, hvg0, rfl⟩
 have htg := Lib.hid htg0; have hvg := Lib.hid hvg0; clear htg0 hvg0
 go_wp2_with (at_make; refine wpList_make_full _ rfl (.tmp 16) (.tmp 16) 22 rfl w.heap.size 104 i32 (.int .u32 0) 1 Tryz.underlying22 hi hz0 hz1 .i64 .i64 _ _ (k + l) rfl rfl (by omega) (by omega) (by rw [hz2]; omega) (by unfold maxLen; omega) (Nat.le_refl _) ?_)
 intro w1 hown hgrow
 have hblk0 := Lib.hid (Blk.of_made hown)
 have hgr0 := Lib.hid (grown_any hgrow (some w.heap.size))
 clear hown hgrow
 have hsf := Lib.hid (hf.mono hk); have hsg := Lib.hid (hg.mono hl)
 have hlf := Lib.hid (lf.mono hk); have hlg := Lib.hid (lg.mono hl)
 clear hf hg lf lg
 go_wp2_with fail
 go_loopw [20] (fun i wr => ∃ (j : Nat) (F : Nat → Nat), j ≤ k ∧ i = .int .i64 j ∧ Blk wr w.heap.size (k + l) F ∧ Lim F (k + l) ∧ (∀ t, j + l ≤ t → F t = 0) ∧ val F (j + l) = val f j * val g l ∧ w.grownBy wr (some w.heap.size))
  (fun i _ => k - (intOf i).toNat)
 case atStart =>
  refine ⟨0, fun _ => 0, Nat.zero_le _, rfl, hblk0.out, fun j _ => (by decide : 0 < 4294967296), fun _ _ => rfl, ?_, hgr0.out⟩
  rw [Nat.zero_add, val_zero, Nat.zero_mul, val_noughts]
 case round =>
  obtain ⟨j, F, hj, rfl, hblk1, hlim1, hz1, hval1, hgr1⟩ := hrel
  have hlim := Lib.hid hlim1; have hval := Lib.hid hval1; have hgr := Lib.hid hgr1; have hblk := Lib.hid hblk1; have hz := Lib.hid hz1; clear hlim1 hval1 hgr1 hblk1 hz1
  have hsfr := hsf.out.grown hsf.out.off hgr.out
  have hsgr := Lib.hid (hsg.out.grown hsg.out.off hgr.out)
  by_cases hlt : j < k
  ·rcases hsfr with h | ⟨b, off, rfl, hcf⟩
   ·omega
   have hcf' := hcf j hlt
   have bf := hlf.out j hlt
   clear hcf
   go_wp2_with fail
   refine (addTimes_any w.heap.size (k + l) j l (k + l - j) bo mc (f j) F g wr (by omega) (by omega) hblk.out hlim.out hsgr.out hsg.out.off hlg.out bf).mono ?_
   rintro e w2 ⟨c, F', rfl, hc, hblk2, hlim2, hsame2, hval2, hgr2⟩
   have hlim' := Lib.hid hlim2; have hval' := Lib.hid hval2; have hgr' := Lib.hid (grown_trans hgr.out hgr2); have hblk' := Lib.hid hblk2; have hsame' := Lib.hid hsame2
   clear hlim2 hval2 hgr2 hblk2 hsame2
   have hcell := hblk'.out.cell (j + l) (by omega)
   have hfree := hblk'.out.free (j + l)
   go_wp2_with fail
   go_roundw
   case rel =>
    refine ⟨j + 1, put F' (j + l) c, by omega, by go_num, hblk'.out.set (j + l) (by omega) _ _ rfl, put_lim hlim'.out hc, ?_, ?_, grown_setCell hgr'.out _ _⟩
    ·intro t ht
     rw [put_ne (by omega), hsame'.out t (by omega)]
     exact hz.out t (by omega)
    ·rw [val_succ]
     exact mul_round (fun t ht => hsame'.out t (by omega)) hval'.out hval.out
   case measure => simp [intOf]; omega
  ·obtain rfl : j = k := by omega
   clear hsfr
   have hsl := Sl.of_blk0 hblk.out (j + l) (Nat.le_refl _)
   go_wp2_with fail
   refine (trim_any (some ⟨w.heap.size, 0, none⟩) (j + l) (j + l) F wr (Nat.le_refl _) (by omega) hsl).mono ?_
   rintro e w' ⟨q, hq, rfl, htq0, hvq0, rfl⟩
   have htq := Lib.hid htq0; have hvq := Lib.hid hvq0; clear htq0 hvq0
   go_wp2_with fail
   go_ret
   exact ⟨some ⟨w.heap.size, 0, none⟩, q, j + l, F, rfl, hq, by omega, hsl.mono hq, ⟨hlim.out.mono hq, htq.out, by rw [hvq.out, hval.out, hvf.out, hvg.out]⟩, grown_below hgr.out (Nat.le_refl _) (Nat.le_refl _)⟩
end Go.Proofs.YtaepelipkkmeaaaGreat
namespace Go.Proofs.YtaepelipkkmeaaaGreat
open Go.RowKit Num
attribute [local go_sem ↓] Go.wp_at_zero Go.wp_at_succ
theorem wNeg_any (b : Bool) (ao : Option Addr) (n nc : Nat) (x : Int) (w : World) (A : Whole w b ao n nc x) :
  Calls Tryz.prog 106 #[.agg #[.bool b, .slice ao n nc]] w (IntPost (-x) w) := by
 obtain ⟨f, A, hx⟩ := A.ex
 have A' := Lib.hid A; have hx' := Lib.hid hx
 clear A hx
 go_enter Tryz.func106, Tryz.ntmps106
 go_wp2_with fail
 refine gen_wp (fun w' => Below w.heap.size w w' ∧ Box w' w.heap.size (.bool b) (.slice ao n nc) ∧ Box w' (w.heap.size + 1) (.bool false) (.slice none 0 0))
  ⟨(((Below.refl _ w).alloc (Nat.le_refl _) _).alloc (by simp <;> omega) _), ((Box.new _ _ _ rfl).alloc _), (Box.new _ _ _ (by simp <;> omega))⟩ ?_
 rintro w0 ⟨hb0, x0, x1⟩
 have hb0 := hb0.drew; have x0 := x0.drew; have x1 := x1.drew
 go_region_held3 (fun w' => w'.cell? ⟨w.heap.size, 0, none⟩ = some (.bool b) ∧ w'.cell? ⟨w.heap.size, 1, none⟩ = some (.slice ao n nc))
  (first | exact ⟨x0.c0, x0.c1⟩ | exact ⟨y0.c0, y0.c1⟩ | exact ⟨z0.c0, z0.c1⟩ | exact ⟨(z0.other (by omega) _ _).c0, (z0.other (by omega) _ _).c1⟩)
  (first
  | (go_at_call 149; refine (norm_any ao n nc f _ (A'.out.below hb0)).mono ?_; rintro e w1 ⟨co, cn, cc, c, rfl, h1, h2, h3, h4, hb⟩; have y0 := x0.later hb; have y1 := x1.later hb)
  | (go_at_call 150; refine (signed_any (!b) co _ cn cc c _ h1 h2 h3 h4).mono ?_; rintro e w2 ⟨sb, so, sn, sc, rfl, hR, hb2⟩; have z0 := y0.later hb2; have z1 := y1.later hb2; have q1 := z1.c0; have q2 := z1.c1; have q3 := z1.fr 0; have q4 := z1.fr 1))
 have z2 := z1.set (.bool sb) (.slice so sn sc)
 have e0 := z2.c0; have e1 := z2.c1
 go_wp2_with fail
 refine bodyPost_ret (v := .agg #[.bool sb, .slice so sn sc]) (by simp [results, Tryz.results106, go_sem, e0, e1]) rfl ?_
 rw [← hx'.out, ← sgn_not]
 exact IntPost.stored hR z1 (below_then (below_then hb0 (Nat.le_refl _) hb) (Nat.le_refl _) hb2) (by omega)
theorem wMul_any (b c : Bool) (ao bo : Option Addr) (n nc m mc : Nat) (x y : Int) (w : World) (A : Whole w b ao n nc x) (B : Whole w c bo m mc y) :
  Calls Tryz.prog 112 #[.agg #[.bool b, .slice ao n nc], .agg #[.bool c, .slice bo m mc]] w (IntPost (x * y) w) := by
 obtain ⟨f, A, hx⟩ := A.ex
 obtain ⟨g, B, hy⟩ := B.ex
 have A' := Lib.hid A; have hx' := Lib.hid hx; have B' := Lib.hid B; have hy' := Lib.hid hy
 clear A hx B hy
 go_enter Tryz.func112, Tryz.ntmps112
 go_wp2_with fail
 refine gen_wp (fun w' => Below w.heap.size w w' ∧ Box w' w.heap.size (.bool b) (.slice ao n nc) ∧ Box w' (w.heap.size + 1) (.bool c) (.slice bo m mc) ∧ Box w' (w.heap.size + 2) (.bool false) (.slice none 0 0))
  ⟨((((Below.refl _ w).alloc (Nat.le_refl _) _).alloc (by simp <;> omega) _).alloc (by simp <;> omega) _), (((Box.new _ _ _ rfl).alloc _).alloc _), ((Box.new _ _ _ (by simp <;> omega)).alloc _), (Box.new _ _ _ (by simp <;> omega))⟩ ?_
 rintro w0 ⟨hb0, x0, x1, x2⟩
 have hb0 := hb0.drew; have x0 := x0.drew; have x1 := x1.drew; have x2 := x2.drew
 go_region_held3 (fun w' => w'.cell? ⟨w.heap.size, 0, none⟩ = some (.bool b) ∧ w'.cell? ⟨w.heap.size, 1, none⟩ = some (.slice ao n nc) ∧ w'.cell? ⟨w.heap.size + 1, 0, none⟩ = some (.bool c) ∧ w'.cell? ⟨w.heap.size + 1, 1, none⟩ = some (.slice bo m mc))
  (first | exact ⟨x0.c0, x0.c1, x1.c0, x1.c1⟩ | exact ⟨y0.c0, y0.c1, y1.c0, y1.c1⟩ | exact ⟨z0.c0, z0.c1, z1.c0, z1.c1⟩ | exact ⟨(z0.other (by omega) _ _).c0, (z0.other (by omega) _ _).c1, (z1.other (by omega) _ _).c0, (z1.other (by omega) _ _).c1⟩)
  (first
  | (go_at_call 154; refine (mul_any ao bo n nc m mc f g _ (A'.out.below hb0) (B'.out.below hb0)).mono ?_; rintro e w1 ⟨co, cn, cc, k, rfl, h1, h2, h3, h4, hb⟩; have y0 := x0.later hb; have y1 := x1.later hb; have y2 := x2.later hb)
  | (go_at_call 150; refine (signed_any (!(b == c)) co _ cn cc k _ h1 h2 h3 h4).mono ?_; rintro e w2 ⟨sb, so, sn, sc, rfl, hR, hb2⟩; have z0 := y0.later hb2; have z1 := y1.later hb2; have z2 := y2.later hb2; have q1 := z2.c0; have q2 := z2.c1; have q3 := z2.fr 0; have q4 := z2.fr 1))
 have z3 := z2.set (.bool sb) (.slice so sn sc)
 have e0 := z3.c0; have e1 := z3.c1
 go_wp2_with fail
 refine bodyPost_ret (v := .agg #[.bool sb, .slice so sn sc]) (by simp [results, Tryz.results112, go_sem, e0, e1]) rfl ?_
 rw [← hx'.out, ← hy'.out, sgn_mul]
 exact IntPost.stored hR z2 (below_then (below_then hb0 (Nat.le_refl _) hb) (Nat.le_refl _) hb2) (by omega)
theorem wAdd_any (b c : Bool) (ao bo : Option Addr) (n nc m mc : Nat) (x y : Int) (w : World) (A : Whole w b ao n nc x) (B : Whole w c bo m mc y) :
  Calls Tryz.prog 122 #[.agg #[.bool b, .slice ao n nc], .agg #[.bool c, .slice bo m mc]] w (IntPost (x + y) w) := by
 obtain ⟨f, A, hx⟩ := A.ex
 obtain ⟨g, B, hy⟩ := B.ex
 have A' := Lib.hid A; have hx' := Lib.hid hx; have B' := Lib.hid B; have hy' := Lib.hid hy
 clear A hx B hy
 by_cases hbc : b = c
 ·subst hbc
  go_enter Tryz.func122, Tryz.ntmps122
  go_wp2_with fail
  refine gen_wp (fun w' => Below w.heap.size w w' ∧ Box w' w.heap.size (.bool b) (.slice ao n nc) ∧ Box w' (w.heap.size + 1) (.bool b) (.slice bo m mc) ∧ Box w' (w.heap.size + 2) (.bool false) (.slice none 0 0))
   ⟨((((Below.refl _ w).alloc (Nat.le_refl _) _).alloc (by simp <;> omega) _).alloc (by simp <;> omega) _), (((Box.new _ _ _ rfl).alloc _).alloc _), ((Box.new _ _ _ (by simp <;> omega)).alloc _), (Box.new _ _ _ (by simp <;> omega))⟩ ?_
  rintro w0 ⟨hb0, x0, x1, x2⟩
  have hb0 := hb0.drew; have x0 := x0.drew; have x1 := x1.drew; have x2 := x2.drew
  have ne : w.heap.size ≠ w.heap.size + 2 := by omega
  go_region_held3 (fun w' => w'.cell? ⟨w.heap.size, 0, none⟩ = some (.bool b) ∧ w'.cell? ⟨w.heap.size, 1, none⟩ = some (.slice ao n nc) ∧ w'.cell? ⟨w.heap.size + 1, 0, none⟩ = some (.bool b) ∧ w'.cell? ⟨w.heap.size + 1, 1, none⟩ = some (.slice bo m mc))
   (first | exact ⟨x0.c0, x0.c1, x1.c0, x1.c1⟩ | exact ⟨y0.c0, y0.c1, y1.c0, y1.c1⟩ | exact ⟨z0.c0, z0.c1, z1.c0, z1.c1⟩ | exact ⟨(z0.other (by omega) _ _).c0, (z0.other (by omega) _ _).c1, (z1.other (by omega) _ _).c0, (z1.other (by omega) _ _).c1⟩)
   (first
   | (go_at_call 155; refine (add_any ao bo n nc m mc f g _ (A'.out.below hb0) (B'.out.below hb0)).mono ?_; rintro e w1 ⟨co, cn, cc, k, rfl, h1, h2, h3, h4, hb⟩; have y0 := x0.later hb; have y1 := x1.later hb; have y2 := x2.later hb)
   | (go_at_call 150; refine (signed_any b co _ cn cc k _ h1 h2 h3 h4).mono ?_; rintro e w2 ⟨sb, so, sn, sc, rfl, hR, hb2⟩; have z0 := y0.later hb2; have z1 := y1.later hb2; have z2 := y2.later hb2; have q1 := z2.c0; have q2 := z2.c1; have q3 := z2.fr 0; have q4 := z2.fr 1))
  have z3 := z2.set (.bool sb) (.slice so sn sc)
  have e0 := z3.c0; have e1 := z3.c1
  go_wp2_with fail
  refine bodyPost_ret (v := .agg #[.bool sb, .slice so sn sc]) (by simp [results, Tryz.results122, go_sem, e0, e1]) rfl ?_
  rw [← hx'.out, ← hy'.out, sgn_add]
  exact IntPost.stored hR z2 (below_then (below_then hb0 (Nat.le_refl _) hb) (Nat.le_refl _) hb2) (by omega)
 ·have hbc' : (b == c) = false := by simp [hbc]
  go_enter Tryz.func122, Tryz.ntmps122
  go_wp2_with fail
  refine gen_calls (fun w' => Below w.heap.size w w' ∧ Box w' w.heap.size (.bool b) (.slice ao n nc) ∧ Box w' (w.heap.size + 1) (.bool c) (.slice bo m mc) ∧ Box w' (w.heap.size + 2) (.bool false) (.slice none 0 0))
   ⟨((((Below.refl _ w).alloc (Nat.le_refl _) _).alloc (by simp <;> omega) _).alloc (by simp <;> omega) _), (((Box.new _ _ _ rfl).alloc _).alloc _), ((Box.new _ _ _ (by simp <;> omega)).alloc _), (Box.new _ _ _ (by simp <;> omega))⟩ ?_
  rintro w0 ⟨hb0, x0, x1, x2⟩
  refine (sub_any ao bo n nc m mc f g _ (A'.out.below hb0) (B'.out.below hb0)).mono ?_
  rintro e w1 ⟨hb, h⟩
  have y0 := x0.later hb; have y1 := x1.later hb; have y2 := x2.later hb
  have hb1 := below_then hb0 (Nat.le_refl _) hb
  have A1 := Lib.hid (A'.out.below hb1); have B1 := Lib.hid (B'.out.below hb1)
  have p0 := y0.c0; have p1 := y0.c1; have p2 := y1.c0; have p3 := y1.c1
  rcases h with ⟨hlt, rfl⟩ | ⟨hle, do_, dn, dc, d, rfl, h1, h2, h3, h4⟩
  ·have hlt' := Lib.hid hlt
   clear hlt
   go_wp2_with fail
   refine (sub_any bo ao m mc n nc g f _ B1.out A1.out).mono ?_
   rintro e w2 ⟨hb3, h⟩
   rcases h with ⟨hlt, _⟩ | ⟨hle, do_, dn, dc, d, rfl, h1, h2, h3, h4⟩
   ·exact absurd hlt'.out (Nat.lt_asymm hlt)
   have y0 := y0.later hb3; have y1 := y1.later hb3; have y2 := y2.later hb3
   have hb1 := below_then hb1 (Nat.le_refl _) hb3
   have h3' := Lib.hid h3; have h4' := Lib.hid h4; have hle' := Lib.hid hle
   clear h3 h4 hle p0 p1 p2 p3 hb3
   have p0 := y1.c0
   go_wp2_with fail
   refine (signed_any c do_ _ dn dc d _ h1 h2 h3'.out h4'.out).mono ?_
   rintro e w3 ⟨sb, so, sn, sc, rfl, hR, hb4⟩
   have z2 := y2.later hb4
   have q1 := z2.c0; have q2 := z2.c1; have q3 := z2.fr 0; have q4 := z2.fr 1
   have hb1 := below_then hb1 (Nat.le_refl _) hb4
   have z3 := z2.set (.bool sb) (.slice so sn sc)
   have e0 := z3.c0; have e1 := z3.c1
   have hR' := Lib.hid hR; have z2' := Lib.hid z2; have hb1' := Lib.hid hb1
   clear p0 hR z2 hb1 hb4
   go_wp2_with fail
   refine bodyPost_ret (v := .agg #[.bool sb, .slice so sn sc]) (by simp [results, Tryz.results122, go_sem, e0, e1]) rfl ?_
   rw [← hx'.out, ← hy'.out, Int.add_comm, sgn_sub (fun e => hbc e.symm) hle'.out]
   exact IntPost.stored hR'.out z2'.out hb1'.out (by omega)
  ·have h3' := Lib.hid h3; have h4' := Lib.hid h4; have hle' := Lib.hid hle
   clear h3 h4 hle hb
   go_wp2_with fail
   refine (signed_any b do_ _ dn dc d _ h1 h2 h3'.out h4'.out).mono ?_
   rintro e w3 ⟨sb, so, sn, sc, rfl, hR, hb4⟩
   have z2 := y2.later hb4
   have q1 := z2.c0; have q2 := z2.c1; have q3 := z2.fr 0; have q4 := z2.fr 1
   have hb1 := below_then hb1 (Nat.le_refl _) hb4
   have z3 := z2.set (.bool sb) (.slice so sn sc)
   have e0 := z3.c0; have e1 := z3.c1
   have hR' := Lib.hid hR; have z2' := Lib.hid z2; have hb1' := Lib.hid hb1
   clear p0 hR z2 hb1 hb4
   go_wp2_with fail
   refine bodyPost_ret (v := .agg #[.bool sb, .slice so sn sc]) (by simp [results, Tryz.results122, go_sem, e0, e1]) rfl ?_
   rw [← hx'.out, ← hy'.out, sgn_sub hbc hle'.out]
   exact IntPost.stored hR'.out z2'.out hb1'.out (by omega)
end Go.Proofs.YtaepelipkkmeaaaGreat
namespace Go.Proofs.YtaepelipkkmeaaaGreat
open Go.RowKit Num
attribute [local go_sem ↓] Go.wp_at_zero Go.wp_at_succ
theorem rSub_any (b c : Bool) (ao bo : Option Addr) (n nc m mc : Nat) (x y : Int) (w : World) (A : Whole w b ao n nc x) (B : Whole w c bo m mc y) (M : Nat) (hM : M ≤ 1000) (hx : x.natAbs < pw M) (hy : y.natAbs < pw M) :
  Calls Tryz.prog 119 #[.agg #[.bool b, .slice ao n nc], .agg #[.bool c, .slice bo m mc]] w (IntPost (x - y) w) := by
 have A' := Lib.hid A; have B' := Lib.hid B
 clear A B
 go_enter Tryz.func119, Tryz.ntmps119
 go_wp2_with fail
 refine gen_wp (fun w' => Below w.heap.size w w' ∧ Box w' w.heap.size (.bool b) (.slice ao n nc) ∧ Box w' (w.heap.size + 1) (.bool c) (.slice bo m mc) ∧ Box w' (w.heap.size + 2) (.bool false) (.slice none 0 0))
  ⟨((((Below.refl _ w).alloc (Nat.le_refl _) _).alloc (by simp <;> omega) _).alloc (by simp <;> omega) _), (((Box.new _ _ _ rfl).alloc _).alloc _), ((Box.new _ _ _ (by simp <;> omega)).alloc _), (Box.new _ _ _ (by simp <;> omega))⟩ ?_
 rintro w0 ⟨hb0, x0, x1, x2⟩
 have hb0 := hb0.drew; have x0 := x0.drew; have x1 := x1.drew; have x2 := x2.drew
 go_region_held3 (fun w' => w'.cell? ⟨w.heap.size, 0, none⟩ = some (.bool b) ∧ w'.cell? ⟨w.heap.size, 1, none⟩ = some (.slice ao n nc) ∧ w'.cell? ⟨w.heap.size + 1, 0, none⟩ = some (.bool c) ∧ w'.cell? ⟨w.heap.size + 1, 1, none⟩ = some (.slice bo m mc))
  (first | with_reducible exact ⟨x0.c0, x0.c1, x1.c0, x1.c1⟩ | with_reducible exact ⟨y0.c0, y0.c1, y1.c0, y1.c1⟩ | with_reducible exact ⟨z0.c0, z0.c1, z1.c0, z1.c1⟩ | with_reducible exact ⟨(z0.other (by omega) _ _).c0, (z0.other (by omega) _ _).c1, (z1.other (by omega) _ _).c0, (z1.other (by omega) _ _).c1⟩ | go_keep)
  (first
  | (go_at_call 159; refine (rNeg_any c bo m mc y _ (B'.out.below hb0)).mono ?_; rintro e w1 ⟨tb, to_, tn, tc, rfl, hT, hb⟩; have y0 := x0.later hb; have y1 := x1.later hb; have y2 := x2.later hb; have hb1 := below_then hb0 (Nat.le_refl _) hb)
  | (go_at_call 128; refine (rAdd_any b tb ao to_ n nc tn tc x (-y) _ (A'.out.below hb1) (hT.whole (k := M) (by rw [Int.natAbs_neg]; exact hy) (by omega)) M hM hx (by rw [Int.natAbs_neg]; exact hy)).mono ?_; rintro e w2 ⟨sb, so, sn, sc, rfl, hR, hb2⟩; have z0 := y0.later hb2; have z1 := y1.later hb2; have z2 := y2.later hb2; have hb3 := below_then hb1 (Nat.le_refl _) hb2; have q1 := z2.c0; have q2 := z2.c1; have q3 := z2.fr 0; have q4 := z2.fr 1))
 have z3 := z2.set (.bool sb) (.slice so sn sc)
 have e0 := z3.c0; have e1 := z3.c1
 clear z3
 go_wp2_with fail
 refine bodyPost_ret (v := .agg #[.bool sb, .slice so sn sc]) (by simp [results, Tryz.results119, go_sem, e0, e1]) rfl ?_
 rw [Int.sub_eq_add_neg]
 exact IntPost.stored hR z2 hb3 (by omega)
theorem sub_abs {x y : Int} {M : Nat} (hx : x.natAbs < pw M) (hy : y.natAbs < pw M) : (x - y).natAbs < pw (M + 1) := by
 have e : pw (M + 1) = 4294967296 * pw M := rfl
 omega
theorem add_abs {x y : Int} {M : Nat} (hx : x.natAbs < pw M) (hy : y.natAbs < pw M) : (x + y).natAbs < pw (M + 1) := by
 have e : pw (M + 1) = 4294967296 * pw M := rfl
 omega
theorem mul_abs {x y : Int} {M L : Nat} (hx : x.natAbs < pw M) (hy : y.natAbs < pw L) : (x * y).natAbs < pw (M + L) := by
 rw [Int.natAbs_mul, pw_add]
 exact Nat.mul_lt_mul'' hx hy
theorem rCmp_any (b c : Bool) (ao bo : Option Addr) (n nc m mc : Nat) (x y : Int) (w : World) (A : Whole w b ao n nc x) (B : Whole w c bo m mc y) (M : Nat) (hM : M ≤ 1000) (hx : x.natAbs < pw M) (hy : y.natAbs < pw M) :
  Calls Tryz.prog 96 #[.agg #[.bool b, .slice ao n nc], .agg #[.bool c, .slice bo m mc]] w (Says (.int .i64 (cmpI x y)) w) := by
 have A' := Lib.hid A; have B' := Lib.hid B
 clear A B
 go_enter Tryz.func96, Tryz.ntmps96
 go_wp2_with fail
 refine gen_calls (fun w' => Below w.heap.size w w' ∧ Box w' w.heap.size (.bool b) (.slice ao n nc) ∧ Box w' (w.heap.size + 1) (.bool c) (.slice bo m mc))
  ⟨(((Below.refl _ w).alloc (Nat.le_refl _) _).alloc (by simp <;> omega) _), ((Box.new _ _ _ rfl).alloc _), (Box.new _ _ _ (by simp <;> omega))⟩ ?_
 rintro w0 ⟨hb0, x0, x1⟩
 refine (rSub_any b c ao bo n nc m mc x y _ (A'.out.below hb0) (B'.out.below hb0) M hM hx hy).mono ?_
 rintro e w1 ⟨sb, so, sn, sc, rfl, hR, hb⟩
 have hb1 := Lib.hid (below_then hb0 (Nat.le_refl _) hb)
 have hW := Lib.hid (hR.whole (sub_abs hx hy) (by omega))
 clear hR hb hb0 x0 x1
 go_wp2_with fail
 refine (rSign_any sb so sn sc (x - y) _ hW.out).mono ?_
 rintro e w2 ⟨rfl, hb2⟩
 have hb3 := Lib.hid (below_then hb1.out (Nat.le_refl _) hb2)
 clear hb2
 go_wp2_with fail
 go_ret
 refine ⟨ret_num ?_, hb3.out⟩
 rcases Int.lt_trichotomy x y with h | h | h
 ·rw [cmpI_lt h, Int.sign_eq_neg_one_of_neg (by omega)]
 ·rw [cmpI_eq h, h, Int.sub_self]; rfl
 ·rw [cmpI_gt h, Int.sign_eq_one_of_pos (by omega)]
theorem field0 (u v : Value) (w : World) : (Instr.field 71 (.agg #[u, v]) 0).run Tryz.prog w = .ok u w := by kernel_rfl
attribute [local go_sem] field0
theorem sign_mul (x y : Int) : sgn (!(decide (x < 0) == decide (y < 0))) (x.natAbs * y.natAbs) = x * y := by
 rw [← sgn_mul, sgn_self, sgn_self]
theorem rMul_any (b c : Bool) (ao bo : Option Addr) (n nc m mc : Nat) (x y : Int) (w : World) (A : Whole w b ao n nc x) (B : Whole w c bo m mc y) (M : Nat) (hM : M ≤ 1000) (hx : x.natAbs < pw M) (hy : y.natAbs < pw M) :
  Calls Tryz.prog 120 #[.agg #[.bool b, .slice ao n nc], .agg #[.bool c, .slice bo m mc]] w (IntPost (x * y) w) := by
 obtain ⟨f, A, hfx⟩ := A.ex
 obtain ⟨g, B, hgy⟩ := B.ex
 have A' := Lib.hid A; have B' := Lib.hid B; have hfx' := Lib.hid hfx; have hgy' := Lib.hid hgy
 have vf := Lib.hid (show val f n = x.natAbs by rw [← hfx, sgn_abs]); have vg := Lib.hid (show val g m = y.natAbs by rw [← hgy, sgn_abs])
 clear A B hfx hgy
 go_enter Tryz.func120, Tryz.ntmps120
 go_wp2_with fail
 refine gen_wp (fun w' => Below w.heap.size w w' ∧ Box w' w.heap.size (.bool b) (.slice ao n nc) ∧ Box w' (w.heap.size + 1) (.bool c) (.slice bo m mc) ∧ Box w' (w.heap.size + 2) (.bool false) (.slice none 0 0))
  ⟨((((Below.refl _ w).alloc (Nat.le_refl _) _).alloc (by simp <;> omega) _).alloc (by simp <;> omega) _), (((Box.new _ _ _ rfl).alloc _).alloc _), ((Box.new _ _ _ (by simp <;> omega)).alloc _), (Box.new _ _ _ (by simp <;> omega))⟩ ?_
 rintro w0 ⟨hb0, x0, x1, x2⟩
 have hb0 := hb0.drew; have x0 := x0.drew; have x1 := x1.drew; have x2 := x2.drew
 go_region_held3 (fun w' => w'.cell? ⟨w.heap.size, 0, none⟩ = some (.bool b) ∧ w'.cell? ⟨w.heap.size, 1, none⟩ = some (.slice ao n nc) ∧ w'.cell? ⟨w.heap.size + 1, 0, none⟩ = some (.bool c) ∧ w'.cell? ⟨w.heap.size + 1, 1, none⟩ = some (.slice bo m mc))
  (first | with_reducible exact ⟨x0.c0, x0.c1, x1.c0, x1.c1⟩ | with_reducible exact ⟨y0.c0, y0.c1, y1.c0, y1.c1⟩ | with_reducible exact ⟨z0.c0, z0.c1, z1.c0, z1.c1⟩ | with_reducible exact ⟨u0.c0, u0.c1, u1.c0, u1.c1⟩ | with_reducible exact ⟨v0.c0, v0.c1, v1.c0, v1.c1⟩ | with_reducible exact ⟨s0.c0, s0.c1, s1.c0, s1.c1⟩ | with_reducible exact ⟨t0.c0, t0.c1, t1.c0, t1.c1⟩ | with_reducible exact ⟨(t0.other (by omega) _ _).c0, (t0.other (by omega) _ _).c1, (t1.other (by omega) _ _).c0, (t1.other (by omega) _ _).c1⟩ | go_keep)
  (first
  | (go_at_call_of 95 ao; refine (rNorm_any b ao n nc x _ ⟨f, A'.out.below hb0, hfx'.out⟩).mono ?_; rintro e w1 ⟨sb, so, sn, sc, rfl, hR, hb1⟩; have y0 := x0.later hb1; have y1 := x1.later hb1; have y2 := x2.later hb1; have gb1 := below_then hb0 (Nat.le_refl _) hb1)
  | (go_at_call_of 95 bo; refine (rNorm_any c bo m mc y _ ⟨g, B'.out.below gb1, hgy'.out⟩).mono ?_; rintro e w2 ⟨tb, to_, tn, tc, rfl, hT, hb2⟩; have z0 := y0.later hb2; have z1 := y1.later hb2; have z2 := y2.later hb2; have gb2 := below_then gb1 (Nat.le_refl _) hb2)
  | (go_at_call_of 140 ao; refine (refNorm_any ao n nc f _ (A'.out.below gb2)).mono ?_; rintro e w3 ⟨fo, fn, fc, fl, rfl, f1, f2, f3, f4, hb3⟩; have u0 := z0.later hb3; have u1 := z1.later hb3; have u2 := z2.later hb3; have gb3 := below_then gb2 (Nat.le_refl _) hb3)
  | (go_at_call_of 140 bo; refine (refNorm_any bo m mc g _ (B'.out.below gb3)).mono ?_; rintro e w4 ⟨go_, gn, gc, gl, rfl, g1, g2, g3, g4, hb4⟩; have v0 := u0.later hb4; have v1 := u1.later hb4; have v2 := u2.later hb4; have gb4 := below_then gb3 (Nat.le_refl _) hb4; have f3 := f3.below hb4; obtain ⟨FA, fn2⟩ := f4.few f3 f1 f2 (by rw [vf.out]; exact hx) (Nat.le_trans hM (by omega)); obtain ⟨GA, gn2⟩ := g4.few g3 g1 g2 (by rw [vg.out]; exact hy) (Nat.le_trans hM (by omega)))
  | (go_at_call 160; refine (refMul_any fo go_ fn fc gn gc fl gl _ FA GA (by omega) (by omega)).mono ?_; rintro e w5 ⟨ko, kn, kc, k, rfl, k1, k2, k3, k4, hb5⟩; have s0 := v0.later hb5; have s1 := v1.later hb5; have s2 := v2.later hb5; have gb5 := below_then gb4 (Nat.le_refl _) hb5; have k5 := k4.val; rw [f4.val, g4.val, vf.out, vg.out] at k4)
  | (go_at_call_of 95 ko; refine (rNorm_any (!(sb == tb)) ko kn kc (x * y) _ ⟨k, k4.arg k3 k1 k2 (small2 (k := M + M) (by omega) (by rw [← Int.natAbs_mul]; exact mul_abs hx hy)), by rw [k4.val, hR.neg, hT.neg, sign_mul]⟩).mono ?_; rintro e w6 ⟨vb, vo, vn, vc, rfl, hV, hb6⟩; have t0 := s0.later hb6; have t1 := s1.later hb6; have t2 := s2.later hb6; have gb6 := below_then gb5 (Nat.le_refl _) hb6; have q1 := t2.c0; have q2 := t2.c1; have q3 := t2.fr 0; have q4 := t2.fr 1))
 have z3 := t2.set (.bool vb) (.slice vo vn vc)
 have e0 := z3.c0; have e1 := z3.c1
 clear z3
 go_wp2_with fail
 refine bodyPost_ret (v := .agg #[.bool vb, .slice vo vn vc]) (by simp [results, Tryz.results120, go_sem, e0, e1]) rfl ?_
 exact IntPost.stored hV t2 gb6 (by omega)
end Go.Proofs.YtaepelipkkmeaaaGreat
namespace Go.Proofs.YtaepelipkkmeaaaGreat
open Go.RowKit Num
attribute [local go_sem ↓] Go.wp_at_zero Go.wp_at_succ
def powR (n : Nat) (p s : Int) : Option Int :=
 if _h : n = 0 then some p
 else if pw 32 ≤ s.natAbs then none
 else
  let q := if n % 2 = 1 then p * s else p
  if pw 32 ≤ q.natAbs then none else powR (n / 2) q (s * s)
termination_by n
decreasing_by omega
theorem powR_zero (p s : Int) : powR 0 p s = some p := by rw [powR]; simp
theorem powR_great {n : Nat} {p s : Int} (h0 : n ≠ 0) (hs : pw 32 ≤ s.natAbs) : powR n p s = none := by rw [powR]; simp [h0, hs]
theorem powR_odd_great {n : Nat} {p s : Int} (h0 : n ≠ 0) (h1 : n % 2 = 1) (hq : pw 32 ≤ (p * s).natAbs) : powR n p s = none := by rw [powR]; simp [h0, h1, hq]
theorem powR_odd {n : Nat} {p s : Int} (h0 : n ≠ 0) (h1 : n % 2 = 1) (hs : s.natAbs < pw 32) (hq : (p * s).natAbs < pw 32) : powR n p s = powR (n / 2) (p * s) (s * s) := by
 rw [powR]; simp [h0, h1, Nat.not_le.2 hs, Nat.not_le.2 hq]
theorem powR_even {n : Nat} {p s : Int} (h0 : n ≠ 0) (h1 : ¬ n % 2 = 1) (hs : s.natAbs < pw 32) (hq : p.natAbs < pw 32) : powR n p s = powR (n / 2) p (s * s) := by
 rw [powR]; simp [h0, h1, Nat.not_le.2 hs, Nat.not_le.2 hq]
theorem Right.len_lt {w : World} {b : Bool} {ao : Option Addr} {n nc : Nat} {x : Int} (h : Right w b ao n nc x) (hn : n ≤ 32) : x.natAbs < pw 32 := by
 obtain ⟨f, _, _, _, cf, _⟩ := h.ex
 exact Nat.lt_of_lt_of_le cf.lt_pw (pw_le hn)
theorem Right.len_ge {w : World} {b : Bool} {ao : Option Addr} {n nc : Nat} {x : Int} (h : Right w b ao n nc x) (hn : 32 < n) : pw 32 ≤ x.natAbs := by
 obtain ⟨f, _, _, _, cf, _⟩ := h.ex
 apply Nat.le_of_not_lt
 intro hl
 have := cf.len_le hl
 omega
theorem Right.le_len {w : World} {b : Bool} {ao : Option Addr} {n nc : Nat} {x : Int} (h : Right w b ao n nc x) (hx : x.natAbs < pw 32) : n ≤ 32 := by
 obtain ⟨f, _, _, _, cf, _⟩ := h.ex
 exact cf.len_le hx
def powE (k x : Int) : Int := if k < 0 then 3 else if (powR k.toNat 1 x).isSome then 0 else 7
def powV (k x : Int) : Int := if k < 0 then 0 else (powR k.toNat 1 x).getD 0
def PowPost (k x : Int) (w : World) (e : Ending) (w' : World) : Prop :=
 ∃ b ao n nc, e = .returned (.tuple #[.agg #[.bool b, .slice ao n nc], .int .i64 (powE k x)]) ∧ Right w' b ao n nc (powV k x) ∧ Below w.heap.size w w'
theorem zero_right (w : World) : Right w false none 0 0 0 := ⟨fun _ => 0, Nat.le_refl _, by omega, .inl rfl, canon_zero _, rfl⟩
theorem PowPost.some {k x v : Int} {w w' : World} {b : Bool} {ao : Option Addr} {n nc : Nat} {m : Nat} (hk : k = (m : Int)) (hv : powR m 1 x = some v) (hR : Right w' b ao n nc v) (hb : Below w.heap.size w w') :
  PowPost k x w (.returned (.tuple #[.agg #[.bool b, .slice ao n nc], .int .i64 0])) w' := by
 subst hk
 have h0 : ¬ ((m : Int) < 0) := by omega
 refine ⟨b, ao, n, nc, ?_, ?_, hb⟩
 ·simp [powE, h0, hv]
 ·simpa [powV, h0, hv] using hR
theorem PowPost.none {k x : Int} {w w' : World} {m : Nat} (hk : k = (m : Int)) (hv : powR m 1 x = none) (hb : Below w.heap.size w w') :
  PowPost k x w (.returned (.tuple #[.agg #[.bool false, .slice none 0 0], .int .i64 7])) w' := by
 subst hk
 have h0 : ¬ ((m : Int) < 0) := by omega
 refine ⟨false, Option.none, 0, 0, ?_, ?_, hb⟩
 ·simp [powE, h0, hv]
 ·simpa [powV, h0, hv] using zero_right w'
theorem mul_self_abs {x : Int} (hx : x.natAbs < pw 32) : (x * x).natAbs < pw 64 := mul_abs hx hx
theorem wPow_any (b : Bool) (ao : Option Addr) (n nc : Nat) (x k : Int) (w : World) (A : Whole w b ao n nc x) (hx : x.natAbs < pw 64) (k0 : -9223372036854775808 ≤ k) (k1 : k ≤ 9223372036854775807) :
  Calls Tryz.prog 161 #[.agg #[.bool b, .slice ao n nc], .int .i64 k] w (PowPost k x w) := by
 have A' := Lib.hid A; have hx' := Lib.hid hx
 clear A hx
 by_cases hneg : k < 0
 ·have p1 : Hid (powE k x = 3) := Lib.hid (by simp [powE, hneg]); have p2 : Hid (powV k x = 0) := Lib.hid (by simp [powV, hneg])
  go_enter Tryz.func161, Tryz.ntmps161
  go_wp2_with fail
  refine bodyPost_ret (v := .tuple #[.agg #[.bool false, .slice none 0 0], .int .i64 3]) (by simp [results, Tryz.results161, go_sem]) rfl ?_
  refine ⟨false, none, 0, 0, ?_, ?_, ((Below.refl _ w).alloc (Nat.le_refl _) _).alloc (by simp) _⟩
  ·rw [p1.out]
  ·rw [p2.out]; exact zero_right _
 obtain ⟨m, rfl⟩ := Int.eq_ofNat_of_zero_le (Int.not_lt.1 hneg)
 go_enter Tryz.func161, Tryz.ntmps161
 go_upto_region 3 with fail
 refine gen_wp (fun w' => Below w.heap.size w w' ∧ Box w' w.heap.size (.bool b) (.slice ao n nc) ∧ Box w' (w.heap.size + 1) (.bool false) (.slice none 0 0))
  ⟨(((Below.refl _ w).alloc (Nat.le_refl _) _).alloc (by simp <;> omega) _), ((Box.new _ _ _ rfl).alloc _), (Box.new _ _ _ (by simp <;> omega))⟩ ?_
 rintro w0 ⟨hb0, x0, x1⟩
 go_cut [6, 7] from 11 to 13 (fun s t wx => ∃ P Q pb po pn pc sb so sn sc, s = .pointer (some ⟨P, 0, none⟩) ∧ t = .pointer (some ⟨Q, 0, none⟩) ∧ Box wx P (.bool pb) (.slice po pn pc) ∧ Box wx Q (.bool sb) (.slice so sn sc) ∧ Box wx (w.heap.size + 1) (.bool false) (.slice none 0 0) ∧
  w.heap.size + 1 < P ∧ w.heap.size + 1 < Q ∧ P ≠ Q ∧ Right wx pb po pn pc 1 ∧ Right wx sb so sn sc x ∧ Below w.heap.size w wx)
 case first =>
  have l0 := x0.lt; have l1 := x1.lt; have gs0 := hb0.size
  have gb0 := hb0; have A0 := A'.out.below hb0
  go_region_held3 (fun w' => w'.cell? ⟨w.heap.size, 0, none⟩ = some (.bool b) ∧ w'.cell? ⟨w.heap.size, 1, none⟩ = some (.slice ao n nc))
   (first | with_reducible exact ⟨x0.drew.c0, x0.drew.c1⟩ | with_reducible exact ⟨(x0.alloc _).drew.c0, (x0.alloc _).drew.c1⟩ | with_reducible exact ⟨((x0.alloc _).alloc _).drew.c0, ((x0.alloc _).alloc _).drew.c1⟩ | with_reducible exact ⟨y0.c0, y0.c1⟩ | with_reducible exact ⟨(y0.alloc _).c0, (y0.alloc _).c1⟩ | with_reducible exact ⟨((y0.alloc _).alloc _).c0, ((y0.alloc _).alloc _).c1⟩ | with_reducible exact ⟨z0.c0, z0.c1⟩ | with_reducible exact ⟨(z0.alloc _).c0, (z0.alloc _).c1⟩ | with_reducible exact ⟨((z0.alloc _).alloc _).c0, ((z0.alloc _).alloc _).c1⟩ | with_reducible exact ⟨(z0.other (by omega) _ _).c0, (z0.other (by omega) _ _).c1⟩ | with_reducible exact ⟨((z0.other (by omega) _ _).alloc _).c0, ((z0.other (by omega) _ _).alloc _).c1⟩ | with_reducible exact ⟨((z0.other (by omega) _ _).other (by omega) _ _).c0, ((z0.other (by omega) _ _).other (by omega) _ _).c1⟩ | go_keep)
   (first
   | (go_at_call 109; refine (wOf_any 1 _ (by decide) (by decide)).mono ?_; rintro e w1 ⟨pb, po, pn, pc, rfl, hR1, hb1⟩; have hc1 : Below w0.heap.size w0 w1 := (by (first | exact (Below.refl _ _).drew.trans hb1 | exact ((Below.refl _ _).alloc (by first | exact Nat.le_refl _ | (simp; done) | (simp; omega)) _).drew.trans (hb1.mono (by simp <;> omega)) | exact (((Below.refl _ _).alloc (by first | exact Nat.le_refl _ | (simp; done) | (simp; omega)) _).alloc (by first | exact Nat.le_refl _ | (simp; done) | (simp; omega)) _).drew.trans (hb1.mono (by simp <;> omega)))); have hz1 := hc1.size; have y0 := x0.later hc1; have ly0 := y0.lt; have y1 := x1.later hc1; have ly1 := y1.lt; have A1 := A0.below hc1; have gb1 := below_then gb0 (Nat.le_refl _) hc1; have gs1 := gb1.size; (first | (with_reducible have mm := made2' hb1; obtain ⟨m10, m11⟩ := mm) | (with_reducible have m10 := made1' hb1) | skip); (try have k10 := m10.lt); (try have k11 := m11.lt))
   | (go_at_call 115; refine (wNorm_any b ao n nc x _ ?_).mono ?_; (first | with_reducible exact A1 | with_reducible exact (A1.alloc _) | with_reducible exact ((A1.alloc _).alloc _)); rintro e w2 ⟨sb, so, sn, sc, rfl, hR2, hb2⟩; have hc2 : Below w1.heap.size w1 w2 := (by (first | with_reducible exact hb2 | exact ((Below.refl _ _).alloc (by first | exact Nat.le_refl _ | (simp; done) | (simp; omega)) _).trans (hb2.mono (by simp <;> omega)) | exact (((Below.refl _ _).alloc (by first | exact Nat.le_refl _ | (simp; done) | (simp; omega)) _).alloc (by first | exact Nat.le_refl _ | (simp; done) | (simp; omega)) _).trans (hb2.mono (by simp <;> omega)))); have hz2 := hc2.size; have z0 := y0.later hc2; have lz0 := z0.lt; have z1 := y1.later hc2; have lz1 := z1.lt; have hR1 := hR1.below hc2; have gb2 := below_then gb1 (Nat.le_refl _) hc2; have gs2 := gb2.size; (try have m10 := m10.later hc2); (try have m11 := m11.later hc2); (first | (with_reducible have mm := made2 hb2; obtain ⟨m20, m21⟩ := mm) | (with_reducible have m20 := made1 hb2) | skip); (try have k10 := m10.lt); (try have k11 := m11.lt); (try have k20 := m20.lt); (try have k21 := m21.lt); (try (have f100 := m10.c0; have f101 := m10.c1; have f102 := m10.fr 0; have f103 := m10.fr 1)); (try (have f110 := m11.c0; have f111 := m11.c1; have f112 := m11.fr 0; have f113 := m11.fr 1)); (try (have f200 := m20.c0; have f201 := m20.c1; have f202 := m20.fr 0; have f203 := m20.fr 1)); (try (have f210 := m21.c0; have f211 := m21.c1; have f212 := m21.fr 0; have f213 := m21.fr 1))))
  ·go_wp2_with fail; go_meet; exact ⟨_, _, _, _, _, _, _, _, _, _, rfl, rfl, ((Box.new _ _ _ (by first | rfl | (simp; done))).alloc _), (Box.new _ _ _ (by first | rfl | (simp; done))), ((z1.alloc _).alloc _), by first | omega | (simp; omega), by first | omega | (simp; omega), by first | omega | (simp; omega), ((hR1.alloc _).alloc _), ((hR2.alloc _).alloc _), (Below.alloc (Below.alloc gb2 (by first | omega | simp <;> omega) _) (by first | omega | simp <;> omega) _)⟩
  ·go_wp2_with fail; go_meet; exact ⟨_, _, _, _, _, _, _, _, _, _, rfl, rfl, (Box.new _ _ _ (by first | rfl | (simp; done))), ((Box.new _ _ _ (by first | rfl | (simp; done))).alloc _), ((z1.alloc _).alloc _), by first | omega | (simp; omega), by first | omega | (simp; omega), by first | omega | (simp; omega), ((hR1.alloc _).alloc _), ((hR2.alloc _).alloc _), (Below.alloc (Below.alloc gb2 (by first | omega | simp <;> omega) _) (by first | omega | simp <;> omega) _)⟩
  ·go_wp2_with fail; go_meet; exact ⟨_, _, _, _, _, _, _, _, _, _, rfl, rfl, ((m20.set _ _).alloc _), (Box.new _ _ _ (by first | rfl | (simp; done))), ((z1.other (by omega) _ _).alloc _), by first | omega | (simp; omega), by first | omega | (simp; omega), by first | omega | (simp; omega), ((hR1.box m20 _ _).alloc _), ((hR2.box m20 _ _).alloc _), (Below.alloc (below_set gb2 (by omega) _ _) (by first | omega | simp <;> omega) _)⟩
  ·go_wp2_with fail; go_meet; exact ⟨_, _, _, _, _, _, _, _, _, _, rfl, rfl, ((m20.set _ _).other (by omega) _ _), ((m21.other (by omega) _ _).set _ _), ((z1.other (by omega) _ _).other (by omega) _ _), by first | omega | (simp; omega), by first | omega | (simp; omega), by first | omega | (simp; omega), ((hR1.box m20 _ _).box (m21.other (by omega) _ _) _ _), ((hR2.box m20 _ _).box (m21.other (by omega) _ _) _ _), (below_set (below_set gb2 (by omega) _ _) (by omega) _ _)⟩
  ·go_wp2_with fail; go_meet; exact ⟨_, _, _, _, _, _, _, _, _, _, rfl, rfl, (Box.new _ _ _ (by first | rfl | (simp; done))), ((m20.set _ _).alloc _), ((z1.other (by omega) _ _).alloc _), by first | omega | (simp; omega), by first | omega | (simp; omega), by first | omega | (simp; omega), ((hR1.box m20 _ _).alloc _), ((hR2.box m20 _ _).alloc _), (Below.alloc (below_set gb2 (by omega) _ _) (by first | omega | simp <;> omega) _)⟩
  ·go_wp2_with fail; go_meet; exact ⟨_, _, _, _, _, _, _, _, _, _, rfl, rfl, ((m21.set _ _).other (by omega) _ _), ((m20.other (by omega) _ _).set _ _), ((z1.other (by omega) _ _).other (by omega) _ _), by first | omega | (simp; omega), by first | omega | (simp; omega), by first | omega | (simp; omega), ((hR1.box m21 _ _).box (m20.other (by omega) _ _) _ _), ((hR2.box m21 _ _).box (m20.other (by omega) _ _) _ _), (below_set (below_set gb2 (by omega) _ _) (by omega) _ _)⟩
  ·go_wp2_with fail; go_meet; exact ⟨_, _, _, _, _, _, _, _, _, _, rfl, rfl, ((m10.set _ _).alloc _), (Box.new _ _ _ (by first | rfl | (simp; done))), ((z1.other (by omega) _ _).alloc _), by first | omega | (simp; omega), by first | omega | (simp; omega), by first | omega | (simp; omega), ((hR1.box m10 _ _).alloc _), ((hR2.box m10 _ _).alloc _), (Below.alloc (below_set gb2 (by omega) _ _) (by first | omega | simp <;> omega) _)⟩
  ·go_wp2_with fail; go_meet; exact ⟨_, _, _, _, _, _, _, _, _, _, rfl, rfl, ((m10.set _ _).other (by omega) _ _), ((m20.other (by omega) _ _).set _ _), ((z1.other (by omega) _ _).other (by omega) _ _), by first | omega | (simp; omega), by first | omega | (simp; omega), by first | omega | (simp; omega), ((hR1.box m10 _ _).box (m20.other (by omega) _ _) _ _), ((hR2.box m10 _ _).box (m20.other (by omega) _ _) _ _), (below_set (below_set gb2 (by omega) _ _) (by omega) _ _)⟩
  ·go_wp2_with fail; go_meet; exact ⟨_, _, _, _, _, _, _, _, _, _, rfl, rfl, ((m10.set _ _).other (by omega) _ _), ((m11.other (by omega) _ _).set _ _), ((z1.other (by omega) _ _).other (by omega) _ _), by first | omega | (simp; omega), by first | omega | (simp; omega), by first | omega | (simp; omega), ((hR1.box m10 _ _).box (m11.other (by omega) _ _) _ _), ((hR2.box m10 _ _).box (m11.other (by omega) _ _) _ _), (below_set (below_set gb2 (by omega) _ _) (by omega) _ _)⟩
  ·go_wp2_with fail; go_meet; exact ⟨_, _, _, _, _, _, _, _, _, _, rfl, rfl, (Box.new _ _ _ (by first | rfl | (simp; done))), ((m10.set _ _).alloc _), ((z1.other (by omega) _ _).alloc _), by first | omega | (simp; omega), by first | omega | (simp; omega), by first | omega | (simp; omega), ((hR1.box m10 _ _).alloc _), ((hR2.box m10 _ _).alloc _), (Below.alloc (below_set gb2 (by omega) _ _) (by first | omega | simp <;> omega) _)⟩
  ·go_wp2_with fail; go_meet; exact ⟨_, _, _, _, _, _, _, _, _, _, rfl, rfl, ((m20.set _ _).other (by omega) _ _), ((m10.other (by omega) _ _).set _ _), ((z1.other (by omega) _ _).other (by omega) _ _), by first | omega | (simp; omega), by first | omega | (simp; omega), by first | omega | (simp; omega), ((hR1.box m20 _ _).box (m10.other (by omega) _ _) _ _), ((hR2.box m20 _ _).box (m10.other (by omega) _ _) _ _), (below_set (below_set gb2 (by omega) _ _) (by omega) _ _)⟩
  ·go_wp2_with fail; go_meet; exact ⟨_, _, _, _, _, _, _, _, _, _, rfl, rfl, ((m11.set _ _).other (by omega) _ _), ((m10.other (by omega) _ _).set _ _), ((z1.other (by omega) _ _).other (by omega) _ _), by first | omega | (simp; omega), by first | omega | (simp; omega), by first | omega | (simp; omega), ((hR1.box m11 _ _).box (m10.other (by omega) _ _) _ _), ((hR2.box m11 _ _).box (m10.other (by omega) _ _) _ _), (below_set (below_set gb2 (by omega) _ _) (by omega) _ _)⟩
 case rest =>
  obtain ⟨P, Q, pb, po, pn, pc, sb, so, sn, sc, rfl, rfl, bp, bs, b4, gP, gQ, hPQ, hP, hS, bb⟩ := hcut
  have n1 : w.heap.size + 1 ≠ P := by omega
  have n2 : w.heap.size + 1 ≠ Q := by omega
  have gP : w.heap.size ≤ P := by omega
  have gQ : w.heap.size ≤ Q := by omega
  clear x0 x1 hb0
  have one32 : Hid ((1 : Int).natAbs < pw 32) := Lib.hid (by have := pw_le (n := 1) (m := 32) (by omega); have e : pw 1 = 4294967296 := rfl; omega)
  have hm' := Lib.hid (show m ≤ 9223372036854775807 by omega)
  go_wp2_with fail
  go_loopw [1] (fun v wr => ∃ (m' : Nat) (pb : Bool) (po : Option Addr) (pn pc : Nat) (sb : Bool) (so : Option Addr) (sn sc : Nat) (p s : Int), v = .int .i64 m' ∧ m' ≤ 9223372036854775807 ∧ Box wr P (.bool pb) (.slice po pn pc) ∧ Box wr Q (.bool sb) (.slice so sn sc) ∧ Box wr (w.heap.size + 1) (.bool false) (.slice none 0 0) ∧
    Right wr pb po pn pc p ∧ Right wr sb so sn sc s ∧ Below w.heap.size w wr ∧ s.natAbs < pw 64 ∧ p.natAbs < pw 32 ∧ powR m' p s = powR m 1 x) (fun v _ => (intOf v).toNat)
  case atStart => exact ⟨m, _, _, _, _, _, _, _, _, 1, x, rfl, hm'.out, bp, bs, b4, hP, hS, bb, hx'.out, one32.out, rfl⟩
  case round =>
   clear bp bs b4 hP hS bb
   obtain ⟨m', pb, po, pn, pc, sb, so, sn, sc, p, s, rfl, hmb, bp, bs, b4, hP, hS, bb, hs, hp, hrel⟩ := hrel
   have pn32 := Lib.hid (hP.le_len hp)
   have bp := Lib.hid bp; have bs := Lib.hid bs; have b4 := Lib.hid b4; have hP := Lib.hid hP; have hS := Lib.hid hS; have bb := Lib.hid bb; have hs64 := Lib.hid hs; have hp32 := Lib.hid hp; have hrl := Lib.hid hrel
   clear hs hp hrel
   by_cases h0 : m' = 0
   ·subst h0
    have hv : Hid (powR m 1 x = some p) := Lib.hid (by rw [← hrl.out, powR_zero])
    have c0 := bp.out.c0; have c1 := bp.out.c1
    have z9 := b4.out.set (.bool pb) (.slice po pn pc)
    have q1 := b4.out.c0; have q2 := b4.out.c1; have q3 := b4.out.fr 0; have q4 := b4.out.fr 1
    have e0 := z9.c0; have e1 := z9.c1
    clear z9
    go_wp2_with fail
    refine bodyPost_ret (v := .tuple #[.agg #[.bool pb, .slice po pn pc], .int .i64 0]) (by simp [results, Tryz.results161, go_sem, e0, e1]) rfl ?_
    exact PowPost.some rfl hv.out (hP.out.box b4.out _ _) (below_set bb.out (Nat.le_succ _) _ _)
   ·have hm0 : 0 < m' := Nat.pos_of_ne_zero h0
    have c0 := bp.out.c0; have c1 := bp.out.c1; have c2 := bs.out.c0; have c3 := bs.out.c1
    by_cases h32 : 32 < sn
    ·have hv : Hid (powR m 1 x = none) := Lib.hid (by rw [← hrl.out]; exact powR_great h0 (hS.out.len_ge h32))
     have h32i : decide ((32 : Int) < (sn : Int)) = true := decide_eq_true (by omega)
     have z9 := b4.out.set (.bool false) (.slice none 0 0)
     have q1 := b4.out.c0; have q2 := b4.out.c1; have q3 := b4.out.fr 0; have q4 := b4.out.fr 1
     have e0 := z9.c0; have e1 := z9.c1
     have hbl := Lib.hid (below_set bb.out (Nat.le_succ _) (.bool false) (.slice none 0 0))
     clear z9
     go_wp2_with fail
     refine bodyPost_ret (v := .tuple #[.agg #[.bool false, .slice none 0 0], .int .i64 7]) (by simp [results, Tryz.results161, go_sem, e0, e1]) rfl ?_
     exact PowPost.none rfl hv.out hbl.out
    ·have hsl := Lib.hid (hS.out.len_lt (Nat.le_of_not_lt h32))
     have h32i : decide ((32 : Int) < (sn : Int)) = false := decide_eq_false (by omega)
     by_cases hodd : m' % 2 = 1
     ·have hoi : (m' : Int) % 2 = 1 := by omega
      go_wp2_with fail
      refine (wMul_any pb sb po so pn pc sn sc p s _ (hP.out.whole hp32.out (by omega)) (hS.out.whole hs64.out (by omega))).mono ?_
      rintro e w3 ⟨tb, to_, tn, tc, rfl, hT, hb⟩
      have y6 := bp.out.later hb; have y7 := bs.out.later hb; have y4 := b4.out.later hb; have bb3 := below_then bb.out (Nat.le_refl _) hb
      have q1 := y6.c0; have q2 := y6.c1; have q3 := y6.fr 0; have q4 := y6.fr 1
      have z6 := y6.set (.bool tb) (.slice to_ tn tc); have z7 := y7.other (Ne.symm hPQ) (.bool tb) (.slice to_ tn tc); have z4 := y4.other n1 (.bool tb) (.slice to_ tn tc)
      have bb := Lib.hid (below_set bb3 gP (.bool tb) (.slice to_ tn tc))
      have hP := Lib.hid (hT.box y6 (.bool tb) (.slice to_ tn tc)); have hS := Lib.hid ((hS.out.below hb).box y6 (.bool tb) (.slice to_ tn tc))
      have bp := Lib.hid z6; have bs := Lib.hid z7; have b4 := Lib.hid z4
      clear c0 c1 c2 c3
      have c0 := z6.c0; have c1 := z6.c1; have c2 := z7.c0; have c3 := z7.c1
      clear hb y6 y7 y4 bb3 hT z6 z7 z4
      by_cases ht : 32 < tn
      ·have hv : Hid (powR m 1 x = none) := Lib.hid (by rw [← hrl.out]; exact powR_odd_great h0 hodd (hP.out.len_ge ht))
       have hti : decide ((32 : Int) < (tn : Int)) = true := decide_eq_true (by omega)
       have z9 := b4.out.set (.bool false) (.slice none 0 0)
       have r1 := b4.out.c0; have r2 := b4.out.c1; have r3 := b4.out.fr 0; have r4 := b4.out.fr 1
       have e0 := z9.c0; have e1 := z9.c1
       have hbl := Lib.hid (below_set bb.out (Nat.le_succ _) (.bool false) (.slice none 0 0))
       clear z9
       go_wp2_with fail
       refine bodyPost_ret (v := .tuple #[.agg #[.bool false, .slice none 0 0], .int .i64 7]) (by simp [results, Tryz.results161, go_sem, e0, e1]) rfl ?_
       exact PowPost.none rfl hv.out hbl.out
      ·have htl := Lib.hid (hP.out.len_lt (Nat.le_of_not_lt ht))
       have hti : decide ((32 : Int) < (tn : Int)) = false := decide_eq_false (by omega)
       go_wp2_with fail
       refine gen_calls (fun w' => Box w' P (.bool tb) (.slice to_ tn tc) ∧ Box w' Q (.bool sb) (.slice so sn sc) ∧ Box w' (w.heap.size + 1) (.bool false) (.slice none 0 0) ∧ Right w' tb to_ tn tc (p * s) ∧ Right w' sb so sn sc s ∧ Below w.heap.size w w') ⟨bp.out, bs.out, b4.out, hP.out, hS.out, bb.out⟩ ?_
       clear bp bs b4 hP hS bb q1 q2 q3 q4 c0 c1 c2 c3
       rintro w4 ⟨bp, bs, b4, hP, hS, bb⟩
       have bp := Lib.hid bp; have bs := Lib.hid bs; have b4 := Lib.hid b4; have hP := Lib.hid hP; have hS := Lib.hid hS; have bb := Lib.hid bb
       refine (wMul_any sb sb so so sn sc sn sc s s _ (hS.out.whole hs64.out (by omega)) (hS.out.whole hs64.out (by omega))).mono ?_
       rintro e w5 ⟨rb, ro, rn, rc, rfl, hU, hb⟩
       have v6 := Lib.hid (bp.out.later hb); have v7 := Lib.hid (bs.out.later hb); have v4 := Lib.hid (b4.out.later hb); have bb := Lib.hid (below_then bb.out (Nat.le_refl _) hb); have hP := Lib.hid (hP.out.below hb)
       have hU := Lib.hid hU
       have q1 := v7.out.c0; have q2 := v7.out.c1; have q3 := v7.out.fr 0; have q4 := v7.out.fr 1
       clear hb
       go_wp2_with fail
       go_roundw
       case rel => exact ⟨m' / 2, _, _, _, _, _, _, _, _, p * s, s * s, int_eq (by omega), by omega, v6.out.other hPQ _ _, v7.out.set _ _, v4.out.other n2 _ _, hP.out.box v7.out _ _, hU.out.box v7.out _ _, below_set bb.out gQ _ _, mul_self_abs hsl.out, htl.out, by rw [← powR_odd h0 hodd hsl.out htl.out]; exact hrl.out⟩
       case measure => simp [intOf]; omega
     ·have hoi : ¬ ((m' : Int) % 2 = 1) := by omega
      have hpi : decide ((32 : Int) < (pn : Int)) = false := decide_eq_false (by have := pn32.out; omega)
      go_wp2_with fail
      refine (wMul_any sb sb so so sn sc sn sc s s _ (hS.out.whole hs64.out (by omega)) (hS.out.whole hs64.out (by omega))).mono ?_
      rintro e w5 ⟨rb, ro, rn, rc, rfl, hU, hb⟩
      have v6 := Lib.hid (bp.out.later hb); have v7 := Lib.hid (bs.out.later hb); have v4 := Lib.hid (b4.out.later hb); have bb := Lib.hid (below_then bb.out (Nat.le_refl _) hb); have hP := Lib.hid (hP.out.below hb)
      have hU := Lib.hid hU
      have q1 := v7.out.c0; have q2 := v7.out.c1; have q3 := v7.out.fr 0; have q4 := v7.out.fr 1
      clear hb c0 c1 c2 c3
      go_wp2_with fail
      go_roundw
      case rel => exact ⟨m' / 2, _, _, _, _, _, _, _, _, p, s * s, int_eq (by omega), by omega, v6.out.other hPQ _ _, v7.out.set _ _, v4.out.other n2 _ _, hP.out.box v7.out _ _, hU.out.box v7.out _ _, below_set bb.out gQ _ _, mul_self_abs hsl.out, hp32.out, by rw [← powR_even h0 hodd hsl.out hp32.out]; exact hrl.out⟩
      case measure => simp [intOf]; omega
end Go.Proofs.YtaepelipkkmeaaaGreat
namespace Go.Proofs.YtaepelipkkmeaaaGreat
open Go.RowKit Num
attribute [local go_sem ↓] Go.wp_at_zero Go.wp_at_succ
theorem Rt.alloc {w : World} {b : Bool} {ao bo : Option Addr} {n nc m mc Q : Nat} {P : Int} (h : Rt w b ao n nc bo m mc P Q) (o : Obj) : Rt (w.alloc o) b ao n nc bo m mc P Q := h.below ((Below.refl _ w).alloc (Nat.le_refl _) o)
theorem Rt.drew {w : World} {b : Bool} {ao bo : Option Addr} {n nc m mc Q : Nat} {P : Int} (h : Rt w b ao n nc bo m mc P Q) : Rt w.drew b ao n nc bo m mc P Q := h.below (Below.refl _ w).drew
theorem Right.drew' {w : World} {b : Bool} {ao : Option Addr} {n nc : Nat} {x : Int} (h : Right w b ao n nc x) : Right w.drew b ao n nc x := h.below (Below.refl _ w).drew
theorem made13' {W w' : World} {u0 u1 u2 : Value} {t : TypeId} (hb : Below (W.alloc (.cells #[u0, u1, u2] t)).drew.heap.size (W.alloc (.cells #[u0, u1, u2] t)).drew w') : Box3 w' W.heap.size u0 u1 u2 := (Box3.new u0 u1 u2 t rfl).drew.later hb
theorem made13 {W w' : World} {u0 u1 u2 : Value} {t : TypeId} (hb : Below (W.alloc (.cells #[u0, u1, u2] t)).heap.size (W.alloc (.cells #[u0, u1, u2] t)) w') : Box3 w' W.heap.size u0 u1 u2 := (Box3.new u0 u1 u2 t rfl).later hb
theorem over_w (b : Bool) (ao bo : Option Addr) (n nc m mc : Nat) (x : Int) (Q : Nat) (w : World) (A : Right w b ao n nc x) (B : Whole w false bo m mc Q) :
  Calls Tryz.prog 105 #[.agg #[.bool b, .slice ao n nc], .slice bo m mc] w (RatPost x Q w) := by
 obtain ⟨g, B, e⟩ := B.ex
 have e : val g m = Q := by rw [sgn_false] at e; omega
 rw [← e]
 exact over_any b ao bo n nc m mc x g w A B
theorem whole_any (b : Bool) (ao : Option Addr) (n nc : Nat) (x : Int) (w : World) (A : Whole w b ao n nc x) (hx : x.natAbs < pw 32) :
  Calls Tryz.prog 108 #[.agg #[.bool b, .slice ao n nc]] w (RatPost x 1 w) := by
 have A' := Lib.hid A; have hx' := Lib.hid hx
 clear A hx
 go_enter Tryz.func108, Tryz.ntmps108
 go_wp2_with fail
 refine gen_calls (fun w' => Below w.heap.size w w' ∧ Box w' w.heap.size (.bool b) (.slice ao n nc) ∧ Box3 w' (w.heap.size + 1) (.bool false) (.slice none 0 0) (.slice none 0 0))
  ⟨(((Below.refl _ _).alloc (Nat.le_refl _) _).alloc (by simp <;> omega) _), ((Box.new _ _ _ rfl).alloc _), (Box3.new _ _ _ _ (by simp <;> omega))⟩ ?_
 rintro w0 ⟨hb0, x0, x1⟩
 refine (wNorm_any b ao n nc x _ (A'.out.below hb0)).mono ?_
 rintro e w1 ⟨eb, eo, en, ec, rfl, h1, hb⟩
 have x0 := x0.later hb; have x1 := x1.later hb; have bb := below_then hb0 (Nat.le_refl _) hb
 have h2 := Lib.hid (h1.box x0 (.bool eb) (.slice eo en ec)); have bb2 := Lib.hid (below_set bb (Nat.le_refl _) (.bool eb) (.slice eo en ec))
 have z0 := x0.set (.bool eb) (.slice eo en ec); have z1 := Lib.hid (x1.other (C := w.heap.size) (by omega) (.bool eb) (.slice eo en ec))
 have q0 := x0.c0; have q1 := x0.c1; have q2 := x0.fr 0; have q3 := x0.fr 1
 have p1 := z0.c1
 have z0' := Lib.hid z0
 clear x0 x1 bb z0 h1 hb hb0
 go_wp2_with fail
 refine gen_calls (fun w' => Below w.heap.size w w' ∧ Box w' w.heap.size (.bool eb) (.slice eo en ec) ∧ Box3 w' (w.heap.size + 1) (.bool false) (.slice none 0 0) (.slice none 0 0) ∧ Right w' eb eo en ec x) ⟨bb2.out, z0'.out, z1.out, h2.out⟩ ?_
 rintro w2 ⟨bb, x0, x1, h1⟩
 clear q0 q1 q2 q3 p1 z0' z1 h2 bb2
 refine (long_no eo en ec _ (h1.le_len hx'.out)).mono ?_
 rintro e w3 ⟨rfl, hb⟩
 have bb := Lib.hid (below_then bb (Nat.le_refl _) hb)
 have x0 := x0.later hb; have x1 := Lib.hid (x1.later hb); have h1 := Lib.hid (h1.below hb)
 have p0 := x0.c0; have p1 := x0.c1
 clear hb x0
 go_wp2_with fail
 refine gen_calls (fun w' => Below w.heap.size w w' ∧ Box3 w' (w.heap.size + 1) (.bool false) (.slice none 0 0) (.slice none 0 0) ∧ Right w' eb eo en ec x ∧ Sl w' (some ⟨w3.heap.size, 0, none⟩) 1 (fun _ => 1)) ⟨bb.out.alloc bb.out.size _, x1.out.alloc _, h1.out.alloc _, sl_new1 w3 _ _ _ rfl⟩ ?_
 rintro w4 ⟨bb, x1, h1, hs⟩
 clear p0 p1
 refine (over_w eb eo (some ⟨w3.heap.size, 0, none⟩) en ec 1 1 x 1 _ h1 ⟨fun _ => 1, ⟨Nat.le_refl _, by omega, by omega, hs, fun _ _ => (by decide : 1 < 4294967296)⟩, by simp [sgn, val, pw]⟩).mono ?_
 rintro e w5 ⟨gb, gp, gn, gc, gq, gm, ge, rfl, hR, hb⟩
 have bb := Lib.hid (below_then bb (Nat.le_refl _) hb)
 have x1 := x1.later hb
 have x1' := Lib.hid x1; have hR' := Lib.hid hR
 have q0 := x1.c0; have q1 := x1.c1; have q2 := x1.c2; have q3 := x1.fr 0; have q4 := x1.fr 1; have q5 := x1.fr 2
 have z := x1.set (.bool gb) (.slice gp gn gc) (.slice gq gm ge)
 have e0 := z.c0; have e1 := z.c1; have e2 := z.c2
 clear x1 hb z h1 hs hR
 go_wp2_with fail
 refine bodyPost_ret (v := .agg #[.bool gb, .slice gp gn gc, .slice gq gm ge]) (by simp [results, Tryz.results108, go_sem, e0, e1, e2]) rfl ?_
 exact RatPost.stored hR'.out x1'.out bb.out (by omega)
theorem int_32 {n : Int} (h0 : -9223372036854775808 ≤ n) (h1 : n ≤ 9223372036854775807) : n.natAbs < pw 32 := by
 have e : pw 3 = 79228162514264337593543950336 := rfl
 exact Nat.lt_of_lt_of_le (m := pw 3) (by omega) (pw_le (by omega))
theorem of_any (x : Int) (w : World) (h0 : -9223372036854775808 ≤ x) (h1 : x ≤ 9223372036854775807) :
  Calls Tryz.prog 50 #[.int .i64 x] w (RatPost x 1 w) := by
 have hx := Lib.hid (int_32 h0 h1)
 have k0 := Lib.hid h0; have k1 := Lib.hid h1
 clear h0 h1
 go_enter Tryz.func50, Tryz.ntmps50
 go_wp2_with fail
 refine gen_calls (fun w' => Below w.heap.size w w' ∧ Box3 w' w.heap.size (.bool false) (.slice none 0 0) (.slice none 0 0))
  ⟨((Below.refl _ _).alloc (Nat.le_refl _) _), (Box3.new _ _ _ _ rfl)⟩ ?_
 rintro w0 ⟨hb0, x0⟩
 refine (wOf_any x _ k0.out k1.out).mono ?_
 rintro e w1 ⟨eb, eo, en, ec, rfl, h1, hb⟩
 have x0 := x0.later hb; have bb := below_then hb0 (Nat.le_refl _) hb
 clear hb0 hb
 go_wp2_with fail
 refine (whole_any eb eo en ec x _ (h1.whole32 hx.out) hx.out).mono ?_
 rintro e w2 ⟨gb, gp, gn, gc, gq, gm, ge, rfl, hR, hb⟩
 have bb := Lib.hid (below_then bb (Nat.le_refl _) hb)
 have x0 := x0.later hb
 have x0' := Lib.hid x0; have hR' := Lib.hid hR
 have q0 := x0.c0; have q1 := x0.c1; have q2 := x0.c2; have q3 := x0.fr 0; have q4 := x0.fr 1; have q5 := x0.fr 2
 have z := x0.set (.bool gb) (.slice gp gn gc) (.slice gq gm ge)
 have e0 := z.c0; have e1 := z.c1; have e2 := z.c2
 clear x0 hb z hR
 go_wp2_with fail
 refine bodyPost_ret (v := .agg #[.bool gb, .slice gp gn gc, .slice gq gm ge]) (by simp [results, Tryz.results50, go_sem, e0, e1, e2]) rfl ?_
 exact RatPost.stored hR'.out x0'.out bb.out (by omega)
theorem sign_any (ab : Bool) (ap aq : Option Addr) (an ac am ae : Nat) (P : Int) (Q : Nat) (w : World) (A : Rt w ab ap an ac aq am ae P Q) (lA : Low P Q) :
  Calls Tryz.prog 51 #[.agg #[.bool ab, .slice ap an ac, .slice aq am ae]] w (Says (.int .i64 P.sign) w) := by
 have A' := Lib.hid A; have lA' := Lib.hid lA
 clear A lA
 go_enter Tryz.func51, Tryz.ntmps51
 go_wp2_with fail
 refine gen_calls (fun w' => Below w.heap.size w w' ∧ Box3 w' w.heap.size (.bool ab) (.slice ap an ac) (.slice aq am ae))
  ⟨((Below.refl _ _).alloc (Nat.le_refl _) _), (Box3.new _ _ _ _ rfl)⟩ ?_
 rintro w0 ⟨hb0, x0⟩
 refine (upper_any ab ap aq an ac am ae _).mono ?_
 rintro e w1 ⟨rfl, hb⟩
 have bb := Lib.hid (below_then hb0 (Nat.le_refl _) hb)
 clear hb0 hb x0
 go_wp2_with fail
 refine (wSign_any ab ap an ac P _ ((A'.out.below bb.out).upper lA'.out)).mono ?_
 rintro e w2 ⟨rfl, hb⟩
 have bb := Lib.hid (below_then bb.out (Nat.le_refl _) hb)
 clear hb
 go_wp2_with fail
 go_ret
 exact ⟨rfl, bb.out⟩
theorem neg_any (ab : Bool) (ap aq : Option Addr) (an ac am ae : Nat) (P : Int) (Q : Nat) (w : World) (A : Rt w ab ap an ac aq am ae P Q) (lA : Low P Q) :
  Calls Tryz.prog 49 #[.agg #[.bool ab, .slice ap an ac, .slice aq am ae]] w (RatPost (-P) Q w) := by
 have lA' := Lib.hid lA
 have A' := Lib.hid A
 clear lA A
 go_enter Tryz.func49, Tryz.ntmps49
 go_wp2_with fail
 refine gen_wp (fun w' => Below w.heap.size w w' ∧ Box3 w' w.heap.size (.bool ab) (.slice ap an ac) (.slice aq am ae) ∧ Box3 w' (w.heap.size + 1) (.bool false) (.slice none 0 0) (.slice none 0 0))
  ⟨(((Below.refl _ _).alloc (Nat.le_refl _) _).alloc (by simp <;> omega) _), ((Box3.new _ _ _ _ rfl).alloc _), (Box3.new _ _ _ _ (by simp <;> omega))⟩ ?_
 rintro w0 ⟨bb, x0, x1⟩
 have bb := bb.drew; have x0 := x0.drew; have x1 := x1.drew
 have A := A'.out.below bb
 clear A'
 have sa0 := True.intro
 go_region_held3 (fun w' => w'.cell? ⟨w.heap.size, 0, none⟩ = some (.bool ab) ∧ w'.cell? ⟨w.heap.size, 1, none⟩ = some (.slice ap an ac) ∧ w'.cell? ⟨w.heap.size, 2, none⟩ = some (.slice aq am ae))
  (first | with_reducible exact ⟨x0.c0, x0.c1, x0.c2⟩ | with_reducible exact ⟨(x0.other3 (by omega) _ _ _).c0, (x0.other3 (by omega) _ _ _).c1, (x0.other3 (by omega) _ _ _).c2⟩ | go_keep)
  (first
  | (go_at_call 107; clear sa0; refine (upper_any ab ap aq an ac am ae _).mono ?_; rintro e w' ⟨rfl, hb⟩; have bb := below_then bb (Nat.le_refl _) hb; have x0 := x0.later hb; have x1 := x1.later hb; have A := A.below hb; clear hb; have sa1 := True.intro)
  | (go_at_call 106; clear sa1; refine (wNeg_any ab ap an ac P _ (A.upper lA'.out)).mono ?_; rintro e w' ⟨eb, eo, en, ec, rfl, h1, hb⟩; have bb := below_then bb (Nat.le_refl _) hb; have x0 := x0.later hb; have x1 := x1.later hb; have A := A.below hb; clear hb; have sa2 := True.intro)
  | (go_at_call 105; clear sa2; refine (over_w eb eo aq en ec am ae (-P) Q _ h1 (A.lower lA'.out)).mono ?_; rintro e w' ⟨gb, gp, gn, gc, gq, gm, ge, rfl, hR, hb⟩; have bb := below_then bb (Nat.le_refl _) hb; have x0 := x0.later hb; have x1 := x1.later hb; have A := A.below hb; have h1 := h1.below hb; clear hb; have q0 := x1.c0; have q1 := x1.c1; have q2 := x1.c2; have q3 := x1.fr 0; have q4 := x1.fr 1; have q5 := x1.fr 2; have sa3 := True.intro))
 have z := x1.set (.bool gb) (.slice gp gn gc) (.slice gq gm ge)
 have e0 := z.c0; have e1 := z.c1; have e2 := z.c2
 have x1' := Lib.hid x1; have bb' := Lib.hid bb; have hR' := Lib.hid hR
 clear z x1 bb x0 A hR
 go_wp2_with fail
 refine bodyPost_ret (v := .agg #[.bool gb, .slice gp gn gc, .slice gq gm ge]) (by simp [results, Tryz.results49, go_sem, e0, e1, e2]) rfl ?_
 exact RatPost.stored hR'.out x1'.out bb'.out (by omega)
theorem mul_32 {x y : Int} (hx : x.natAbs < pw 32) (hy : y.natAbs < pw 32) : (x * y).natAbs < pw 64 := mul_abs hx hy
theorem cmp4_any (ab : Bool) (ap aq : Option Addr) (an ac am ae : Nat) (P : Int) (Q : Nat) (cb : Bool) (cp cq : Option Addr) (cn cc cm ce : Nat) (R : Int) (S : Nat) (w : World) (A : Rt w ab ap an ac aq am ae P Q) (lA : Low P Q) (B : Rt w cb cp cn cc cq cm ce R S) (lB : Low R S) :
  Calls Tryz.prog 125 #[.agg #[.bool ab, .slice ap an ac, .slice aq am ae], .agg #[.bool cb, .slice cp cn cc, .slice cq cm ce]] w (Says (.int .i64 (cmpI (P * S) (R * Q))) w) := by
 have lA' := Lib.hid lA; have lB' := Lib.hid lB
 have A' := Lib.hid A; have B' := Lib.hid B
 clear lA A lB B
 go_enter Tryz.func125, Tryz.ntmps125
 go_wp2_with fail
 refine gen_wp (fun w' => Below w.heap.size w w' ∧ Box3 w' w.heap.size (.bool ab) (.slice ap an ac) (.slice aq am ae) ∧ Box3 w' (w.heap.size + 1) (.bool cb) (.slice cp cn cc) (.slice cq cm ce))
  ⟨(((Below.refl _ _).alloc (Nat.le_refl _) _).alloc (by simp <;> omega) _), ((Box3.new _ _ _ _ rfl).alloc _), (Box3.new _ _ _ _ (by simp <;> omega))⟩ ?_
 rintro w0 ⟨bb, x0, x1⟩
 have bb := bb.drew; have x0 := x0.drew; have x1 := x1.drew
 have A := A'.out.below bb; have B := B'.out.below bb
 clear A' B'
 have sc0 := True.intro
 go_region_held3 (fun w' => w'.cell? ⟨w.heap.size, 0, none⟩ = some (.bool ab) ∧ w'.cell? ⟨w.heap.size, 1, none⟩ = some (.slice ap an ac) ∧ w'.cell? ⟨w.heap.size, 2, none⟩ = some (.slice aq am ae) ∧ w'.cell? ⟨(w.heap.size + 1), 0, none⟩ = some (.bool cb) ∧ w'.cell? ⟨(w.heap.size + 1), 1, none⟩ = some (.slice cp cn cc) ∧ w'.cell? ⟨(w.heap.size + 1), 2, none⟩ = some (.slice cq cm ce))
  (first | with_reducible exact ⟨x0.c0, x0.c1, x0.c2, x1.c0, x1.c1, x1.c2⟩ | go_keep)
  (first
  | (go_at_call 107; clear sc0; refine (upper_any ab ap aq an ac am ae _).mono ?_; rintro e w' ⟨rfl, hb⟩; have bb := below_then bb (Nat.le_refl _) hb; have x0 := x0.later hb; have x1 := x1.later hb; have A := A.below hb; have B := B.below hb; clear hb; have sc1 := True.intro)
  | (go_at_call 113; clear sc1; refine (lower_any cb cp cq cn cc cm ce _).mono ?_; rintro e w' ⟨rfl, hb⟩; have bb := below_then bb (Nat.le_refl _) hb; have x0 := x0.later hb; have x1 := x1.later hb; have A := A.below hb; have B := B.below hb; clear hb; have sc2 := True.intro)
  | (go_at_call 112; clear sc2; refine (wMul_any ab false ap cq an ac cm ce P S _ (A.upper lA'.out) (B.lower lB'.out)).mono ?_; rintro e w' ⟨eb, eo, en, ec, rfl, h1, hb⟩; have bb := below_then bb (Nat.le_refl _) hb; have x0 := x0.later hb; have x1 := x1.later hb; have A := A.below hb; have B := B.below hb; clear hb; have sc3 := True.intro)
  | (go_at_call 107; clear sc3; refine (upper_any cb cp cq cn cc cm ce _).mono ?_; rintro e w' ⟨rfl, hb⟩; have bb := below_then bb (Nat.le_refl _) hb; have x0 := x0.later hb; have x1 := x1.later hb; have A := A.below hb; have B := B.below hb; have h1 := h1.below hb; clear hb; have sc4 := True.intro)
  | (go_at_call 113; clear sc4; refine (lower_any ab ap aq an ac am ae _).mono ?_; rintro e w' ⟨rfl, hb⟩; have bb := below_then bb (Nat.le_refl _) hb; have x0 := x0.later hb; have x1 := x1.later hb; have A := A.below hb; have B := B.below hb; have h1 := h1.below hb; clear hb; have sc5 := True.intro)
  | (go_at_call 112; clear sc5; refine (wMul_any cb false cp aq cn cc am ae R Q _ (B.upper lB'.out) (A.lower lA'.out)).mono ?_; rintro e w' ⟨fb, fo, fn, fc, rfl, h2, hb⟩; have bb := below_then bb (Nat.le_refl _) hb; have x0 := x0.later hb; have x1 := x1.later hb; have A := A.below hb; have B := B.below hb; have h1 := h1.below hb; clear hb; have sc6 := True.intro)
  | (go_at_call 165; clear sc6; refine (wCmp_any eb fb eo fo en ec fn fc (P * S) (R * Q) _ (h1.whole (mul_32 lA'.out.abs_lt lB'.out.bot_lt) (by omega)) (h2.whole (mul_32 lB'.out.abs_lt lA'.out.bot_lt) (by omega))).mono ?_; rintro e w' ⟨rfl, hb⟩; have bb := below_then bb (Nat.le_refl _) hb; have x0 := x0.later hb; have x1 := x1.later hb; have A := A.below hb; have B := B.below hb; have h1 := h1.below hb; have h2 := h2.below hb; clear hb; have sc7 := True.intro))
 have bb' := Lib.hid bb
 clear bb x0 x1 A B h1 h2
 go_wp2_with fail
 go_ret
 exact ⟨rfl, bb'.out⟩
end Go.Proofs.YtaepelipkkmeaaaGreat
namespace Go.Proofs.YtaepelipkkmeaaaGreat
open Go.RowKit Num
set_option maxRecDepth 100000 in
theorem refGcdL_any (ao bo : Option Addr) (n nc m mc : Nat) (f g : Nat → Nat) (w : World) (A : Arg w ao n nc f) (B : Arg w bo m mc g) (L : Nat) (hL : L ≤ 1000) (hn40 : n ≤ L) (hm40 : m ≤ L) :
  Calls Tryz.prog 98 #[.slice ao n nc, .slice bo m mc] w (NumPost (Nat.gcd (val f n) (val g m)) w) := by
 have hA := Lib.hid A; have hB := Lib.hid B
 have hX := Lib.hid (small' (val_lt A.lim) hn40); have hY := Lib.hid (small' (val_lt B.lim) hm40)
 obtain ⟨X, hX0⟩ : ∃ X, X = val f n := ⟨_, rfl⟩
 obtain ⟨Y, hY0⟩ : ∃ Y, Y = val g m := ⟨_, rfl⟩
 obtain ⟨D, hD0⟩ : ∃ D, D = Nat.gcd X Y := ⟨_, rfl⟩
 rw [← hX0, ← hY0, ← hD0]
 rw [← hX0] at hX
 rw [← hY0] at hY
 obtain ⟨P, hP0⟩ : ∃ P, P = pw L := ⟨_, rfl⟩
 have hL' := Lib.hid hL
 obtain ⟨M, hM0⟩ : ∃ M, M = 64 * L + 1 := ⟨_, rfl⟩
 obtain ⟨K, hK0⟩ : ∃ K, K = M + 2 := ⟨_, rfl⟩
 have hK : Hid (M + 2 = K) := Lib.hid hK0.symm
 have hKl : K < 64010 := by omega
 have hKl' := Lib.hid hKl
 clear hK0
 obtain ⟨T, hT0⟩ : ∃ T, T = 2 ^ M := ⟨_, rfl⟩
 have hT := Lib.hid hT0
 have hM' : Hid (64 * L + 1 ≤ M) := Lib.hid (by omega)
 clear hT0 hM0 hL
 rw [← hP0] at hX hY
 have hX' := Lib.hid hX0; have hY' := Lib.hid hY0; have hD' := Lib.hid hD0; have hP' := Lib.hid hP0
 clear A B hX0 hY0 hD0 hP0
 go_enter Tryz.func98, Tryz.ntmps98
 go_wp2_with fail
 refine (refNorm_any ao n nc f w hA.out).mono ?_
 rw [← hX'.out]
 rintro e w1 ⟨co, q, qc, h, rfl, hq, hqc, hsh, hch, hb⟩
 have hsh' := Lib.hid hsh; have hch' := Lib.hid hch; have hbel := Lib.hid hb
 clear hsh hch hb
 go_wp2_with fail
 refine (refNorm_any bo m mc g w1 (hB.out.below hbel.out)).mono ?_
 rw [← hY'.out]
 rintro e w2 ⟨do_, r, rc, i, rfl, hr, hrc, hsi, hci, hb⟩
 have hsi' := Lib.hid hsi; have hci' := Lib.hid hci; have hbel2 := Lib.hid (hbel.out.trans (hb.mono hbel.out.size)); have hsh2 := Lib.hid (hsh'.out.below hb)
 clear hsi hci hb hsh'
 go_wp2_with fail
 go_loopw [5, 6, 7] (fun a b c wr => ∃ (k x y : Nat) (ao : Option Addr) (n nc : Nat) (f : Nat → Nat) (bo : Option Addr) (m mc : Nat) (g : Nat → Nat), c = .int .i64 k ∧ a = .slice ao n nc ∧ b = .slice bo m mc ∧ n ≤ nc ∧ nc ≤ 9223372036854775807 ∧ m ≤ mc ∧ mc ≤ 9223372036854775807 ∧ k ≤ K ∧
   Sl wr ao n f ∧ Canon x n f ∧ Sl wr bo m g ∧ Canon y m g ∧ x < P ∧ y < P ∧ D = Nat.gcd x y ∧ (k = 0 ∨ (y < x ∧ x * y * 2 ^ k ≤ T)) ∧ Below w.heap.size w wr) (fun _ _ c _ => K - (intOf c).toNat)
 case atStart =>
  exact ⟨0, X, Y, co, q, qc, h, do_, r, rc, i, rfl, rfl, rfl, hq, hqc, hr, hrc, by omega, hsh2.out, hch'.out, hsi'.out, hci'.out, hX.out, hY.out, hD'.out, .inl rfl, hbel2.out⟩
 case round =>
  obtain ⟨k, x, y, ao, n, nc, f, bo, m, mc, g, rfl, rfl, rfl, hn, hnc, hm, hmc, hk, hsf0, hcf0, hsg0, hcg0, hx0, hy0, hg0, hst0, hbel0⟩ := hrel
  have hsf := Lib.hid hsf0; have hcf := Lib.hid hcf0; have hsg := Lib.hid hsg0; have hcg := Lib.hid hcg0; have hx := Lib.hid hx0; have hy := Lib.hid hy0; have hg := Lib.hid hg0; have hst := Lib.hid hst0; have hbel := Lib.hid hbel0
  clear hsf0 hcf0 hsg0 hcg0 hx0 hy0 hg0 hst0 hbel0
  have hkk0 : k ≤ 64010 := by omega
  have hkt : decide ((k : Int) < 100000) = true := by rw [decide_eq_true_iff]; omega
  by_cases hm0 : m = 0
  ·subst hm0
   focus
    go_wp2_with fail
    go_ret
    refine ⟨ao, n, nc, f, rfl, hn, hnc, hsf.out, ?_, hbel.out⟩
    have e : y = 0 := hcg.out.ne_zero.1 rfl
    have e2 := hg.out
    rw [e, Nat.gcd_zero_right] at e2
    rw [e2]; exact hcf.out
  ·have hy1 : 0 < y := Nat.pos_of_ne_zero (fun e => hm0 (hcg.out.ne_zero.2 e))
   have hkk : k ≤ M := by
    rcases hst.out with h | ⟨h1, h2⟩
    ·omega
    ·rw [hT.out] at h2
     exact gcd_few h1 hy1 h2
   have hst2 : Hid (x % y < y ∧ y * (x % y) * 2 ^ (k + 1) ≤ T) := by
    rcases hst.out with h | ⟨h1, h2⟩
    ·refine ⟨Nat.mod_lt _ hy1, ?_⟩
     rw [h, hT.out]
     have py : y ≤ pw L := by rw [← hP'.out]; exact Nat.le_of_lt hy.out
     exact gcd_start py (Nat.le_trans (Nat.le_of_lt (Nat.mod_lt _ hy1)) py) hM'.out
    ·exact gcd_step h1 hy1 h2
   obtain ⟨a1, a2⟩ := hcf.out.few hsf.out hn hnc (by rw [← hP'.out]; exact hx.out) (Nat.le_trans hL'.out (by decide))
   obtain ⟨b1, b2⟩ := hcg.out.few hsg.out hm hmc (by rw [← hP'.out]; exact hy.out) (Nat.le_trans hL'.out (by decide))
   have a1' := Lib.hid a1; have b1' := Lib.hid b1
   have hm1 : 0 < m := by omega
   have n40 := Lib.hid a2; have m40 := Lib.hid b2; have k30 := Lib.hid hkk; have k40 := Lib.hid hkk0
   clear a1 b1 a2 b2 hk
   go_wp2_with fail
   refine (refDivMod_any ao bo n nc m mc f g wr a1'.out b1'.out (Nat.le_trans n40.out hL'.out) (Nat.le_trans m40.out hL'.out)).mono ?_
   rw [hcf.out.val, hcg.out.val]
   rintro e w3 ⟨hb3, h3⟩
   rcases h3 with ⟨h3, _⟩ | ⟨_, ao3, n3, nc3, f3, bo3, m3, mc3, g3, rfl, _, _, hm3, hmc3, _, _, hsg3, hcg3⟩
   ·exact absurd h3 (Nat.pos_iff_ne_zero.1 hy1)
   have hsg3' := Lib.hid hsg3; have hcg3' := Lib.hid hcg3; have hsg4 := Lib.hid (hsg.out.below hb3)
   have hbel3 := Lib.hid (hbel.out.trans (hb3.mono hbel.out.size))
   clear hb3 hsg3 hcg3
   go_wp2_with fail
   go_roundw
   case rel =>
    exact ⟨k + 1, y, x % y, bo, m, mc, g, bo3, m3, mc3, g3, by go_num, rfl, rfl, hm, hmc, hm3, hmc3, by have := k30.out; have := hK.out; omega, hsg4.out, hcg.out, hsg3'.out, hcg3'.out, hy.out, Nat.lt_trans (Nat.mod_lt _ hy1) hy.out, by rw [hg.out, Nat.gcd_comm, Nat.gcd_rec, Nat.gcd_comm], .inr hst2.out, hbel3.out⟩
   case measure => simp [intOf]; have := k30.out; have := hK.out; omega
end Go.Proofs.YtaepelipkkmeaaaGreat
