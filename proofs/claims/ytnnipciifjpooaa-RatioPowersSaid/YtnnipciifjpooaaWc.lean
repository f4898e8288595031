/-
  whole.Cmp, whole.DivMod.
-/
import Derived.Test.YtnnipciifjpooaaWb
import Derived.Test.YtnnipciifjpooaaDiv
import Derived.Test.YtnnipciifjpooaaGcd
import Derived.Test.YtnnipciifjpooaaAdd
import Derived.Test.YtnnipciifjpooaaSub
namespace Go.Proofs.Ytnnipciifjpooaa
open Go.RowKit Num

attribute [local go_sem ↓] Go.wp_at_zero Go.wp_at_succ

theorem cmp_sign {x y : Int} (h : x.sign ≠ y.sign) : cmpI x.sign y.sign = cmpI x y := by
  rcases Int.lt_trichotomy x 0 with hx | rfl | hx <;> rcases Int.lt_trichotomy y 0 with hy | rfl | hy <;>
    simp_all [Int.sign_eq_one_of_pos, Int.sign_eq_neg_one_of_neg, cmpI] <;> (repeat' split) <;> omega
theorem sgn_cases (b : Bool) (u : Nat) : ((u = 0 ∧ (sgn b u).sign = 0 ∧ sgn b u = 0) ∨ (0 < u ∧ (sgn b u).sign = 1 ∧ sgn b u = u)) ∨ (0 < u ∧ (sgn b u).sign = -1 ∧ sgn b u = -(u : Int)) := by
  by_cases h : u = 0
  · subst h; left; left; cases b <;> simp [sgn]
  · have h' : (0 : Int) < (u : Int) := by omega
    cases b
    · left; right; exact ⟨by omega, Int.sign_eq_one_of_pos h', rfl⟩
    · right; exact ⟨by omega, Int.sign_eq_neg_one_of_neg (by simp only [sgn_true]; omega), rfl⟩
theorem wrap_is (z : Int) : wrap64 z = IntKind.i64.wrap z := by
  simp [wrap64, IntKind.wrap, IntKind.bits, IntKind.signed]
  omega
theorem wrap_cmp (p q : Int) : IntKind.i64.wrap (1 * cmpI p q) = cmpI p q ∧ IntKind.i64.wrap (-1 * cmpI p q) = cmpI (-p) (-q) ∧ IntKind.i64.wrap (0 * cmpI p q) = 0 := by
  have w1 : IntKind.i64.wrap 1 = 1 := by decide
  have w2 : IntKind.i64.wrap (-1) = -1 := by decide
  have w3 : IntKind.i64.wrap 0 = 0 := by decide
  rcases Int.lt_trichotomy p q with h | h | h
  · rw [cmpI_lt h, cmpI_gt (show -q < -p by omega)]; exact ⟨w2, w1, w3⟩
  · rw [cmpI_eq h, cmpI_eq (show -p = -q by omega)]; exact ⟨w3, w3, w3⟩
  · rw [cmpI_gt h, cmpI_lt (show -p < -q by omega)]; exact ⟨w1, w2, w3⟩
theorem cmp_size {b c : Bool} {u v : Nat} (h : (sgn b u).sign = (sgn c v).sign) : IntKind.i64.wrap ((sgn b u).sign * cmpI u v) = cmpI (sgn b u) (sgn c v) := by
  obtain ⟨w1, w2, w3⟩ := wrap_cmp u v
  rcases sgn_cases b u with (⟨h1, h2, h3⟩ | ⟨h1, h2, h3⟩) | ⟨h1, h2, h3⟩ <;> rcases sgn_cases c v with (⟨k1, k2, k3⟩ | ⟨k1, k2, k3⟩) | ⟨k1, k2, k3⟩ <;> rw [h2, k2] at h <;> first | omega | skip
  · rw [h2, h3, k3, w3, cmpI_eq rfl]
  · rw [h2, h3, k3, w1]
  · rw [h2, h3, k3, w2]

set_option maxHeartbeats 1000000 in
theorem wCmp_any (b c : Bool) (ao bo : Option Addr) (n nc m mc : Nat) (x y : Int) (w : World) (A : Whole w b ao n nc x) (B : Whole w c bo m mc y) :
    Calls Try.prog 50 #[.agg #[.bool b, .slice ao n nc], .agg #[.bool c, .slice bo m mc]] w (Says (.int .i64 (cmpI x y)) w) := by
  have A' := Lib.hid A; have B' := Lib.hid B
  clear A B
  go_enter Try.func50, Try.ntmps50
  go_wp2_with fail
  refine gen_wp (fun w' => Below w.heap.size w w' ∧ Box w' w.heap.size (.bool b) (.slice ao n nc) ∧ Box w' (w.heap.size + 1) (.bool c) (.slice bo m mc))
    ⟨(((Below.refl _ w).alloc (Nat.le_refl _) _).alloc (by first | (simp; done) | (simp; omega)) _), ((Box.new _ _ _ rfl).alloc _), (Box.new _ _ _ (by first | (simp; done) | (simp; omega)))⟩ ?_
  rintro w0 ⟨hb0, x0, x1⟩
  have hb0 := hb0.drew; have x0 := x0.drew; have x1 := x1.drew
  go_region_held3 (fun w' => w'.cell? ⟨w.heap.size, 0, none⟩ = some (.bool b) ∧ w'.cell? ⟨w.heap.size, 1, none⟩ = some (.slice ao n nc) ∧ w'.cell? ⟨w.heap.size + 1, 0, none⟩ = some (.bool c) ∧ w'.cell? ⟨w.heap.size + 1, 1, none⟩ = some (.slice bo m mc))
    (first | with_reducible exact ⟨x0.c0, x0.c1, x1.c0, x1.c1⟩ | with_reducible exact ⟨y0.c0, y0.c1, y1.c0, y1.c1⟩ | with_reducible exact ⟨z0.c0, z0.c1, z1.c0, z1.c1⟩)
    (first
    | (go_at_call_of 53 (Value.agg #[.bool b, .slice ao n nc]); refine (wSign_any b ao n nc x _ (A'.out.below hb0)).mono ?_; rintro e w1 ⟨rfl, hb⟩; have y0 := x0.later hb; have y1 := x1.later hb; have hb1 := below_then hb0 (Nat.le_refl _) hb)
    | (go_at_call_of 53 (Value.agg #[.bool c, .slice bo m mc]); refine (wSign_any c bo m mc y _ (B'.out.below hb1)).mono ?_; rintro e w2 ⟨rfl, hb2⟩; have z0 := y0.later hb2; have z1 := y1.later hb2; have hb3 := below_then hb1 (Nat.le_refl _) hb2))
  have hb3' := Lib.hid hb3; have z0' := Lib.hid z0; have z1' := Lib.hid z1
  clear x0 x1 y0 y1 hb0 hb hb1 hb2 hb3 z0 z1
  by_cases hs : x.sign = y.sign
  · have p0 := z0'.out.c0; have p1 := z0'.out.c1; have p2 := z1'.out.c0; have p3 := z1'.out.c1
    obtain ⟨f, A, hx⟩ := A'.out.ex
    obtain ⟨g, B, hy⟩ := B'.out.ex
    have A := Lib.hid A; have B := Lib.hid B; have hx := Lib.hid hx; have hy := Lib.hid hy; have hs' := Lib.hid hs
    go_wp2_with fail
    refine (cmp_any ao bo n nc m mc f g _ (A.out.below hb3'.out) (B.out.below hb3'.out)).mono ?_
    rintro e w3 ⟨rfl, hd⟩
    have hb := below_drawn hd
    have hb4 := Lib.hid (below_then hb3'.out (Nat.le_refl _) hb)
    clear hd hb
    go_wp2_with fail
    go_ret
    refine ⟨ret_num ?_, hb4.out⟩
    have key := cmp_size (b := b) (c := c) (u := val f n) (v := val g m) (by rw [hx.out, hy.out]; exact hs'.out)
    rw [hx.out, hy.out] at key
    rw [← hs, wrap_is]
    exact key
  · go_wp2_with fail
    refine (cmp_int x.sign y.sign _).mono ?_
    rintro e w3 ⟨rfl, rfl⟩
    rw [cmp_sign hs]
    go_wp2_with fail
    go_ret
    exact ⟨rfl, hb3'.out⟩

/-- Quotient, rounded down, and rest; or zeros and false. -/
def IDivPost (x y : Int) (w : World) (e : Ending) (w' : World) : Prop :=
  Below w.heap.size w w' ∧ ((y = 0 ∧ e = .returned (.tuple #[.agg #[.bool false, .slice none 0 0], .agg #[.bool false, .slice none 0 0], .bool false])) ∨
    (y ≠ 0 ∧ ∃ b ao n nc c bo m mc, e = .returned (.tuple #[.agg #[.bool b, .slice ao n nc], .agg #[.bool c, .slice bo m mc], .bool true]) ∧ Right w' b ao n nc (x.fdiv y) ∧ Right w' c bo m mc (x.fmod y)))

theorem fdiv_is {x y q r : Int} (e : r + y * q = x) (h : (0 < y ∧ 0 ≤ r ∧ r < y) ∨ (y < 0 ∧ y < r ∧ r ≤ 0)) : x.fdiv y = q ∧ x.fmod y = r := by
  rcases h with ⟨h0, h1, h2⟩ | ⟨h0, h1, h2⟩
  · exact (Int.fdiv_fmod_unique h0).2 ⟨e, h1, h2⟩
  · exact (Int.fdiv_fmod_unique' h0).2 ⟨e, h1, h2⟩
theorem fdiv_same (b : Bool) {u v : Nat} (hv : v ≠ 0) : (sgn b u).fdiv (sgn b v) = sgn false (u / v) ∧ (sgn b u).fmod (sgn b v) = sgn b (u % v) := by
  have e : (v : Int) * ((u / v : Nat) : Int) + ((u % v : Nat) : Int) = u := by exact_mod_cast Nat.div_add_mod u v
  have l : u % v < v := Nat.mod_lt _ (by omega)
  cases b
  · exact fdiv_is (by simp only [sgn_false]; omega) (.inl ⟨by simp only [sgn_false]; omega, by simp only [sgn_false]; omega, by simp only [sgn_false]; omega⟩)
  · refine fdiv_is ?_ (.inr ⟨by simp only [sgn_true]; omega, by simp only [sgn_true]; omega, by simp only [sgn_true]; omega⟩)
    simp only [sgn_true, sgn_false, Int.neg_mul]; omega
theorem fdiv_even {b c : Bool} (h : b ≠ c) {u v : Nat} (hv : v ≠ 0) (hr : u % v = 0) : (sgn b u).fdiv (sgn c v) = sgn true (u / v) ∧ (sgn b u).fmod (sgn c v) = sgn c (u % v) := by
  have e : (v : Int) * ((u / v : Nat) : Int) + ((u % v : Nat) : Int) = u := by exact_mod_cast Nat.div_add_mod u v
  rw [hr] at e ⊢
  cases b <;> cases c <;> simp only [ne_eq, not_true, reduceCtorEq, not_false_iff] at h
  · refine fdiv_is ?_ (.inr ⟨by simp only [sgn_true]; omega, by simp only [sgn_true]; omega, by simp only [sgn_true]; omega⟩)
    simp only [sgn_true, sgn_false, Int.neg_mul, Int.mul_neg]; omega
  · refine fdiv_is ?_ (.inl ⟨by simp only [sgn_false]; omega, by simp only [sgn_false]; omega, by simp only [sgn_false]; omega⟩)
    simp only [sgn_true, sgn_false, Int.mul_neg]; omega
theorem fdiv_odd {b c : Bool} (h : b ≠ c) {u v : Nat} (hv : v ≠ 0) (hr : u % v ≠ 0) : (sgn b u).fdiv (sgn c v) = sgn true (u / v + 1) ∧ (sgn b u).fmod (sgn c v) = sgn c (v - u % v) := by
  have e : (v : Int) * ((u / v : Nat) : Int) + ((u % v : Nat) : Int) = u := by exact_mod_cast Nat.div_add_mod u v
  have l : u % v < v := Nat.mod_lt _ (by omega)
  have e2 : (v : Int) * ((u / v + 1 : Nat) : Int) = (v : Int) * ((u / v : Nat) : Int) + v := by rw [Int.natCast_add, Int.mul_add]; simp
  cases b <;> cases c <;> simp only [ne_eq, not_true, reduceCtorEq, not_false_iff] at h
  · refine fdiv_is ?_ (.inr ⟨by simp only [sgn_true]; omega, by simp only [sgn_true]; omega, by simp only [sgn_true]; omega⟩)
    simp only [sgn_true, sgn_false, Int.neg_mul, Int.mul_neg]; omega
  · refine fdiv_is ?_ (.inl ⟨by simp only [sgn_false]; omega, by simp only [sgn_false]; omega, by simp only [sgn_false]; omega⟩)
    simp only [sgn_true, sgn_false, Int.mul_neg]; omega

theorem small {v k : Nat} (hk : k ≤ 1000000) (h : v < pw k) : v < pw 1000000 := Nat.lt_of_lt_of_le h (pw_le hk)
theorem IDivPost.stored {w wk : World} {x y q r : Int} {b c : Bool} {ao bo : Option Addr} {n nc m mc B C : Nat} {b1 b2 : Bool} {p1 p2 : Option Addr} {k1 k2 l1 l2 : Nat} (hQ : Right wk b ao n nc q) (hR : Right wk c bo m mc r)
    (zB : Box wk B (.bool b1) (.slice p1 k1 l1)) (zC : Box wk C (.bool b2) (.slice p2 k2 l2)) (hne : B ≠ C) (hb : Below w.heap.size w wk) (hB : w.heap.size ≤ B) (hC : w.heap.size ≤ C) (hy : y ≠ 0) (e : x.fdiv y = q ∧ x.fmod y = r) :
    IDivPost x y w (.returned (.tuple #[.agg #[.bool b, .slice ao n nc], .agg #[.bool c, .slice bo m mc], .bool true])) ((((wk.setCell ⟨B, 0, none⟩ (.bool b)).setCell ⟨B, 1, none⟩ (.slice ao n nc)).setCell ⟨C, 0, none⟩ (.bool c)).setCell ⟨C, 1, none⟩ (.slice bo m mc)) := by
  rw [← e.1] at hQ; rw [← e.2] at hR
  exact ⟨below_set (below_set hb hB _ _) hC _ _, .inr ⟨hy, b, ao, n, nc, c, bo, m, mc, rfl, (hQ.box zB _ _).box (zC.other hne.symm _ _) _ _, (hR.box zB _ _).box (zC.other hne.symm _ _) _ _⟩⟩
theorem IDivPost.stored' {w wk : World} {x y q r : Int} {b c : Bool} {ao bo : Option Addr} {n nc m mc B C : Nat} {b1 b2 : Bool} {p1 p2 : Option Addr} {k1 k2 l1 l2 : Nat} (hQ : Right wk b ao n nc q) (hR : Right wk c bo m mc r)
    (zB : Box wk B (.bool b1) (.slice p1 k1 l1)) (zC : Box wk C (.bool b2) (.slice p2 k2 l2)) (hne : B ≠ C) (hb : Below w.heap.size w wk) (hB : w.heap.size ≤ B) (hC : w.heap.size ≤ C) (hy : y ≠ 0) (e : x.fdiv y = q ∧ x.fmod y = r) :
    IDivPost x y w (.returned (.tuple #[.agg #[.bool b, .slice ao n nc], .agg #[.bool c, .slice bo m mc], .bool true])) ((((wk.setCell ⟨C, 0, none⟩ (.bool c)).setCell ⟨C, 1, none⟩ (.slice bo m mc)).setCell ⟨B, 0, none⟩ (.bool b)).setCell ⟨B, 1, none⟩ (.slice ao n nc)) := by
  rw [← e.1] at hQ; rw [← e.2] at hR
  exact ⟨below_set (below_set hb hC _ _) hB _ _, .inr ⟨hy, b, ao, n, nc, c, bo, m, mc, rfl, (hQ.box zC _ _).box (zB.other hne _ _) _ _, (hR.box zC _ _).box (zB.other hne _ _) _ _⟩⟩

set_option maxHeartbeats 1000000 in
theorem wDivMod_any (b c : Bool) (ao bo : Option Addr) (n nc m mc : Nat) (x y : Int) (w : World) (A : Whole w b ao n nc x) (B : Whole w c bo m mc y) :
    Calls Try.prog 57 #[.agg #[.bool b, .slice ao n nc], .agg #[.bool c, .slice bo m mc]] w (IDivPost x y w) := by
  obtain ⟨f, A, hx⟩ := A.ex
  obtain ⟨g, B, hy⟩ := B.ex
  have A' := Lib.hid A; have hx' := Lib.hid hx; have B' := Lib.hid B; have hy' := Lib.hid hy
  clear A hx B hy
  go_enter Try.func57, Try.ntmps57
  go_wp2_with fail
  refine gen_calls (fun w' => Below w.heap.size w w' ∧ Box w' w.heap.size (.bool b) (.slice ao n nc) ∧ Box w' (w.heap.size + 1) (.bool c) (.slice bo m mc) ∧ Box w' (w.heap.size + 2) (.bool false) (.slice none 0 0) ∧ Box w' (w.heap.size + 3) (.bool false) (.slice none 0 0))
    ⟨(((((Below.refl _ w).alloc (Nat.le_refl _) _).alloc (by first | (simp; done) | (simp; omega)) _).alloc (by first | (simp; done) | (simp; omega)) _).alloc (by first | (simp; done) | (simp; omega)) _), ((((Box.new _ _ _ rfl).alloc _).alloc _).alloc _), (((Box.new _ _ _ (by first | (simp; done) | (simp; omega))).alloc _).alloc _), ((Box.new _ _ _ (by first | (simp; done) | (simp; omega))).alloc _), (Box.new _ _ _ (by first | (simp; done) | (simp; omega)))⟩ ?_
  rintro w0 ⟨hb0, x0, x1, x2, x3⟩
  refine (divMod_any ao bo n nc m mc f g _ (A'.out.below hb0) (B'.out.below hb0)).mono ?_
  rintro e w1 ⟨hb, h⟩
  have y0 := x0.later hb; have y1 := x1.later hb; have y2 := x2.later hb; have y3 := x3.later hb
  have hb1 := below_then hb0 (Nat.le_refl _) hb
  clear x0 x1 x2 x3 hb hb0
  rcases h with ⟨h0, rfl⟩ | ⟨h0, qo, qn, qc, q, ro, rn, rc, r, rfl, g1, g2, g3, g4, g5, g6, g7, g8⟩
  · have hb1' := Lib.hid hb1
    have hy0 : y = 0 := by rw [← hy'.out, h0]; cases c <;> rfl
    have hy0' := Lib.hid hy0
    have p0 := y2.c0; have p1 := y2.c1; have p2 := y2.fr 0; have p3 := y2.fr 1; have p4 := y3.c0; have p5 := y3.c1; have p6 := y3.fr 0; have p7 := y3.fr 1
    have z2 := Lib.hid ((y2.set (.bool false) (.slice none 0 0)).other (C := w.heap.size + 3) (by omega) (.bool false) (.slice none 0 0))
    have z3 := Lib.hid ((y3.other (C := w.heap.size + 2) (by omega) (.bool false) (.slice none 0 0)).set (.bool false) (.slice none 0 0))
    clear hb1 h0 hy0 y0 y1 y2 y3
    go_wp2_with fail
    have e0 := z2.out.c0; have e1 := z2.out.c1; have e2 := z3.out.c0; have e3 := z3.out.c1
    refine bodyPost_ret (v := .tuple #[.agg #[.bool false, .slice none 0 0], .agg #[.bool false, .slice none 0 0], .bool false]) (by simp [results, Try.results57, go_sem, e0, e1, e2, e3]) rfl ?_
    exact ⟨below_set (below_set hb1'.out (by omega) _ _) (by omega) _ _, .inl ⟨hy0'.out, rfl⟩⟩
  · have h0' := Lib.hid h0; have g5' := Lib.hid g5; have g6' := Lib.hid g6; have g7' := Lib.hid g7; have g8' := Lib.hid g8; have hb1' := Lib.hid hb1
    have p0 := y0.c0; have p1 := y1.c0
    have y0' := Lib.hid y0; have y1' := Lib.hid y1; have y2' := Lib.hid y2; have y3' := Lib.hid y3
    clear h0 g5 g6 g7 g8 hb1 y0 y1 y2 y3
    by_cases hbc : b = c
    · subst hbc
      go_wp2_with fail
      have hbw := Lib.hid hb1'.out.drew
      have x1 := y1'.out.drew; have x2 := y2'.out.drew; have x3 := y3'.out.drew
      go_region_held3 (fun w' => w'.cell? ⟨w.heap.size + 1, 0, none⟩ = some (.bool b))
        (first | with_reducible exact x1.c0 | with_reducible exact u1.c0 | with_reducible exact v1.c0 | with_reducible exact (v1.other (C := w.heap.size + 2) (by omega) _ _).c0 | with_reducible exact (v1.other (C := w.heap.size + 3) (by omega) _ _).c0 | with_reducible exact ((v1.other (C := w.heap.size + 2) (by omega) _ _).other (C := w.heap.size + 3) (by omega) _ _).c0 | with_reducible exact ((v1.other (C := w.heap.size + 3) (by omega) _ _).other (C := w.heap.size + 2) (by omega) _ _).c0)
        (first
        | (go_at_call_of 72 qo; refine (signed_any false qo _ qn qc q _ g1 g2 (g5'.out.below (Below.refl _ _).drew) g6'.out).mono ?_; rintro e w2 ⟨sb, so, sn, sc, rfl, hQ, hb2⟩; have u1 := x1.later hb2; have u2 := x2.later hb2; have u3 := x3.later hb2; have hb3 := below_then hbw.out (Nat.le_refl _) hb2; have g7 := g7'.out.below ((Below.refl _ _).drew.trans hb2))
        | (go_at_call_of 72 ro; refine (signed_any b ro _ rn rc r _ g3 g4 g7 g8'.out).mono ?_; rintro e w3 ⟨tb, to_, tn, tc, rfl, hR, hb4⟩; have v1 := u1.later hb4; have v2 := u2.later hb4; have v3 := u3.later hb4; have hb5 := below_then hb3 (Nat.le_refl _) hb4; have hQ3 := hQ.below hb4
           have q0 := v2.c0; have q1 := v2.c1; have q2 := v2.fr 0; have q3 := v2.fr 1; have q4 := v3.c0; have q5 := v3.c1; have q6 := v3.fr 0; have q7 := v3.fr 1))
      have z2 := (v2.set (.bool sb) (.slice so sn sc)).other (C := w.heap.size + 3) (by omega) (.bool tb) (.slice to_ tn tc)
      have z3 := (v3.other (C := w.heap.size + 2) (by omega) (.bool sb) (.slice so sn sc)).set (.bool tb) (.slice to_ tn tc)
      have e0 := z2.c0; have e1 := z2.c1; have e2 := z3.c0; have e3 := z3.c1
      have hQ3' := Lib.hid hQ3; have hR' := Lib.hid hR; have v2' := Lib.hid v2; have v3' := Lib.hid v3; have hb5' := Lib.hid hb5
      clear z2 z3 q0 q1 q2 q3 q4 q5 q6 q7 hQ hR hb2 hb3 hb4 hb5 u1 u2 u3 v1 v2 v3 x1 x2 x3 g7 hQ3
      go_wp2_with fail
      refine bodyPost_ret (v := .tuple #[.agg #[.bool sb, .slice so sn sc], .agg #[.bool tb, .slice to_ tn tc], .bool true]) (by simp [results, Try.results57, go_sem, e0, e1, e2, e3]) rfl ?_
      have hy0 : y ≠ 0 := by
        rw [← hy'.out]
        intro e
        have e1 := congrArg Int.natAbs e
        rw [sgn_abs] at e1
        exact h0'.out (by simpa using e1)
      exact IDivPost.stored hQ3'.out hR'.out v2'.out v3'.out (by omega) hb5'.out (by omega) (by omega) hy0 (by rw [← hx'.out, ← hy'.out]; exact fdiv_same b h0'.out)
    · have hbc' : (b == c) = false := by simp [hbc]
      by_cases hr : rn = 0
      · subst hr
        go_wp2_with fail
        have hbw := Lib.hid hb1'.out.drew
        have x1 := y1'.out.drew; have x2 := y2'.out.drew; have x3 := y3'.out.drew
        go_region_held3 (fun w' => w'.cell? ⟨w.heap.size + 1, 0, none⟩ = some (.bool c))
          (first | with_reducible exact x1.c0 | with_reducible exact u1.c0 | with_reducible exact v1.c0 | with_reducible exact (v1.other (C := w.heap.size + 2) (by omega) _ _).c0 | with_reducible exact (v1.other (C := w.heap.size + 3) (by omega) _ _).c0 | with_reducible exact ((v1.other (C := w.heap.size + 2) (by omega) _ _).other (C := w.heap.size + 3) (by omega) _ _).c0 | with_reducible exact ((v1.other (C := w.heap.size + 3) (by omega) _ _).other (C := w.heap.size + 2) (by omega) _ _).c0)
          (first
          | (go_at_call_of 72 qo; refine (signed_any true qo _ qn qc q _ g1 g2 (g5'.out.below (Below.refl _ _).drew) g6'.out).mono ?_; rintro e w2 ⟨sb, so, sn, sc, rfl, hQ, hb2⟩; have u1 := x1.later hb2; have u2 := x2.later hb2; have u3 := x3.later hb2; have hb3 := below_then hbw.out (Nat.le_refl _) hb2; have g7 := g7'.out.below ((Below.refl _ _).drew.trans hb2))
          | (go_at_call_of 72 ro; refine (signed_any c ro _ 0 rc r _ g3 g4 g7 g8'.out).mono ?_; rintro e w3 ⟨tb, to_, tn, tc, rfl, hR, hb4⟩; have v1 := u1.later hb4; have v2 := u2.later hb4; have v3 := u3.later hb4; have hb5 := below_then hb3 (Nat.le_refl _) hb4; have hQ3 := hQ.below hb4
             have q0 := v2.c0; have q1 := v2.c1; have q2 := v2.fr 0; have q3 := v2.fr 1; have q4 := v3.c0; have q5 := v3.c1; have q6 := v3.fr 0; have q7 := v3.fr 1))
        have z2 := (v2.set (.bool sb) (.slice so sn sc)).other (C := w.heap.size + 3) (by omega) (.bool tb) (.slice to_ tn tc)
        have z3 := (v3.other (C := w.heap.size + 2) (by omega) (.bool sb) (.slice so sn sc)).set (.bool tb) (.slice to_ tn tc)
        have e0 := z2.c0; have e1 := z2.c1; have e2 := z3.c0; have e3 := z3.c1
        have hQ3' := Lib.hid hQ3; have hR' := Lib.hid hR; have v2' := Lib.hid v2; have v3' := Lib.hid v3; have hb5' := Lib.hid hb5
        clear z2 z3 q0 q1 q2 q3 q4 q5 q6 q7 hQ hR hb2 hb3 hb4 hb5 u1 u2 u3 v1 v2 v3 x1 x2 x3 g7 hQ3
        go_wp2_with fail
        refine bodyPost_ret (v := .tuple #[.agg #[.bool sb, .slice so sn sc], .agg #[.bool tb, .slice to_ tn tc], .bool true]) (by simp [results, Try.results57, go_sem, e0, e1, e2, e3]) rfl ?_
        have hy0 : y ≠ 0 := by
          rw [← hy'.out]
          intro e
          have e1 := congrArg Int.natAbs e
          rw [sgn_abs] at e1
          exact h0'.out (by simpa using e1)
        exact IDivPost.stored hQ3'.out hR'.out v2'.out v3'.out (by omega) hb5'.out (by omega) (by omega) hy0 (by rw [← hx'.out, ← hy'.out]; exact fdiv_even hbc h0'.out (g8'.out.ne_zero.1 rfl))
      · have hr0 := Nat.pos_of_ne_zero hr
        have hlt := Lib.hid (val_lt A'.out.lim)
        have hfew := Lib.hid (small A'.out.few hlt.out)
        have hQa := Lib.hid (g6'.out.arg g5'.out g1 g2 (Nat.lt_of_le_of_lt (Nat.div_le_self _ _) hfew.out))
        have hRa := Lib.hid (g8'.out.arg g7'.out g3 g4 (Nat.lt_of_le_of_lt (Nat.mod_le _ _) hfew.out))
        have hrv := Lib.hid g8'.out.val; have hqv := Lib.hid g6'.out.val
        have hrn : Hid (val f n % val g m ≠ 0) := Lib.hid (fun e => hr (g8'.out.ne_zero.2 e))
        clear hr
        go_wp2_with fail
        refine gen_calls (fun w' => Below w1.heap.size w1 w' ∧ Sl w' (some ⟨w1.heap.size, 0, none⟩) 1 (fun _ => 1)) ⟨(Below.refl _ _).alloc (Nat.le_refl _) _, sl_new1 w1 _ _ _ rfl⟩ ?_
        rintro w4 ⟨k2, ks⟩
        refine (add_any qo (some ⟨w1.heap.size, 0, none⟩) qn qc 1 1 q (fun _ => 1) _ (hQa.out.below k2) ⟨Nat.le_refl _, by omega, by omega, ks, fun _ _ => (by decide : 1 < 4294967296)⟩).mono ?_
        have e1 : val (fun _ => 1) 1 = 1 := by simp [val, pw]
        rw [e1, hqv.out]
        clear e1 g1 g2 g5' g6' ks
        rintro e w5 ⟨qo, qn, qc, q, rfl, g1, g2, g5, g6, hb6⟩
        have hb7 := k2.trans (hb6.mono k2.size)
        have hb1' := Lib.hid (below_then hb1'.out (Nat.le_refl _) hb7)
        have y1' := Lib.hid (y1'.out.later hb7); have y2' := Lib.hid (y2'.out.later hb7); have y3' := Lib.hid (y3'.out.later hb7)
        have hRa := Lib.hid (hRa.out.below hb7)
        have g5' := Lib.hid g5; have g6' := Lib.hid g6
        have p1 := y1'.out.c1
        clear k2 hb6 hb7 g5 g6 p0 y0'
        go_wp2_with fail
        refine (sub_any bo ro m mc rn rc g r _ (B'.out.below hb1'.out) hRa.out).mono ?_
        rw [hrv.out]
        rintro e w6 ⟨hb8, h⟩
        rcases h with ⟨h, _⟩ | ⟨_, so, sn, sc, s, rfl, k3, k4, k7, k8⟩
        · exact absurd h (Nat.not_lt.2 (Nat.le_of_lt (Nat.mod_lt _ (Nat.pos_of_ne_zero h0'.out))))
        have hb1' := Lib.hid (below_then hb1'.out (Nat.le_refl _) hb8)
        have y1' := Lib.hid (y1'.out.later hb8); have y2' := Lib.hid (y2'.out.later hb8); have y3' := Lib.hid (y3'.out.later hb8)
        have g5' := Lib.hid (g5'.out.below hb8)
        have g7' := Lib.hid k7; have g8' := Lib.hid k8
        have p1 := y1'.out.c0
        clear hb8 k7 k8 g3 g4 hRa
        go_wp2_with fail
        have hbw := Lib.hid hb1'.out.drew
        have x1 := y1'.out.drew; have x2 := y2'.out.drew; have x3 := y3'.out.drew
        go_region_held3 (fun w' => w'.cell? ⟨w.heap.size + 1, 0, none⟩ = some (.bool c))
          (first | with_reducible exact x1.c0 | with_reducible exact u1.c0 | with_reducible exact v1.c0 | with_reducible exact (v1.other (C := w.heap.size + 2) (by omega) _ _).c0 | with_reducible exact (v1.other (C := w.heap.size + 3) (by omega) _ _).c0 | with_reducible exact ((v1.other (C := w.heap.size + 2) (by omega) _ _).other (C := w.heap.size + 3) (by omega) _ _).c0 | with_reducible exact ((v1.other (C := w.heap.size + 3) (by omega) _ _).other (C := w.heap.size + 2) (by omega) _ _).c0)
          (first
          | (go_at_call_of 72 qo; refine (signed_any true qo _ qn qc q _ g1 g2 (g5'.out.below (Below.refl _ _).drew) g6'.out).mono ?_; rintro e w2 ⟨sb, vo, vn, vc, rfl, hQ, hb2⟩; have u1 := x1.later hb2; have u2 := x2.later hb2; have u3 := x3.later hb2; have hb3 := below_then hbw.out (Nat.le_refl _) hb2; have g7 := g7'.out.below ((Below.refl _ _).drew.trans hb2))
          | (go_at_call_of 72 so; refine (signed_any c so _ sn sc s _ k3 k4 g7 g8'.out).mono ?_; rintro e w3 ⟨tb, to_, tn, tc, rfl, hR, hb4⟩; have v1 := u1.later hb4; have v2 := u2.later hb4; have v3 := u3.later hb4; have hb5 := below_then hb3 (Nat.le_refl _) hb4; have hQ3 := hQ.below hb4
             have q0 := v2.c0; have q1 := v2.c1; have q2 := v2.fr 0; have q3 := v2.fr 1; have q4 := v3.c0; have q5 := v3.c1; have q6 := v3.fr 0; have q7 := v3.fr 1))
        have z2 := (v2.set (.bool sb) (.slice vo vn vc)).other (C := w.heap.size + 3) (by omega) (.bool tb) (.slice to_ tn tc)
        have z3 := (v3.other (C := w.heap.size + 2) (by omega) (.bool sb) (.slice vo vn vc)).set (.bool tb) (.slice to_ tn tc)
        have e0 := z2.c0; have e1 := z2.c1; have e2 := z3.c0; have e3 := z3.c1
        have hQ3' := Lib.hid hQ3; have hR' := Lib.hid hR; have v2' := Lib.hid v2; have v3' := Lib.hid v3; have hb5' := Lib.hid hb5
        clear z2 z3 q0 q1 q2 q3 q4 q5 q6 q7 hQ hR hb2 hb3 hb4 hb5 u1 u2 u3 v1 v2 v3 x1 x2 x3 g7 hQ3
        go_wp2_with fail
        refine bodyPost_ret (v := .tuple #[.agg #[.bool sb, .slice vo vn vc], .agg #[.bool tb, .slice to_ tn tc], .bool true]) (by simp [results, Try.results57, go_sem, e0, e1, e2, e3]) rfl ?_
        have hy0 : y ≠ 0 := by
          rw [← hy'.out]
          intro e
          have e1 := congrArg Int.natAbs e
          rw [sgn_abs] at e1
          exact h0'.out (by simpa using e1)
        exact IDivPost.stored hQ3'.out hR'.out v2'.out v3'.out (by omega) hb5'.out (by omega) (by omega) hy0 (by rw [← hx'.out, ← hy'.out]; exact fdiv_odd hbc h0'.out hrn.out)

end Go.Proofs.Ytnnipciifjpooaa
