/-
  whole.Neg, whole.Mul, whole.Add, whole.Sub.
-/
import Derived.Test.YtnnipciifjpooaaInt
import Derived.Test.YtnnipciifjpooaaAdd
import Derived.Test.YtnnipciifjpooaaSub
import Derived.Test.YtnnipciifjpooaaMul
namespace Go.Proofs.Ytnnipciifjpooaa
open Go.RowKit Num

attribute [local go_sem ↓] Go.wp_at_zero Go.wp_at_succ

set_option maxHeartbeats 1000000 in
theorem wNeg_any (b : Bool) (ao : Option Addr) (n nc : Nat) (x : Int) (w : World) (A : Whole w b ao n nc x) :
    Calls Try.prog 61 #[.agg #[.bool b, .slice ao n nc]] w (IntPost (-x) w) := by
  obtain ⟨f, A, hx⟩ := A.ex
  have A' := Lib.hid A; have hx' := Lib.hid hx
  clear A hx
  go_enter Try.func61, Try.ntmps61
  go_wp2_with fail
  refine gen_wp (fun w' => Below w.heap.size w w' ∧ Box w' w.heap.size (.bool b) (.slice ao n nc) ∧ Box w' (w.heap.size + 1) (.bool false) (.slice none 0 0))
    ⟨(((Below.refl _ w).alloc (Nat.le_refl _) _).alloc (by first | (simp; done) | (simp; omega)) _), ((Box.new _ _ _ rfl).alloc _), (Box.new _ _ _ (by first | (simp; done) | (simp; omega)))⟩ ?_
  rintro w0 ⟨hb0, x0, x1⟩
  have hb0 := hb0.drew; have x0 := x0.drew; have x1 := x1.drew
  go_region_held3 (fun w' => w'.cell? ⟨w.heap.size, 0, none⟩ = some (.bool b) ∧ w'.cell? ⟨w.heap.size, 1, none⟩ = some (.slice ao n nc))
    (first | exact ⟨x0.c0, x0.c1⟩ | exact ⟨y0.c0, y0.c1⟩ | exact ⟨z0.c0, z0.c1⟩ | exact ⟨(z0.other (by omega) _ _).c0, (z0.other (by omega) _ _).c1⟩)
    (first
    | (go_at_call 86; refine (norm_any ao n nc f _ (A'.out.below hb0)).mono ?_; rintro e w1 ⟨co, cn, cc, c, rfl, h1, h2, h3, h4, hb⟩; have y0 := x0.later hb; have y1 := x1.later hb)
    | (go_at_call 72; refine (signed_any (!b) co _ cn cc c _ h1 h2 h3 h4).mono ?_; rintro e w2 ⟨sb, so, sn, sc, rfl, hR, hb2⟩; have z0 := y0.later hb2; have z1 := y1.later hb2; have q1 := z1.c0; have q2 := z1.c1; have q3 := z1.fr 0; have q4 := z1.fr 1))
  have z2 := z1.set (.bool sb) (.slice so sn sc)
  have e0 := z2.c0; have e1 := z2.c1
  go_wp2_with fail
  refine bodyPost_ret (v := .agg #[.bool sb, .slice so sn sc]) (by simp [results, Try.results61, go_sem, e0, e1]) rfl ?_
  rw [← hx'.out, ← sgn_not]
  exact IntPost.stored hR z1 (below_then (below_then hb0 (Nat.le_refl _) hb) (Nat.le_refl _) hb2) (by omega)

set_option maxHeartbeats 1000000 in
theorem wMul_any (b c : Bool) (ao bo : Option Addr) (n nc m mc : Nat) (x y : Int) (w : World) (A : Whole w b ao n nc x) (B : Whole w c bo m mc y) :
    Calls Try.prog 44 #[.agg #[.bool b, .slice ao n nc], .agg #[.bool c, .slice bo m mc]] w (IntPost (x * y) w) := by
  obtain ⟨f, A, hx⟩ := A.ex
  obtain ⟨g, B, hy⟩ := B.ex
  have A' := Lib.hid A; have hx' := Lib.hid hx; have B' := Lib.hid B; have hy' := Lib.hid hy
  clear A hx B hy
  go_enter Try.func44, Try.ntmps44
  go_wp2_with fail
  refine gen_wp (fun w' => Below w.heap.size w w' ∧ Box w' w.heap.size (.bool b) (.slice ao n nc) ∧ Box w' (w.heap.size + 1) (.bool c) (.slice bo m mc) ∧ Box w' (w.heap.size + 2) (.bool false) (.slice none 0 0))
    ⟨((((Below.refl _ w).alloc (Nat.le_refl _) _).alloc (by first | (simp; done) | (simp; omega)) _).alloc (by first | (simp; done) | (simp; omega)) _), (((Box.new _ _ _ rfl).alloc _).alloc _), ((Box.new _ _ _ (by first | (simp; done) | (simp; omega))).alloc _), (Box.new _ _ _ (by first | (simp; done) | (simp; omega)))⟩ ?_
  rintro w0 ⟨hb0, x0, x1, x2⟩
  have hb0 := hb0.drew; have x0 := x0.drew; have x1 := x1.drew; have x2 := x2.drew
  go_region_held3 (fun w' => w'.cell? ⟨w.heap.size, 0, none⟩ = some (.bool b) ∧ w'.cell? ⟨w.heap.size, 1, none⟩ = some (.slice ao n nc) ∧ w'.cell? ⟨w.heap.size + 1, 0, none⟩ = some (.bool c) ∧ w'.cell? ⟨w.heap.size + 1, 1, none⟩ = some (.slice bo m mc))
    (first | exact ⟨x0.c0, x0.c1, x1.c0, x1.c1⟩ | exact ⟨y0.c0, y0.c1, y1.c0, y1.c1⟩ | exact ⟨z0.c0, z0.c1, z1.c0, z1.c1⟩ | exact ⟨(z0.other (by omega) _ _).c0, (z0.other (by omega) _ _).c1, (z1.other (by omega) _ _).c0, (z1.other (by omega) _ _).c1⟩)
    (first
    | (go_at_call 75; refine (mul_any ao bo n nc m mc f g _ (A'.out.below hb0) (B'.out.below hb0)).mono ?_; rintro e w1 ⟨co, cn, cc, k, rfl, h1, h2, h3, h4, hb⟩; have y0 := x0.later hb; have y1 := x1.later hb; have y2 := x2.later hb)
    | (go_at_call 72; refine (signed_any (!(b == c)) co _ cn cc k _ h1 h2 h3 h4).mono ?_; rintro e w2 ⟨sb, so, sn, sc, rfl, hR, hb2⟩; have z0 := y0.later hb2; have z1 := y1.later hb2; have z2 := y2.later hb2; have q1 := z2.c0; have q2 := z2.c1; have q3 := z2.fr 0; have q4 := z2.fr 1))
  have z3 := z2.set (.bool sb) (.slice so sn sc)
  have e0 := z3.c0; have e1 := z3.c1
  go_wp2_with fail
  refine bodyPost_ret (v := .agg #[.bool sb, .slice so sn sc]) (by simp [results, Try.results44, go_sem, e0, e1]) rfl ?_
  rw [← hx'.out, ← hy'.out, sgn_mul]
  exact IntPost.stored hR z2 (below_then (below_then hb0 (Nat.le_refl _) hb) (Nat.le_refl _) hb2) (by omega)

set_option maxHeartbeats 2000000 in
theorem wAdd_any (b c : Bool) (ao bo : Option Addr) (n nc m mc : Nat) (x y : Int) (w : World) (A : Whole w b ao n nc x) (B : Whole w c bo m mc y) :
    Calls Try.prog 43 #[.agg #[.bool b, .slice ao n nc], .agg #[.bool c, .slice bo m mc]] w (IntPost (x + y) w) := by
  obtain ⟨f, A, hx⟩ := A.ex
  obtain ⟨g, B, hy⟩ := B.ex
  have A' := Lib.hid A; have hx' := Lib.hid hx; have B' := Lib.hid B; have hy' := Lib.hid hy
  clear A hx B hy
  by_cases hbc : b = c
  · subst hbc
    go_enter Try.func43, Try.ntmps43
    go_wp2_with fail
    refine gen_wp (fun w' => Below w.heap.size w w' ∧ Box w' w.heap.size (.bool b) (.slice ao n nc) ∧ Box w' (w.heap.size + 1) (.bool b) (.slice bo m mc) ∧ Box w' (w.heap.size + 2) (.bool false) (.slice none 0 0))
      ⟨((((Below.refl _ w).alloc (Nat.le_refl _) _).alloc (by first | (simp; done) | (simp; omega)) _).alloc (by first | (simp; done) | (simp; omega)) _), (((Box.new _ _ _ rfl).alloc _).alloc _), ((Box.new _ _ _ (by first | (simp; done) | (simp; omega))).alloc _), (Box.new _ _ _ (by first | (simp; done) | (simp; omega)))⟩ ?_
    rintro w0 ⟨hb0, x0, x1, x2⟩
    have hb0 := hb0.drew; have x0 := x0.drew; have x1 := x1.drew; have x2 := x2.drew
    have ne : w.heap.size ≠ w.heap.size + 2 := by omega
    go_region_held3 (fun w' => w'.cell? ⟨w.heap.size, 0, none⟩ = some (.bool b) ∧ w'.cell? ⟨w.heap.size, 1, none⟩ = some (.slice ao n nc) ∧ w'.cell? ⟨w.heap.size + 1, 0, none⟩ = some (.bool b) ∧ w'.cell? ⟨w.heap.size + 1, 1, none⟩ = some (.slice bo m mc))
      (first | exact ⟨x0.c0, x0.c1, x1.c0, x1.c1⟩ | exact ⟨y0.c0, y0.c1, y1.c0, y1.c1⟩ | exact ⟨z0.c0, z0.c1, z1.c0, z1.c1⟩ | exact ⟨(z0.other (by omega) _ _).c0, (z0.other (by omega) _ _).c1, (z1.other (by omega) _ _).c0, (z1.other (by omega) _ _).c1⟩)
      (first
      | (go_at_call 73; refine (add_any ao bo n nc m mc f g _ (A'.out.below hb0) (B'.out.below hb0)).mono ?_; rintro e w1 ⟨co, cn, cc, k, rfl, h1, h2, h3, h4, hb⟩; have y0 := x0.later hb; have y1 := x1.later hb; have y2 := x2.later hb)
      | (go_at_call 72; refine (signed_any b co _ cn cc k _ h1 h2 h3 h4).mono ?_; rintro e w2 ⟨sb, so, sn, sc, rfl, hR, hb2⟩; have z0 := y0.later hb2; have z1 := y1.later hb2; have z2 := y2.later hb2; have q1 := z2.c0; have q2 := z2.c1; have q3 := z2.fr 0; have q4 := z2.fr 1))
    have z3 := z2.set (.bool sb) (.slice so sn sc)
    have e0 := z3.c0; have e1 := z3.c1
    go_wp2_with fail
    refine bodyPost_ret (v := .agg #[.bool sb, .slice so sn sc]) (by simp [results, Try.results43, go_sem, e0, e1]) rfl ?_
    rw [← hx'.out, ← hy'.out, sgn_add]
    exact IntPost.stored hR z2 (below_then (below_then hb0 (Nat.le_refl _) hb) (Nat.le_refl _) hb2) (by omega)
  · have hbc' : (b == c) = false := by simp [hbc]
    go_enter Try.func43, Try.ntmps43
    go_wp2_with fail
    refine gen_calls (fun w' => Below w.heap.size w w' ∧ Box w' w.heap.size (.bool b) (.slice ao n nc) ∧ Box w' (w.heap.size + 1) (.bool c) (.slice bo m mc) ∧ Box w' (w.heap.size + 2) (.bool false) (.slice none 0 0))
      ⟨((((Below.refl _ w).alloc (Nat.le_refl _) _).alloc (by first | (simp; done) | (simp; omega)) _).alloc (by first | (simp; done) | (simp; omega)) _), (((Box.new _ _ _ rfl).alloc _).alloc _), ((Box.new _ _ _ (by first | (simp; done) | (simp; omega))).alloc _), (Box.new _ _ _ (by first | (simp; done) | (simp; omega)))⟩ ?_
    rintro w0 ⟨hb0, x0, x1, x2⟩
    refine (sub_any ao bo n nc m mc f g _ (A'.out.below hb0) (B'.out.below hb0)).mono ?_
    rintro e w1 ⟨hb, h⟩
    have y0 := x0.later hb; have y1 := x1.later hb; have y2 := x2.later hb
    have hb1 := below_then hb0 (Nat.le_refl _) hb
    have A1 := Lib.hid (A'.out.below hb1); have B1 := Lib.hid (B'.out.below hb1)
    have p0 := y0.c0; have p1 := y0.c1; have p2 := y1.c0; have p3 := y1.c1
    rcases h with ⟨hlt, rfl⟩ | ⟨hle, do_, dn, dc, d, rfl, h1, h2, h3, h4⟩
    · have hlt' := Lib.hid hlt
      clear hlt
      go_wp2_with fail
      refine (sub_any bo ao m mc n nc g f _ B1.out A1.out).mono ?_
      rintro e w2 ⟨hb3, h⟩
      rcases h with ⟨hlt, _⟩ | ⟨hle, do_, dn, dc, d, rfl, h1, h2, h3, h4⟩
      · exact absurd hlt'.out (Nat.lt_asymm hlt)
      have y0 := y0.later hb3; have y1 := y1.later hb3; have y2 := y2.later hb3
      have hb1 := below_then hb1 (Nat.le_refl _) hb3
      have h3' := Lib.hid h3; have h4' := Lib.hid h4; have hle' := Lib.hid hle
      clear h3 h4 hle p0 p1 p2 p3 hb3
      have p0 := y1.c0
      go_wp2_with fail
      refine (signed_any c do_ _ dn dc d _ h1 h2 h3'.out h4'.out).mono ?_
      rintro e w3 ⟨sb, so, sn, sc, rfl, hR, hb4⟩
      have z2 := y2.later hb4
      have q1 := z2.c0; have q2 := z2.c1; have q3 := z2.fr 0; have q4 := z2.fr 1
      have hb1 := below_then hb1 (Nat.le_refl _) hb4
      have z3 := z2.set (.bool sb) (.slice so sn sc)
      have e0 := z3.c0; have e1 := z3.c1
      have hR' := Lib.hid hR; have z2' := Lib.hid z2; have hb1' := Lib.hid hb1
      clear p0 hR z2 hb1 hb4
      go_wp2_with fail
      refine bodyPost_ret (v := .agg #[.bool sb, .slice so sn sc]) (by simp [results, Try.results43, go_sem, e0, e1]) rfl ?_
      rw [← hx'.out, ← hy'.out, Int.add_comm, sgn_sub (fun e => hbc e.symm) hle'.out]
      exact IntPost.stored hR'.out z2'.out hb1'.out (by omega)
    · have h3' := Lib.hid h3; have h4' := Lib.hid h4; have hle' := Lib.hid hle
      clear h3 h4 hle hb
      go_wp2_with fail
      refine (signed_any b do_ _ dn dc d _ h1 h2 h3'.out h4'.out).mono ?_
      rintro e w3 ⟨sb, so, sn, sc, rfl, hR, hb4⟩
      have z2 := y2.later hb4
      have q1 := z2.c0; have q2 := z2.c1; have q3 := z2.fr 0; have q4 := z2.fr 1
      have hb1 := below_then hb1 (Nat.le_refl _) hb4
      have z3 := z2.set (.bool sb) (.slice so sn sc)
      have e0 := z3.c0; have e1 := z3.c1
      have hR' := Lib.hid hR; have z2' := Lib.hid z2; have hb1' := Lib.hid hb1
      clear p0 hR z2 hb1 hb4
      go_wp2_with fail
      refine bodyPost_ret (v := .agg #[.bool sb, .slice so sn sc]) (by simp [results, Try.results43, go_sem, e0, e1]) rfl ?_
      rw [← hx'.out, ← hy'.out, sgn_sub hbc hle'.out]
      exact IntPost.stored hR'.out z2'.out hb1'.out (by omega)

end Go.Proofs.Ytnnipciifjpooaa
