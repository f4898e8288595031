/-
  scrimref03.Norm, Same, Neg, Sign; scrimlaw03.Mine, Theirs, few, same.
-/
import Derived.Test.YtkcbppijajgoiaaWb
import Derived.Test.YtkcbppijajgoiaaRef
namespace Go.Proofs.Ytkcbppijajgoiaa
open Go.RowKit Num

attribute [local go_sem ↓] Go.wp_at_zero Go.wp_at_succ

theorem canon_right {w : World} {b : Bool} {ao : Option Addr} {n nc v : Nat} {f : Nat → Nat} (hn : n ≤ nc) (hc : nc ≤ 9223372036854775807) (hs : Sl w ao n f) (cf : Canon v n f) (h : 0 < n ∨ b = false) : Right w b ao n nc (sgn b v) := by
  refine ⟨f, hn, hc, hs, by rw [sgn_abs]; exact cf, ?_⟩
  rw [sgn_neg]
  rcases h with h | h
  · have := cf.ne_zero
    have : 0 < v := by omega
    simp [this]
  · simp [h]

set_option maxHeartbeats 1000000 in
theorem rNorm_any (b : Bool) (ao : Option Addr) (n nc : Nat) (x : Int) (w : World) (A : Whole w b ao n nc x) :
    Calls Try.prog 24 #[.agg #[.bool b, .slice ao n nc]] w (IntPost x w) := by
  obtain ⟨f, A, hx⟩ := A.ex
  have A' := Lib.hid A; have hx' := Lib.hid hx
  clear A hx
  go_enter Try.func24, Try.ntmps24
  go_wp2_with fail
  refine gen_calls (fun w' => Below w.heap.size w w' ∧ Box w' w.heap.size (.bool b) (.slice ao n nc) ∧ Box w' (w.heap.size + 1) (.bool false) (.slice none 0 0))
    ⟨(((Below.refl _ w).alloc (Nat.le_refl _) _).alloc (by first | (simp; done) | (simp; omega)) _), ((Box.new _ _ _ rfl).alloc _), (Box.new _ _ _ (by first | (simp; done) | (simp; omega)))⟩ ?_
  rintro w0 ⟨hb0, x0, x1⟩
  refine (refNorm_any ao n nc f _ (A'.out.below hb0)).mono ?_
  rintro e w1 ⟨co, cn, cc, c, rfl, h1, h2, h3, h4, hb⟩
  have y0 := x0.later hb; have y1 := x1.later hb
  have hb1 := Lib.hid (below_then hb0 (Nat.le_refl _) hb)
  have h3' := Lib.hid h3; have h4' := Lib.hid h4; have y0' := Lib.hid y0; have y1' := Lib.hid y1
  have p0 := y0.c0; have q1 := y1.c0; have q2 := y1.c1; have q3 := y1.fr 0; have q4 := y1.fr 1
  clear h3 h4 x0 x1 hb hb0 y0 y1
  by_cases h0 : cn = 0
  · subst h0
    have z := y1'.out.set (.bool false) (.slice none 0 0)
    have e0 := z.c0; have e1 := z.c1
    have hz : x = 0 := by
      rw [← hx'.out, h4'.out.ne_zero.1 rfl]; cases b <;> rfl
    have hz' := Lib.hid hz
    clear z hz
    go_wp2_with fail
    refine bodyPost_ret (v := .agg #[.bool false, .slice none 0 0]) (by simp [results, Try.results24, go_sem, e0, e1]) rfl ?_
    rw [hz'.out]
    exact IntPost.stored ⟨fun _ => 0, Nat.le_refl _, by omega, .inl rfl, canon_zero _, rfl⟩ y1'.out hb1.out (by omega)
  · have z := y1'.out.set (.bool b) (.slice co cn cc)
    have e0 := z.c0; have e1 := z.c1
    clear z
    go_wp2_with fail
    refine bodyPost_ret (v := .agg #[.bool b, .slice co cn cc]) (by simp [results, Try.results24, go_sem, e0, e1]) rfl ?_
    rw [← hx'.out]
    exact IntPost.stored (canon_right h1 h2 h3'.out h4'.out (.inl (Nat.pos_of_ne_zero h0))) y1'.out hb1.out (by omega)

set_option maxHeartbeats 1000000 in
theorem rSame_any (b c : Bool) (ao bo : Option Addr) (n nc m mc : Nat) (x : Int) (w : World) (A : Right w b ao n nc x) (B : Right w c bo m mc x) :
    Calls Try.prog 35 #[.agg #[.bool b, .slice ao n nc], .agg #[.bool c, .slice bo m mc]] w (Says (.bool true) w) := by
  obtain ⟨f, a1, a2, a3, a4, a5⟩ := A.ex
  obtain ⟨g, b1, b2, b3, b4, b5⟩ := B.ex
  obtain rfl : b = c := by rw [a5, b5]
  have a3' := Lib.hid a3; have a4' := Lib.hid a4; have b3' := Lib.hid b3; have b4' := Lib.hid b4
  clear A B a3 a4 a5 b3 b4 b5
  go_enter Try.func35, Try.ntmps35
  go_wp2_with fail
  refine gen_calls (fun w' => Below w.heap.size w w' ∧ Box w' w.heap.size (.bool b) (.slice ao n nc) ∧ Box w' (w.heap.size + 1) (.bool b) (.slice bo m mc))
    ⟨(((Below.refl _ w).alloc (Nat.le_refl _) _).alloc (by first | (simp; done) | (simp; omega)) _), ((Box.new _ _ _ rfl).alloc _), (Box.new _ _ _ (by first | (simp; done) | (simp; omega)))⟩ ?_
  rintro w0 ⟨hb0, x0, x1⟩
  refine (same_canon ao bo _ n nc m mc f g _ a1 a2 (a3'.out.below hb0) (b3'.out.below hb0) a4'.out b4'.out).mono ?_
  rintro e w1 ⟨rfl, hd⟩
  have hb1 := Lib.hid (below_then hb0 (Nat.le_refl _) (below_drawn hd))
  clear hd hb0 x0 x1
  go_wp2_with fail
  go_ret
  exact ⟨rfl, hb1.out⟩

set_option maxHeartbeats 1000000 in
theorem rNeg_any (b : Bool) (ao : Option Addr) (n nc : Nat) (x : Int) (w : World) (A : Whole w b ao n nc x) :
    Calls Try.prog 22 #[.agg #[.bool b, .slice ao n nc]] w (IntPost (-x) w) := by
  have B : Whole w (!b) ao n nc (-x) := by
    obtain ⟨g, B, hy⟩ := A.ex
    exact ⟨g, B, by rw [sgn_not, hy]⟩
  have B' := Lib.hid B
  clear A B
  go_enter Try.func22, Try.ntmps22
  go_wp2_with fail
  refine gen_calls (fun w' => Below w.heap.size w w' ∧ Box w' w.heap.size (.bool b) (.slice ao n nc) ∧ Box w' (w.heap.size + 1) (.bool false) (.slice none 0 0))
    ⟨(((Below.refl _ w).alloc (Nat.le_refl _) _).alloc (by first | (simp; done) | (simp; omega)) _), ((Box.new _ _ _ rfl).alloc _), (Box.new _ _ _ (by first | (simp; done) | (simp; omega)))⟩ ?_
  rintro w0 ⟨hb0, x0, x1⟩
  refine (rNorm_any (!b) ao n nc (-x) _ (B'.out.below hb0)).mono ?_
  rintro e w1 ⟨sb, so, sn, sc, rfl, hR, hb⟩
  have z2 := x1.later hb
  have q1 := z2.c0; have q2 := z2.c1; have q3 := z2.fr 0; have q4 := z2.fr 1
  have z3 := z2.set (.bool sb) (.slice so sn sc)
  have e0 := z3.c0; have e1 := z3.c1
  have hR' := Lib.hid hR; have z2' := Lib.hid z2; have hb1' := Lib.hid (below_then hb0 (Nat.le_refl _) hb)
  clear hR z2 z3 hb hb0 x0 x1
  go_wp2_with fail
  refine bodyPost_ret (v := .agg #[.bool sb, .slice so sn sc]) (by simp [results, Try.results22, go_sem, e0, e1]) rfl ?_
  exact IntPost.stored hR'.out z2'.out hb1'.out (by omega)

set_option maxHeartbeats 1000000 in
theorem rSign_any (b : Bool) (ao : Option Addr) (n nc : Nat) (x : Int) (w : World) (A : Whole w b ao n nc x) :
    Calls Try.prog 20 #[.agg #[.bool b, .slice ao n nc]] w (Says (.int .i64 x.sign) w) := by
  have A' := Lib.hid A
  clear A
  go_enter Try.func20, Try.ntmps20
  go_wp2_with fail
  refine gen_calls (fun w' => Below w.heap.size w w' ∧ Box w' w.heap.size (.bool b) (.slice ao n nc))
    ⟨((Below.refl _ w).alloc (Nat.le_refl _) _), (Box.new _ _ _ rfl)⟩ ?_
  rintro w0 ⟨hb0, x0⟩
  refine (rNorm_any b ao n nc x _ (A'.out.below hb0)).mono ?_
  rintro e w1 ⟨sb, so, sn, sc, rfl, hR, hb⟩
  obtain ⟨f, r1, r2, r3, r4, r5⟩ := hR.ex
  have hb1 := Lib.hid (below_then hb0 (Nat.le_refl _) hb)
  have hz := Lib.hid r4.ne_zero; have hs := Lib.hid r5
  clear hR r1 r2 r3 r4 r5 hb hb0 x0
  by_cases h0 : sn = 0
  · subst h0
    have e : x = 0 := by have := hz.out; omega
    subst e
    go_wp2_with fail
    go_ret
    exact ⟨rfl, hb1.out.alloc hb1.out.size _⟩
  · have hx0 : x.natAbs ≠ 0 := fun e => h0 (hz.out.2 e)
    by_cases hn : x < 0
    · have : sb = true := by rw [hs.out]; simp [hn]
      subst this
      go_wp2_with fail
      go_ret
      exact ⟨ret_num (Int.sign_eq_neg_one_of_neg hn).symm, hb1.out.alloc hb1.out.size _⟩
    · have : sb = false := by rw [hs.out]; simp [hn]
      subst this
      go_wp2_with fail
      go_ret
      exact ⟨ret_num (Int.sign_eq_one_of_pos (show 0 < x by omega)).symm, hb1.out.alloc hb1.out.size _⟩

set_option maxHeartbeats 1000000 in
theorem mine_any (b : Bool) (ao : Option Addr) (n nc : Nat) (w : World) :
    Calls Try.prog 9 #[.agg #[.bool b, .slice ao n nc]] w (Says (.agg #[.bool b, .slice ao n nc]) w) := by
  go_enter Try.func9, Try.ntmps9
  go_wp2_with fail
  refine bodyPost_ret (v := .agg #[.bool b, .slice ao n nc]) (by simp [results, Try.results9, go_sem]) rfl ?_
  exact ⟨rfl, ((Below.refl _ w).alloc (Nat.le_refl _) _).alloc (by simp) _⟩

set_option maxHeartbeats 1000000 in
theorem theirs_any (b : Bool) (ao : Option Addr) (n nc : Nat) (w : World) :
    Calls Try.prog 32 #[.agg #[.bool b, .slice ao n nc]] w (Says (.agg #[.bool b, .slice ao n nc]) w) := by
  go_enter Try.func32, Try.ntmps32
  go_wp2_with fail
  refine bodyPost_ret (v := .agg #[.bool b, .slice ao n nc]) (by simp [results, Try.results32, go_sem]) rfl ?_
  exact ⟨rfl, ((Below.refl _ w).alloc (Nat.le_refl _) _).alloc (by simp) _⟩

set_option maxHeartbeats 1000000 in
theorem few3_any (b : Bool) (ao : Option Addr) (n nc : Nat) (w : World) (hn : n ≤ nc) (hnc : nc ≤ 9223372036854775807) :
    Calls Try.prog 8 #[.agg #[.bool b, .slice ao n nc]] w (Says (.agg #[.bool b, .slice ao (min n 36) nc]) w) := by
  by_cases h : 36 < n
  · rw [Nat.min_eq_right (by omega)]
    rcases ao with _ | a
    all_goals
      go_enter Try.func8, Try.ntmps8
      go_wp2_with fail
      refine bodyPost_ret (v := .agg #[.bool b, .slice _ 36 nc]) (by simp [results, Try.results8, go_sem]; rfl) rfl ?_
      exact ⟨rfl, ((Below.refl _ w).alloc (Nat.le_refl _) _).alloc (by simp) _⟩
  · rw [Nat.min_eq_left (by omega)]
    go_enter Try.func8, Try.ntmps8
    go_wp2_with fail
    refine bodyPost_ret (v := .agg #[.bool b, .slice ao n nc]) (by simp [results, Try.results8, go_sem]) rfl ?_
    exact ⟨rfl, ((Below.refl _ w).alloc (Nat.le_refl _) _).alloc (by simp) _⟩

set_option maxHeartbeats 1000000 in
theorem same3_any (b c : Bool) (ao bo : Option Addr) (n nc m mc : Nat) (x : Int) (w : World) (A : Right w b ao n nc x) (B : Right w c bo m mc x) :
    Calls Try.prog 10 #[.agg #[.bool b, .slice ao n nc], .agg #[.bool c, .slice bo m mc]] w (Says (.bool true) w) := by
  have A' := Lib.hid A; have B' := Lib.hid B
  clear A B
  go_enter Try.func10, Try.ntmps10
  go_wp2_with fail
  refine gen_wp (fun w' => Below w.heap.size w w' ∧ Box w' w.heap.size (.bool b) (.slice ao n nc) ∧ Box w' (w.heap.size + 1) (.bool c) (.slice bo m mc))
    ⟨(((Below.refl _ w).alloc (Nat.le_refl _) _).alloc (by first | (simp; done) | (simp; omega)) _), ((Box.new _ _ _ rfl).alloc _), (Box.new _ _ _ (by first | (simp; done) | (simp; omega)))⟩ ?_
  rintro w0 ⟨hb0, x0, x1⟩
  have hb0 := hb0.drew; have x0 := x0.drew; have x1 := x1.drew
  go_region_held3 (fun w' => w'.cell? ⟨w.heap.size, 0, none⟩ = some (.bool b) ∧ w'.cell? ⟨w.heap.size, 1, none⟩ = some (.slice ao n nc) ∧ w'.cell? ⟨w.heap.size + 1, 0, none⟩ = some (.bool c) ∧ w'.cell? ⟨w.heap.size + 1, 1, none⟩ = some (.slice bo m mc))
    (first | with_reducible exact ⟨x0.c0, x0.c1, x1.c0, x1.c1⟩ | with_reducible exact ⟨y0.c0, y0.c1, y1.c0, y1.c1⟩ | with_reducible exact ⟨z0.c0, z0.c1, z1.c0, z1.c1⟩)
    (first
    | (go_at_call 32; refine (theirs_any b ao n nc _).mono ?_; rintro e w1 ⟨rfl, hb⟩; have y0 := x0.later hb; have y1 := x1.later hb; have hb1 := below_then hb0 (Nat.le_refl _) hb)
    | (go_at_call 35; refine (rSame_any b c ao bo n nc m mc x _ (A'.out.below hb1) (B'.out.below hb1)).mono ?_; rintro e w2 ⟨rfl, hb2⟩; have z0 := y0.later hb2; have z1 := y1.later hb2; have hb3 := Lib.hid (below_then hb1 (Nat.le_refl _) hb2)))
  go_wp2_with fail
  go_ret
  exact ⟨rfl, hb3.out⟩

end Go.Proofs.Ytkcbppijajgoiaa
