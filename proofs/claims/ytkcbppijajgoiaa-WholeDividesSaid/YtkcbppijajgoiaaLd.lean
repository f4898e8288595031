/-
  scrimlaw03.WholeDivides, walked.
-/
import Derived.Test.YtkcbppijajgoiaaLs
namespace Go.Proofs.Ytkcbppijajgoiaa
open Go.RowKit Num

attribute [local go_sem ↓] Go.wp_at_zero Go.wp_at_succ

/-- Quotient, rest (zeros by 0), and whether there is anything to divide by. -/
def DivAll (t : Bool) (x y : Int) (w : World) (e : Ending) (w' : World) : Prop :=
  ∃ b ao n nc c bo m mc, e = .returned (.tuple #[.agg #[.bool b, .slice ao n nc], .agg #[.bool c, .slice bo m mc], .bool t]) ∧ Right w' b ao n nc (x.fdiv y) ∧ Right w' c bo m mc (if y = 0 then 0 else x.fmod y) ∧ Below w.heap.size w w'

theorem DivAll.of {t : Bool} {x y : Int} {w w' : World} {e : Ending} (ht : t = decide (y ≠ 0)) (h : IDivPost x y w e w') : DivAll t x y w e w' := by
  obtain ⟨hb, h⟩ := h
  rcases h with ⟨h0, rfl⟩ | ⟨h0, b, ao, n, nc, c, bo, m, mc, rfl, hQ, hR⟩
  · subst h0
    have z : Right w' false none 0 0 0 := ⟨fun _ => 0, Nat.le_refl _, by omega, .inl rfl, canon_zero _, rfl⟩
    exact ⟨false, none, 0, 0, false, none, 0, 0, by rw [ht]; rfl, by rw [Int.fdiv_zero]; exact z, by rw [if_pos rfl]; exact z, hb⟩
  · exact ⟨b, ao, n, nc, c, bo, m, mc, by rw [ht]; simp [h0], hQ, by rw [if_neg h0]; exact hR, hb⟩

theorem wDivAll (t : Bool) (b c : Bool) (ao bo : Option Addr) (n nc m mc : Nat) (x y : Int) (w : World) (A : Whole w b ao n nc x) (B : Whole w c bo m mc y) (ht : t = decide (y ≠ 0)) :
    Calls Try.prog 30 #[.agg #[.bool b, .slice ao n nc], .agg #[.bool c, .slice bo m mc]] w (DivAll t x y w) :=
  (wDivMod_any b c ao bo n nc m mc x y w A B).mono fun _ _ h => DivAll.of ht h
theorem rDivAll (t : Bool) (b c : Bool) (ao bo : Option Addr) (n nc m mc : Nat) (x y : Int) (w : World) (A : Whole w b ao n nc x) (B : Whole w c bo m mc y) (M : Nat) (hM : M ≤ 1000) (hx : x.natAbs < pw M) (hy : y.natAbs < pw M) (ht : t = decide (y ≠ 0)) :
    Calls Try.prog 31 #[.agg #[.bool b, .slice ao n nc], .agg #[.bool c, .slice bo m mc]] w (DivAll t x y w) :=
  (rDivMod_any b c ao bo n nc m mc x y w A B M hM hx hy).mono fun _ _ h => DivAll.of ht h

theorem sgn_is (x : Int) : ∃ b u, x = sgn b u ∧ u = x.natAbs := ⟨decide (x < 0), x.natAbs, (sgn_self x).symm, rfl⟩
theorem fdiv_abs {x y : Int} (hy : y ≠ 0) : (x.fdiv y).natAbs ≤ x.natAbs + 1 ∧ (x.fmod y).natAbs ≤ y.natAbs := by
  obtain ⟨b, u, hx, hu⟩ := sgn_is x
  obtain ⟨c, v, hyv, hv⟩ := sgn_is y
  have v0 : v ≠ 0 := by omega
  have d := Nat.div_le_self u v
  have l : u % v < v := Nat.mod_lt _ (by omega)
  by_cases h : b = c
  · subst h
    have e := fdiv_same b (u := u) v0
    rw [← hx, ← hyv] at e
    rw [e.1, e.2, sgn_abs, sgn_abs]; omega
  · by_cases hr : u % v = 0
    · have e := fdiv_even h v0 hr
      rw [← hx, ← hyv] at e
      rw [e.1, e.2, sgn_abs, sgn_abs]; omega
    · have e := fdiv_odd h v0 hr
      rw [← hx, ← hyv] at e
      rw [e.1, e.2, sgn_abs, sgn_abs]; omega

set_option maxHeartbeats 8000000 in
theorem divides3_walk (b c : Bool) (ao bo : Option Addr) (n nc m mc : Nat) (w : World) (hn : n ≤ nc) (hnc : nc ≤ 9223372036854775807) (hm : m ≤ mc) (hmc : mc ≤ 9223372036854775807) (x y : Int) (A : Whole w b ao (min n 36) nc x) (B : Whole w c bo (min m 36) mc y) :
    Calls Try.prog 5 #[.agg #[.bool b, .slice ao n nc], .agg #[.bool c, .slice bo m mc]] w (Says (.bool true) w) := by
  obtain ⟨l, hl⟩ : ∃ l, l = min n 36 := ⟨_, rfl⟩
  obtain ⟨r, hr⟩ : ∃ r, r = min m 36 := ⟨_, rfl⟩
  rw [← hl] at A
  rw [← hr] at B
  have hl' := Lib.hid hl; have hr' := Lib.hid hr
  have hx : Hid (x.natAbs < pw 36) := Lib.hid (whole_abs36 A (by omega)); have hy : Hid (y.natAbs < pw 36) := Lib.hid (whole_abs36 B (by omega))
  have A' := Lib.hid A; have B' := Lib.hid B
  clear A B hl hr
  obtain ⟨T, hT⟩ : ∃ T, T = decide (y ≠ 0) := ⟨_, rfl⟩
  have hT' := Lib.hid hT
  clear hT
  go_enter Try.func5, Try.ntmps5
  go_wp2_with fail
  refine gen_calls (fun w' => Below w.heap.size w w' ∧ Box w' w.heap.size (.bool b) (.slice ao n nc) ∧ Box w' (w.heap.size + 1) (.bool c) (.slice bo m mc))
    ⟨(((Below.refl _ w).alloc (Nat.le_refl _) _).alloc (by first | (simp; done) | (simp; omega)) _), ((Box.new _ _ _ rfl).alloc _), (Box.new _ _ _ (by first | (simp; done) | (simp; omega)))⟩ ?_
  rintro w0 ⟨hb0, x0, x1⟩
  refine (few3_any b ao n nc _ hn hnc).mono ?_
  rw [← hl'.out]
  rintro e w1 ⟨rfl, hb⟩
  have y0 := x0.later hb; have y1 := x1.later hb
  have hb1 := below_then hb0 (Nat.le_refl _) hb
  have A1 := Lib.hid ((A'.out.below hb1).box y0 (.bool b) (.slice ao l nc)); have B1 := Lib.hid ((B'.out.below hb1).box y0 (.bool b) (.slice ao l nc))
  have hB1 := Lib.hid (below_set hb1 (Nat.le_refl _) (.bool b) (.slice ao l nc))
  have z0 := Lib.hid (y0.set (.bool b) (.slice ao l nc)); have z1 := Lib.hid (y1.other (C := w.heap.size) (by omega) (.bool b) (.slice ao l nc))
  have q1 := y0.c0; have q2 := y0.c1; have q3 := y0.fr 0; have q4 := y0.fr 1; have q5 := y1.c0; have q6 := y1.c1
  clear hb0 hb x0 x1 y0 y1 hb1 A' B'
  go_wp2_with fail
  refine gen_calls (fun w' => Below w.heap.size w w' ∧ Box w' w.heap.size (.bool b) (.slice ao l nc) ∧ Box w' (w.heap.size + 1) (.bool c) (.slice bo m mc) ∧ Whole w' b ao l nc x ∧ Whole w' c bo r mc y) ⟨hB1.out, z0.out, z1.out, A1.out, B1.out⟩ ?_
  rintro w2 ⟨bb, p, q, A, B⟩
  clear q1 q2 q3 q4 q5 q6 hB1 z0 z1 A1 B1
  refine (few3_any c bo m mc _ hm hmc).mono ?_
  rw [← hr'.out]
  rintro e w3 ⟨rfl, hb⟩
  have bb := below_then bb (Nat.le_refl _) hb; have p := p.later hb; have q := q.later hb; have A := A.below hb; have B := B.below hb
  have A1 := Lib.hid (A.box q (.bool c) (.slice bo r mc)); have B1 := Lib.hid (B.box q (.bool c) (.slice bo r mc))
  have hB1 := Lib.hid (below_set bb (Nat.le_succ _) (.bool c) (.slice bo r mc))
  have z0 := Lib.hid (p.other (C := w.heap.size + 1) (by omega) (.bool c) (.slice bo r mc)); have z1 := Lib.hid (q.set (.bool c) (.slice bo r mc))
  have q1 := q.c0; have q2 := q.c1; have q3 := q.fr 0; have q4 := q.fr 1; have q5 := p.c0; have q6 := p.c1
  clear hb bb p q A B
  go_upto_region 3 with fail
  refine gen_wp (fun w' => Below w.heap.size w w' ∧ Box w' w.heap.size (.bool b) (.slice ao l nc) ∧ Box w' (w.heap.size + 1) (.bool c) (.slice bo r mc) ∧ Whole w' b ao l nc x ∧ Whole w' c bo r mc y) ⟨hB1.out, z0.out, z1.out, A1.out, B1.out⟩ ?_
  rintro w0 ⟨hb0, x0, x1, A0, B0⟩
  clear q1 q2 q3 q4 q5 q6 hB1 z0 z1 A1 B1
  go_cut [5, 6, 7] from 15 to 23 (fun s t u wx => ∃ P Q vb vo vn vc ub uo un uc, s = .pointer (some ⟨P, 0, none⟩) ∧ t = .pointer (some ⟨Q, 0, none⟩) ∧ u = .bool T ∧ Box wx P (.bool vb) (.slice vo vn vc) ∧ Box wx Q (.bool ub) (.slice uo un uc) ∧ Box wx w.heap.size (.bool b) (.slice ao l nc) ∧ Box wx (w.heap.size + 1) (.bool c) (.slice bo r mc) ∧
    Right wx vb vo vn vc (x.fdiv y) ∧ Right wx ub uo un uc (if y = 0 then 0 else x.fmod y) ∧ Whole wx b ao l nc x ∧ Whole wx c bo r mc y ∧ Below w.heap.size w wx)
  case first =>
    have l0 := x0.lt; have l1 := x1.lt; have gs0 := hb0.size
    have gb0 := hb0
    go_region_held3 (fun w' => w'.cell? ⟨w.heap.size, 0, none⟩ = some (.bool b) ∧ w'.cell? ⟨w.heap.size, 1, none⟩ = some (.slice ao l nc) ∧ w'.cell? ⟨w.heap.size + 1, 0, none⟩ = some (.bool c) ∧ w'.cell? ⟨w.heap.size + 1, 1, none⟩ = some (.slice bo r mc))
      (first | with_reducible exact ⟨x0.drew.c0, x0.drew.c1, x1.drew.c0, x1.drew.c1⟩ | with_reducible exact ⟨(x0.alloc _).drew.c0, (x0.alloc _).drew.c1, (x1.alloc _).drew.c0, (x1.alloc _).drew.c1⟩ | with_reducible exact ⟨((x0.alloc _).alloc _).drew.c0, ((x0.alloc _).alloc _).drew.c1, ((x1.alloc _).alloc _).drew.c0, ((x1.alloc _).alloc _).drew.c1⟩ | with_reducible exact ⟨y0.c0, y0.c1, y1.c0, y1.c1⟩ | with_reducible exact ⟨(y0.alloc _).c0, (y0.alloc _).c1, (y1.alloc _).c0, (y1.alloc _).c1⟩ | with_reducible exact ⟨((y0.alloc _).alloc _).c0, ((y0.alloc _).alloc _).c1, ((y1.alloc _).alloc _).c0, ((y1.alloc _).alloc _).c1⟩ | with_reducible exact ⟨z0.c0, z0.c1, z1.c0, z1.c1⟩ | with_reducible exact ⟨(z0.alloc _).c0, (z0.alloc _).c1, (z1.alloc _).c0, (z1.alloc _).c1⟩ | with_reducible exact ⟨((z0.alloc _).alloc _).c0, ((z0.alloc _).alloc _).c1, ((z1.alloc _).alloc _).c0, ((z1.alloc _).alloc _).c1⟩ | with_reducible exact ⟨u0.c0, u0.c1, u1.c0, u1.c1⟩ | with_reducible exact ⟨(u0.alloc _).c0, (u0.alloc _).c1, (u1.alloc _).c0, (u1.alloc _).c1⟩ | with_reducible exact ⟨((u0.alloc _).alloc _).c0, ((u0.alloc _).alloc _).c1, ((u1.alloc _).alloc _).c0, ((u1.alloc _).alloc _).c1⟩ | with_reducible exact ⟨(u0.other (by omega) _ _).c0, (u0.other (by omega) _ _).c1, (u1.other (by omega) _ _).c0, (u1.other (by omega) _ _).c1⟩ | with_reducible exact ⟨((u0.other (by omega) _ _).alloc _).c0, ((u0.other (by omega) _ _).alloc _).c1, ((u1.other (by omega) _ _).alloc _).c0, ((u1.other (by omega) _ _).alloc _).c1⟩ | with_reducible exact ⟨((u0.other (by omega) _ _).other (by omega) _ _).c0, ((u0.other (by omega) _ _).other (by omega) _ _).c1, ((u1.other (by omega) _ _).other (by omega) _ _).c0, ((u1.other (by omega) _ _).other (by omega) _ _).c1⟩ | go_keep)
      (first
      | (go_at_call_of 9 nc; refine (mine_any b ao l nc _).mono ?_; rintro e w1 ⟨rfl, hb1⟩; have hc1 : Below w0.heap.size w0 w1 := (by (first | exact (Below.refl _ _).drew.trans hb1 | exact ((Below.refl _ _).alloc (by first | exact Nat.le_refl _ | (simp; done) | (simp; omega)) _).drew.trans (hb1.mono (by first | (simp; done) | (simp; omega))) | exact (((Below.refl _ _).alloc (by first | exact Nat.le_refl _ | (simp; done) | (simp; omega)) _).alloc (by first | exact Nat.le_refl _ | (simp; done) | (simp; omega)) _).drew.trans (hb1.mono (by first | (simp; done) | (simp; omega))))); have hz1 := hc1.size; have y0 := x0.later hc1; have ly0 := y0.lt; have y1 := x1.later hc1; have ly1 := y1.lt; have A1 := A0.below hc1; have B1 := B0.below hc1; have gb1 := below_then gb0 (Nat.le_refl _) hc1; have gs1 := gb1.size; (first | (with_reducible have mm := made2' hb1; obtain ⟨m10, m11⟩ := mm) | (with_reducible have m10 := made1' hb1) | skip); (try have k10 := m10.lt); (try have k11 := m11.lt))
      | (go_at_call_of 9 mc; refine (mine_any c bo r mc _).mono ?_; rintro e w2 ⟨rfl, hb2⟩; have hc2 : Below w1.heap.size w1 w2 := (by (first | with_reducible exact hb2 | exact ((Below.refl _ _).alloc (by first | exact Nat.le_refl _ | (simp; done) | (simp; omega)) _).trans (hb2.mono (by first | (simp; done) | (simp; omega))) | exact (((Below.refl _ _).alloc (by first | exact Nat.le_refl _ | (simp; done) | (simp; omega)) _).alloc (by first | exact Nat.le_refl _ | (simp; done) | (simp; omega)) _).trans (hb2.mono (by first | (simp; done) | (simp; omega))))); have hz2 := hc2.size; have z0 := y0.later hc2; have lz0 := z0.lt; have z1 := y1.later hc2; have lz1 := z1.lt; have A2 := A1.below hc2; have B2 := B1.below hc2; have gb2 := below_then gb1 (Nat.le_refl _) hc2; have gs2 := gb2.size; (try have m10 := m10.later hc2); (try have m11 := m11.later hc2); (first | (with_reducible have mm := made2 hb2; obtain ⟨m20, m21⟩ := mm) | (with_reducible have m20 := made1 hb2) | skip); (try have k10 := m10.lt); (try have k11 := m11.lt); (try have k20 := m20.lt); (try have k21 := m21.lt))
      | (go_at_call 30; refine (wDivAll T b c ao bo l nc r mc x y _ ?_ ?_ hT'.out).mono ?_; (first | with_reducible exact A2 | with_reducible exact (A2.alloc _) | with_reducible exact ((A2.alloc _).alloc _)); (first | with_reducible exact B2 | with_reducible exact (B2.alloc _) | with_reducible exact ((B2.alloc _).alloc _)); rintro e w3 ⟨vb, vo, vn, vc, ub, uo, un, uc, rfl, hQ, hR, hb3⟩; have hc3 : Below w2.heap.size w2 w3 := (by (first | with_reducible exact hb3 | exact ((Below.refl _ _).alloc (by first | exact Nat.le_refl _ | (simp; done) | (simp; omega)) _).trans (hb3.mono (by first | (simp; done) | (simp; omega))) | exact (((Below.refl _ _).alloc (by first | exact Nat.le_refl _ | (simp; done) | (simp; omega)) _).alloc (by first | exact Nat.le_refl _ | (simp; done) | (simp; omega)) _).trans (hb3.mono (by first | (simp; done) | (simp; omega))))); have hz3 := hc3.size; have u0 := z0.later hc3; have lu0 := u0.lt; have u1 := z1.later hc3; have lu1 := u1.lt; have A3 := A2.below hc3; have B3 := B2.below hc3; have gb3 := below_then gb2 (Nat.le_refl _) hc3; have gs3 := gb3.size; (try have m10 := m10.later hc3); (try have m11 := m11.later hc3); (try have m20 := m20.later hc3); (try have m21 := m21.later hc3); (first | (with_reducible have mm := made2 hb3; obtain ⟨m30, m31⟩ := mm) | (with_reducible have m30 := made1 hb3) | skip); (try have k10 := m10.lt); (try have k11 := m11.lt); (try have k20 := m20.lt); (try have k21 := m21.lt); (try have k30 := m30.lt); (try have k31 := m31.lt); (try (have f100 := m10.c0; have f101 := m10.c1; have f102 := m10.fr 0; have f103 := m10.fr 1)); (try (have f110 := m11.c0; have f111 := m11.c1; have f112 := m11.fr 0; have f113 := m11.fr 1)); (try (have f200 := m20.c0; have f201 := m20.c1; have f202 := m20.fr 0; have f203 := m20.fr 1)); (try (have f210 := m21.c0; have f211 := m21.c1; have f212 := m21.fr 0; have f213 := m21.fr 1)); (try (have f300 := m30.c0; have f301 := m30.c1; have f302 := m30.fr 0; have f303 := m30.fr 1)); (try (have f310 := m31.c0; have f311 := m31.c1; have f312 := m31.fr 0; have f313 := m31.fr 1))))
    · go_wp2_with fail; go_meet; exact ⟨_, _, _, _, _, _, _, _, _, _, rfl, rfl, rfl, ((Box.new _ _ _ (by first | rfl | (simp; done))).alloc _), (Box.new _ _ _ (by first | rfl | (simp; done))), ((u0.alloc _).alloc _), ((u1.alloc _).alloc _), ((hQ.alloc _).alloc _), ((hR.alloc _).alloc _), ((A3.alloc _).alloc _), ((B3.alloc _).alloc _), (Below.alloc (Below.alloc gb3 (by first | omega | (simp; omega) | (simp; done)) _) (by first | omega | (simp; omega) | (simp; done)) _)⟩
    · go_wp2_with fail; go_meet; exact ⟨_, _, _, _, _, _, _, _, _, _, rfl, rfl, rfl, (Box.new _ _ _ (by first | rfl | (simp; done))), ((Box.new _ _ _ (by first | rfl | (simp; done))).alloc _), ((u0.alloc _).alloc _), ((u1.alloc _).alloc _), ((hQ.alloc _).alloc _), ((hR.alloc _).alloc _), ((A3.alloc _).alloc _), ((B3.alloc _).alloc _), (Below.alloc (Below.alloc gb3 (by first | omega | (simp; omega) | (simp; done)) _) (by first | omega | (simp; omega) | (simp; done)) _)⟩
    · go_wp2_with fail; go_meet; exact ⟨_, _, _, _, _, _, _, _, _, _, rfl, rfl, rfl, ((m30.set _ _).alloc _), (Box.new _ _ _ (by first | rfl | (simp; done))), ((u0.other (by omega) _ _).alloc _), ((u1.other (by omega) _ _).alloc _), ((hQ.box m30 _ _).alloc _), ((hR.box m30 _ _).alloc _), ((A3.box m30 _ _).alloc _), ((B3.box m30 _ _).alloc _), (Below.alloc (below_set gb3 (by omega) _ _) (by first | omega | (simp; omega) | (simp; done)) _)⟩
    · go_wp2_with fail; go_meet; exact ⟨_, _, _, _, _, _, _, _, _, _, rfl, rfl, rfl, ((m30.set _ _).other (by omega) _ _), ((m31.other (by omega) _ _).set _ _), ((u0.other (by omega) _ _).other (by omega) _ _), ((u1.other (by omega) _ _).other (by omega) _ _), ((hQ.box m30 _ _).box (m31.other (by omega) _ _) _ _), ((hR.box m30 _ _).box (m31.other (by omega) _ _) _ _), ((A3.box m30 _ _).box (m31.other (by omega) _ _) _ _), ((B3.box m30 _ _).box (m31.other (by omega) _ _) _ _), (below_set (below_set gb3 (by omega) _ _) (by omega) _ _)⟩
    · go_wp2_with fail; go_meet; exact ⟨_, _, _, _, _, _, _, _, _, _, rfl, rfl, rfl, (Box.new _ _ _ (by first | rfl | (simp; done))), ((m30.set _ _).alloc _), ((u0.other (by omega) _ _).alloc _), ((u1.other (by omega) _ _).alloc _), ((hQ.box m30 _ _).alloc _), ((hR.box m30 _ _).alloc _), ((A3.box m30 _ _).alloc _), ((B3.box m30 _ _).alloc _), (Below.alloc (below_set gb3 (by omega) _ _) (by first | omega | (simp; omega) | (simp; done)) _)⟩
    · go_wp2_with fail; go_meet; exact ⟨_, _, _, _, _, _, _, _, _, _, rfl, rfl, rfl, ((m31.set _ _).other (by omega) _ _), ((m30.other (by omega) _ _).set _ _), ((u0.other (by omega) _ _).other (by omega) _ _), ((u1.other (by omega) _ _).other (by omega) _ _), ((hQ.box m31 _ _).box (m30.other (by omega) _ _) _ _), ((hR.box m31 _ _).box (m30.other (by omega) _ _) _ _), ((A3.box m31 _ _).box (m30.other (by omega) _ _) _ _), ((B3.box m31 _ _).box (m30.other (by omega) _ _) _ _), (below_set (below_set gb3 (by omega) _ _) (by omega) _ _)⟩
    · go_wp2_with fail; go_meet; exact ⟨_, _, _, _, _, _, _, _, _, _, rfl, rfl, rfl, ((m20.set _ _).alloc _), (Box.new _ _ _ (by first | rfl | (simp; done))), ((u0.other (by omega) _ _).alloc _), ((u1.other (by omega) _ _).alloc _), ((hQ.box m20 _ _).alloc _), ((hR.box m20 _ _).alloc _), ((A3.box m20 _ _).alloc _), ((B3.box m20 _ _).alloc _), (Below.alloc (below_set gb3 (by omega) _ _) (by first | omega | (simp; omega) | (simp; done)) _)⟩
    · go_wp2_with fail; go_meet; exact ⟨_, _, _, _, _, _, _, _, _, _, rfl, rfl, rfl, ((m20.set _ _).other (by omega) _ _), ((m30.other (by omega) _ _).set _ _), ((u0.other (by omega) _ _).other (by omega) _ _), ((u1.other (by omega) _ _).other (by omega) _ _), ((hQ.box m20 _ _).box (m30.other (by omega) _ _) _ _), ((hR.box m20 _ _).box (m30.other (by omega) _ _) _ _), ((A3.box m20 _ _).box (m30.other (by omega) _ _) _ _), ((B3.box m20 _ _).box (m30.other (by omega) _ _) _ _), (below_set (below_set gb3 (by omega) _ _) (by omega) _ _)⟩
    · go_wp2_with fail; go_meet; exact ⟨_, _, _, _, _, _, _, _, _, _, rfl, rfl, rfl, ((m20.set _ _).other (by omega) _ _), ((m21.other (by omega) _ _).set _ _), ((u0.other (by omega) _ _).other (by omega) _ _), ((u1.other (by omega) _ _).other (by omega) _ _), ((hQ.box m20 _ _).box (m21.other (by omega) _ _) _ _), ((hR.box m20 _ _).box (m21.other (by omega) _ _) _ _), ((A3.box m20 _ _).box (m21.other (by omega) _ _) _ _), ((B3.box m20 _ _).box (m21.other (by omega) _ _) _ _), (below_set (below_set gb3 (by omega) _ _) (by omega) _ _)⟩
    · go_wp2_with fail; go_meet; exact ⟨_, _, _, _, _, _, _, _, _, _, rfl, rfl, rfl, (Box.new _ _ _ (by first | rfl | (simp; done))), ((m20.set _ _).alloc _), ((u0.other (by omega) _ _).alloc _), ((u1.other (by omega) _ _).alloc _), ((hQ.box m20 _ _).alloc _), ((hR.box m20 _ _).alloc _), ((A3.box m20 _ _).alloc _), ((B3.box m20 _ _).alloc _), (Below.alloc (below_set gb3 (by omega) _ _) (by first | omega | (simp; omega) | (simp; done)) _)⟩
    · go_wp2_with fail; go_meet; exact ⟨_, _, _, _, _, _, _, _, _, _, rfl, rfl, rfl, ((m30.set _ _).other (by omega) _ _), ((m20.other (by omega) _ _).set _ _), ((u0.other (by omega) _ _).other (by omega) _ _), ((u1.other (by omega) _ _).other (by omega) _ _), ((hQ.box m30 _ _).box (m20.other (by omega) _ _) _ _), ((hR.box m30 _ _).box (m20.other (by omega) _ _) _ _), ((A3.box m30 _ _).box (m20.other (by omega) _ _) _ _), ((B3.box m30 _ _).box (m20.other (by omega) _ _) _ _), (below_set (below_set gb3 (by omega) _ _) (by omega) _ _)⟩
    · go_wp2_with fail; go_meet; exact ⟨_, _, _, _, _, _, _, _, _, _, rfl, rfl, rfl, ((m21.set _ _).other (by omega) _ _), ((m20.other (by omega) _ _).set _ _), ((u0.other (by omega) _ _).other (by omega) _ _), ((u1.other (by omega) _ _).other (by omega) _ _), ((hQ.box m21 _ _).box (m20.other (by omega) _ _) _ _), ((hR.box m21 _ _).box (m20.other (by omega) _ _) _ _), ((A3.box m21 _ _).box (m20.other (by omega) _ _) _ _), ((B3.box m21 _ _).box (m20.other (by omega) _ _) _ _), (below_set (below_set gb3 (by omega) _ _) (by omega) _ _)⟩
    · go_wp2_with fail; go_meet; exact ⟨_, _, _, _, _, _, _, _, _, _, rfl, rfl, rfl, ((m10.set _ _).alloc _), (Box.new _ _ _ (by first | rfl | (simp; done))), ((u0.other (by omega) _ _).alloc _), ((u1.other (by omega) _ _).alloc _), ((hQ.box m10 _ _).alloc _), ((hR.box m10 _ _).alloc _), ((A3.box m10 _ _).alloc _), ((B3.box m10 _ _).alloc _), (Below.alloc (below_set gb3 (by omega) _ _) (by first | omega | (simp; omega) | (simp; done)) _)⟩
    · go_wp2_with fail; go_meet; exact ⟨_, _, _, _, _, _, _, _, _, _, rfl, rfl, rfl, ((m10.set _ _).other (by omega) _ _), ((m30.other (by omega) _ _).set _ _), ((u0.other (by omega) _ _).other (by omega) _ _), ((u1.other (by omega) _ _).other (by omega) _ _), ((hQ.box m10 _ _).box (m30.other (by omega) _ _) _ _), ((hR.box m10 _ _).box (m30.other (by omega) _ _) _ _), ((A3.box m10 _ _).box (m30.other (by omega) _ _) _ _), ((B3.box m10 _ _).box (m30.other (by omega) _ _) _ _), (below_set (below_set gb3 (by omega) _ _) (by omega) _ _)⟩
    · go_wp2_with fail; go_meet; exact ⟨_, _, _, _, _, _, _, _, _, _, rfl, rfl, rfl, ((m10.set _ _).other (by omega) _ _), ((m20.other (by omega) _ _).set _ _), ((u0.other (by omega) _ _).other (by omega) _ _), ((u1.other (by omega) _ _).other (by omega) _ _), ((hQ.box m10 _ _).box (m20.other (by omega) _ _) _ _), ((hR.box m10 _ _).box (m20.other (by omega) _ _) _ _), ((A3.box m10 _ _).box (m20.other (by omega) _ _) _ _), ((B3.box m10 _ _).box (m20.other (by omega) _ _) _ _), (below_set (below_set gb3 (by omega) _ _) (by omega) _ _)⟩
    · go_wp2_with fail; go_meet; exact ⟨_, _, _, _, _, _, _, _, _, _, rfl, rfl, rfl, ((m10.set _ _).other (by omega) _ _), ((m11.other (by omega) _ _).set _ _), ((u0.other (by omega) _ _).other (by omega) _ _), ((u1.other (by omega) _ _).other (by omega) _ _), ((hQ.box m10 _ _).box (m11.other (by omega) _ _) _ _), ((hR.box m10 _ _).box (m11.other (by omega) _ _) _ _), ((A3.box m10 _ _).box (m11.other (by omega) _ _) _ _), ((B3.box m10 _ _).box (m11.other (by omega) _ _) _ _), (below_set (below_set gb3 (by omega) _ _) (by omega) _ _)⟩
    · go_wp2_with fail; go_meet; exact ⟨_, _, _, _, _, _, _, _, _, _, rfl, rfl, rfl, (Box.new _ _ _ (by first | rfl | (simp; done))), ((m10.set _ _).alloc _), ((u0.other (by omega) _ _).alloc _), ((u1.other (by omega) _ _).alloc _), ((hQ.box m10 _ _).alloc _), ((hR.box m10 _ _).alloc _), ((A3.box m10 _ _).alloc _), ((B3.box m10 _ _).alloc _), (Below.alloc (below_set gb3 (by omega) _ _) (by first | omega | (simp; omega) | (simp; done)) _)⟩
    · go_wp2_with fail; go_meet; exact ⟨_, _, _, _, _, _, _, _, _, _, rfl, rfl, rfl, ((m30.set _ _).other (by omega) _ _), ((m10.other (by omega) _ _).set _ _), ((u0.other (by omega) _ _).other (by omega) _ _), ((u1.other (by omega) _ _).other (by omega) _ _), ((hQ.box m30 _ _).box (m10.other (by omega) _ _) _ _), ((hR.box m30 _ _).box (m10.other (by omega) _ _) _ _), ((A3.box m30 _ _).box (m10.other (by omega) _ _) _ _), ((B3.box m30 _ _).box (m10.other (by omega) _ _) _ _), (below_set (below_set gb3 (by omega) _ _) (by omega) _ _)⟩
    · go_wp2_with fail; go_meet; exact ⟨_, _, _, _, _, _, _, _, _, _, rfl, rfl, rfl, ((m20.set _ _).other (by omega) _ _), ((m10.other (by omega) _ _).set _ _), ((u0.other (by omega) _ _).other (by omega) _ _), ((u1.other (by omega) _ _).other (by omega) _ _), ((hQ.box m20 _ _).box (m10.other (by omega) _ _) _ _), ((hR.box m20 _ _).box (m10.other (by omega) _ _) _ _), ((A3.box m20 _ _).box (m10.other (by omega) _ _) _ _), ((B3.box m20 _ _).box (m10.other (by omega) _ _) _ _), (below_set (below_set gb3 (by omega) _ _) (by omega) _ _)⟩
    · go_wp2_with fail; go_meet; exact ⟨_, _, _, _, _, _, _, _, _, _, rfl, rfl, rfl, ((m11.set _ _).other (by omega) _ _), ((m10.other (by omega) _ _).set _ _), ((u0.other (by omega) _ _).other (by omega) _ _), ((u1.other (by omega) _ _).other (by omega) _ _), ((hQ.box m11 _ _).box (m10.other (by omega) _ _) _ _), ((hR.box m11 _ _).box (m10.other (by omega) _ _) _ _), ((A3.box m11 _ _).box (m10.other (by omega) _ _) _ _), ((B3.box m11 _ _).box (m10.other (by omega) _ _) _ _), (below_set (below_set gb3 (by omega) _ _) (by omega) _ _)⟩
  case rest =>
    obtain ⟨P, Q, vb, vo, vn, vc, ub, uo, un, uc, rfl, rfl, rfl, p, q, s, t, hQ, hR, A, B, bb⟩ := hcut
    clear x0 x1 hb0 A0 B0
    have p0 := s.c0; have p1 := s.c1; have p2 := t.c0; have p3 := t.c1
    go_wp2_with fail
    refine (rDivAll T b c ao bo l nc r mc x y _ A B 36 (by omega) hx.out hy.out hT'.out).mono ?_
    rintro e w5 ⟨db, do_, dn, dc, gb, go_, gn, gc, rfl, hD, hG, hb⟩
    have bb := Lib.hid (below_then bb (Nat.le_refl _) hb); have p := Lib.hid (p.later hb); have q := Lib.hid (q.later hb); have s := Lib.hid (s.later hb); have t := Lib.hid (t.later hb); have A := Lib.hid (A.below hb); have B := Lib.hid (B.below hb); have hQ := Lib.hid (hQ.below hb); have hR := Lib.hid (hR.below hb)
    have hD := Lib.hid hD; have hG := Lib.hid hG
    have c0 : ∀ o1 o2, ((w5.alloc o1).alloc o2).cell? ⟨P, 0, none⟩ = some (.bool vb) := fun o1 o2 => ((p.out.alloc o1).alloc o2).c0
    have c1 : ∀ o1 o2, ((w5.alloc o1).alloc o2).cell? ⟨P, 1, none⟩ = some (.slice vo vn vc) := fun o1 o2 => ((p.out.alloc o1).alloc o2).c1
    clear hb p0 p1 p2 p3
    go_wp2_with fail
    refine gen_calls (fun w' => Below w.heap.size w w' ∧ Box w' P (.bool vb) (.slice vo vn vc) ∧ Box w' Q (.bool ub) (.slice uo un uc) ∧ Box w' w.heap.size (.bool b) (.slice ao l nc) ∧ Box w' (w.heap.size + 1) (.bool c) (.slice bo r mc) ∧ Box w' w5.heap.size (.bool db) (.slice do_ dn dc) ∧ Box w' (w5.heap.size + 1) (.bool gb) (.slice go_ gn gc) ∧
        Right w' vb vo vn vc (x.fdiv y) ∧ Right w' ub uo un uc (if y = 0 then 0 else x.fmod y) ∧ Right w' db do_ dn dc (x.fdiv y) ∧ Right w' gb go_ gn gc (if y = 0 then 0 else x.fmod y) ∧ Whole w' b ao l nc x ∧ Whole w' c bo r mc y)
      ⟨(bb.out.alloc bb.out.size _).alloc (bb.out.alloc bb.out.size _).size _, (p.out.alloc _).alloc _, (q.out.alloc _).alloc _, (s.out.alloc _).alloc _, (t.out.alloc _).alloc _, (Box.new _ _ _ rfl).alloc _, Box.new _ _ _ (by simp), (hQ.out.alloc _).alloc _, (hR.out.alloc _).alloc _, (hD.out.alloc _).alloc _, (hG.out.alloc _).alloc _, (A.out.alloc _).alloc _, (B.out.alloc _).alloc _⟩ ?_
    clear c0 c1
    rintro w6 ⟨bb, p, q, s, t, i, j, hQ, hR, hD, hG, A, B⟩
    refine (same3_any vb db vo do_ vn vc dn dc (x.fdiv y) _ hQ hD).mono ?_
    rintro e w7 ⟨rfl, hb⟩
    have bb := Lib.hid (below_then bb (Nat.le_refl _) hb); have p := Lib.hid (p.later hb); have q := Lib.hid (q.later hb); have s := Lib.hid (s.later hb); have t := Lib.hid (t.later hb); have j := Lib.hid (j.later hb); have A := Lib.hid (A.below hb); have B := Lib.hid (B.below hb); have hQ := Lib.hid (hQ.below hb); have hR := Lib.hid (hR.below hb); have hG := Lib.hid (hG.below hb)
    have c0 := q.out.c0; have c1 := q.out.c1; have c2 := j.out.c0; have c3 := j.out.c1
    clear hb i hD
    go_wp2_with fail
    refine (same3_any ub gb uo go_ un uc gn gc (if y = 0 then 0 else x.fmod y) _ hR.out hG.out).mono ?_
    rintro e w8 ⟨rfl, hb⟩
    have bb := (below_then bb.out (Nat.le_refl _) hb).drew; have p := (p.out.later hb).drew; have q := (q.out.later hb).drew; have s := (s.out.later hb).drew; have t := (t.out.later hb).drew; have A := (A.out.below hb).drew; have B := (B.out.below hb).drew; have hQ := (hQ.out.below hb).drew; have hR := (hR.out.below hb).drew
    clear hb c0 c1 c2 c3 j hG
    by_cases hy0 : y = 0
    · obtain rfl : T = false := by rw [hT'.out]; simp [hy0]
      clear hy0 p q s t A B hQ hR
      go_wp2_with fail
      refine wp_region_noPanic ?_
      refine wp_region_held_drew (S := fun _ => True) (by kernel_rfl) trivial (fun _ => ?_)
      refine wpAnyH_take (i := 0) (v := .bool false) rfl (by kernel_rfl) (by kernel_rfl) (by kernel_rfl) (fun _ _ _ h => h) (Or.inl ⟨by rfl, ?_⟩) trivial (show wpAnyH _ _ _ _ _ _ _ (Act.put _ (some 46) _) _ from ?_)
      · intro w hSw; go_simp
      simp only [Act.put, List.setIfInBounds_toArray, List.set_cons_zero, List.set_cons_succ]
      refine wpAnyH_take (i := 1) (v := .bool true) rfl (by kernel_rfl) (by kernel_rfl) (by kernel_rfl) (fun _ _ _ h => h) (Or.inl ⟨by rfl, ?_⟩) trivial (show wpAnyH _ _ _ _ _ _ _ (Act.put _ (some 47) _) _ from ?_)
      · intro w hSw; go_simp
      simp only [Act.put, List.setIfInBounds_toArray, List.set_cons_zero, List.set_cons_succ]
      refine wpAnyH_take (i := 2) (v := .bool true) rfl (by kernel_rfl) (by kernel_rfl) (by kernel_rfl) (fun _ _ _ h => h) (Or.inl ⟨by rfl, ?_⟩) trivial (show wpAnyH _ _ _ _ _ _ _ (Act.put _ (some 48) _) _ from ?_)
      · intro w hSw; go_simp
      simp only [Act.put, List.setIfInBounds_toArray, List.set_cons_zero, List.set_cons_succ]
      refine wpAnyH_take (i := 3) (v := undef) rfl (by kernel_rfl) (by kernel_rfl) (by kernel_rfl) (fun _ _ _ h => h) (Or.inr ⟨by rfl, rfl⟩) trivial (show wpAnyH _ _ _ _ _ _ _ (Act.put _ (some 49) _) _ from ?_)
      simp only [Act.put, List.setIfInBounds_toArray, List.set_cons_zero, List.set_cons_succ]
      refine wpAnyH_take (i := 4) (v := undef) rfl (by kernel_rfl) (by kernel_rfl) (by kernel_rfl) (fun _ _ _ h => h) (Or.inr ⟨by rfl, rfl⟩) trivial (show wpAnyH _ _ _ _ _ _ _ (Act.put _ (some 50) _) _ from ?_)
      simp only [Act.put, List.setIfInBounds_toArray, List.set_cons_zero, List.set_cons_succ]
      refine wpAnyH_take (i := 5) (v := undef) rfl (by kernel_rfl) (by kernel_rfl) (by kernel_rfl) (fun _ _ _ h => h) (Or.inr ⟨by rfl, rfl⟩) trivial (show wpAnyH _ _ _ _ _ _ _ (Act.put _ (some 51) _) _ from ?_)
      simp only [Act.put, List.setIfInBounds_toArray, List.set_cons_zero, List.set_cons_succ]
      refine wpAnyH_take (i := 6) (v := undef) rfl (by kernel_rfl) (by kernel_rfl) (by kernel_rfl) (fun _ _ _ h => h) (Or.inr ⟨by rfl, rfl⟩) trivial (show wpAnyH _ _ _ _ _ _ _ (Act.put _ (some 52) _) _ from ?_)
      simp only [Act.put, List.setIfInBounds_toArray, List.set_cons_zero, List.set_cons_succ]
      refine wpAnyH_take (i := 7) (v := undef) rfl (by kernel_rfl) (by kernel_rfl) (by kernel_rfl) (fun _ _ _ h => h) (Or.inr ⟨by rfl, rfl⟩) trivial (show wpAnyH _ _ _ _ _ _ _ (Act.put _ (some 53) _) _ from ?_)
      simp only [Act.put, List.setIfInBounds_toArray, List.set_cons_zero, List.set_cons_succ]
      refine wpAnyH_take (i := 8) (v := undef) rfl (by kernel_rfl) (by kernel_rfl) (by kernel_rfl) (fun _ _ _ h => h) (Or.inr ⟨by rfl, rfl⟩) trivial (show wpAnyH _ _ _ _ _ _ _ (Act.put _ (some 54) _) _ from ?_)
      simp only [Act.put, List.setIfInBounds_toArray, List.set_cons_zero, List.set_cons_succ]
      refine wpAnyH_take (i := 9) (v := undef) rfl (by kernel_rfl) (by kernel_rfl) (by kernel_rfl) (fun _ _ _ h => h) (Or.inr ⟨by rfl, rfl⟩) trivial (show wpAnyH _ _ _ _ _ _ _ (Act.put _ (some 55) _) _ from ?_)
      simp only [Act.put, List.setIfInBounds_toArray, List.set_cons_zero, List.set_cons_succ]
      refine wpAnyH_take (i := 10) (v := undef) rfl (by kernel_rfl) (by kernel_rfl) (by kernel_rfl) (fun _ _ _ h => h) (Or.inr ⟨by rfl, rfl⟩) trivial (show wpAnyH _ _ _ _ _ _ _ (Act.put _ (some 56) _) _ from ?_)
      simp only [Act.put, List.setIfInBounds_toArray, List.set_cons_zero, List.set_cons_succ]
      refine wpAnyH_take (i := 11) (v := undef) rfl (by kernel_rfl) (by kernel_rfl) (by kernel_rfl) (fun _ _ _ h => h) (Or.inr ⟨by rfl, rfl⟩) trivial (show wpAnyH _ _ _ _ _ _ _ (Act.put _ (some 57) _) _ from ?_)
      simp only [Act.put, List.setIfInBounds_toArray, List.set_cons_zero, List.set_cons_succ]
      refine wpAnyH_take (i := 12) (v := .bool true) rfl (by kernel_rfl) (by kernel_rfl) (by kernel_rfl) (fun _ _ _ h => h) (Or.inl ⟨by rfl, ?_⟩) trivial (show wpAnyH _ _ _ _ _ _ _ (Act.put _ (some 58) _) _ from ?_)
      · intro w hSw; go_simp
      simp only [Act.put, List.setIfInBounds_toArray, List.set_cons_zero, List.set_cons_succ]
      refine wpAnyH_take (i := 13) (v := .bool true) rfl (by kernel_rfl) (by kernel_rfl) (by kernel_rfl) (fun _ _ _ h => h) (Or.inl ⟨by rfl, ?_⟩) trivial (show wpAnyH _ _ _ _ _ _ _ (Act.put _ (some 59) _) _ from ?_)
      · intro w hSw; go_simp
      simp only [Act.put, List.setIfInBounds_toArray, List.set_cons_zero, List.set_cons_succ]
      refine wpAnyH_ready (rs := [14]) (by kernel_rfl) (by simp) ?_
      refine AllReadyH.cons rfl (fun K hK => ?_) AllReadyH.nil
      go_simp
      refine (awake3_any _).mono ?_
      rintro e w' ⟨rfl, hb⟩
      have bb := below_then bb (Nat.le_refl _) hb
      clear hb
      go_wp2_with fail
      refine hK.out _ _ trivial (fun _ => ?_)
      clear hK K
      refine wpAnyH_take (i := 15) (v := .bool true) rfl (by kernel_rfl) (by kernel_rfl) (by kernel_rfl) (fun _ _ _ h => h) (Or.inl ⟨by rfl, ?_⟩) trivial (show wpAnyH _ _ _ _ _ _ _ (Act.put _ (some 61) _) _ from ?_)
      · intro w hSw; go_simp
      simp only [Act.put, List.setIfInBounds_toArray, List.set_cons_zero, List.set_cons_succ]
      refine wpAnyH_take (i := 16) (v := .bool true) rfl (by kernel_rfl) (by kernel_rfl) (by kernel_rfl) (fun _ _ _ h => h) (Or.inl ⟨by rfl, ?_⟩) trivial (show wpAnyH _ _ _ _ _ _ _ (Act.put _ (some 4) _) _ from ?_)
      · intro w hSw; go_simp
      simp only [Act.put, List.setIfInBounds_toArray, List.set_cons_zero, List.set_cons_succ]
      refine wpAnyH_done (by kernel_rfl) ?_ _
      refine NoPanic.normal ?_
      go_wp2_with fail
      go_ret
      exact ⟨rfl, bb⟩
    · obtain rfl : T = true := by rw [hT'.out]; simp [hy0]
      rw [if_neg hy0] at hR
      have k1 := Lib.hid (fdiv_abs (x := x) hy0)
      have kq := Lib.hid (show (x.fdiv y).natAbs < pw 37 from by have e : pw 37 = 4294967296 * pw 36 := rfl; have := k1.out.1; have := hx.out; have := pw_pos 36; omega)
      have kr := Lib.hid (show (x.fmod y).natAbs < pw 37 from Nat.lt_of_le_of_lt k1.out.2 (Nat.lt_of_lt_of_le hy.out (pw_le (by omega))))
      have hQ := hQ.whole kq.out (by omega); have hR := hR.whole kr.out (by omega)
      have hsum : x.fdiv y * y + x.fmod y = x := by rw [Int.mul_comm]; exact Int.mul_fdiv_add_fmod x y
      have hsum' := Lib.hid hsum
      clear hsum hy0
      go_wp2_with fail
      have sa0 := True.intro
      go_region_held3 (fun w' => w'.cell? ⟨P, 0, none⟩ = some (.bool vb) ∧ w'.cell? ⟨P, 1, none⟩ = some (.slice vo vn vc) ∧ w'.cell? ⟨Q, 0, none⟩ = some (.bool ub) ∧ w'.cell? ⟨Q, 1, none⟩ = some (.slice uo un uc) ∧ w'.cell? ⟨w.heap.size, 0, none⟩ = some (.bool b) ∧ w'.cell? ⟨w.heap.size, 1, none⟩ = some (.slice ao l nc) ∧ w'.cell? ⟨(w.heap.size + 1), 0, none⟩ = some (.bool c) ∧ w'.cell? ⟨(w.heap.size + 1), 1, none⟩ = some (.slice bo r mc))
        (first | with_reducible exact ⟨p.c0, p.c1, q.c0, q.c1, s.c0, s.c1, t.c0, t.c1⟩ | go_keep)
        (first
        | (go_at_call 9; clear sa0; refine (mine_any c bo r mc _).mono ?_; rintro e w' ⟨rfl, hb⟩; have bb := below_then bb (Nat.le_refl _) hb; have p := p.later hb; have q := q.later hb; have s := s.later hb; have t := t.later hb; have A := A.below hb; have B := B.below hb; have hQ := hQ.below hb; have hR := hR.below hb; have sa1 := True.intro)
        | (go_at_call 15; clear sa1; refine (wMul_any vb c vo bo vn vc r mc (x.fdiv y) y _ hQ B).mono ?_; rintro e w' ⟨eb, eo, en, ec, rfl, h1, hb⟩; have bb := below_then bb (Nat.le_refl _) hb; have p := p.later hb; have q := q.later hb; have s := s.later hb; have t := t.later hb; have A := A.below hb; have B := B.below hb; have hQ := hQ.below hb; have hR := hR.below hb; have h1 := h1.whole (mul_abs kq.out hy.out) (by omega); have sa2 := True.intro)
        | (go_at_call 11; clear sa2; refine (wAdd_any eb ub eo uo en ec un uc (x.fdiv y * y) (x.fmod y) _ h1 hR).mono ?_; rintro e w' ⟨fb, fo, fn, fc, rfl, h2, hb⟩; have bb := below_then bb (Nat.le_refl _) hb; have p := p.later hb; have q := q.later hb; have s := s.later hb; have t := t.later hb; have A := A.below hb; have B := B.below hb; have hQ := hQ.below hb; have hR := hR.below hb; have h1 := h1.below hb; have h2 : Right _ fb fo fn fc (x) := (by rw [hsum'.out] at h2; exact h2); have sa3 := True.intro)
        | (go_at_call 24; clear sa3; refine (rNorm_any b ao l nc x _ A).mono ?_; rintro e w' ⟨gb, go, gn, gc, rfl, h3, hb⟩; have bb := below_then bb (Nat.le_refl _) hb; have p := p.later hb; have q := q.later hb; have s := s.later hb; have t := t.later hb; have A := A.below hb; have B := B.below hb; have hQ := hQ.below hb; have hR := hR.below hb; have h2 := h2.below hb; have sa4 := True.intro)
        | (go_at_call 10; clear sa4; refine (same3_any fb gb fo go fn fc gn gc (x) _ h2 h3).mono ?_; rintro e w' ⟨rfl, hb⟩; have bb := below_then bb (Nat.le_refl _) hb; have p := p.later hb; have q := q.later hb; have s := s.later hb; have t := t.later hb; have A := A.below hb; have B := B.below hb; have hQ := hQ.below hb; have hR := hR.below hb; have h2 := h2.below hb; have h3 := h3.below hb; have sa5 := True.intro)
        | (go_at_call 25; clear sa5; refine (awake3_any _).mono ?_; rintro e w' ⟨rfl, hb⟩; have bb := below_then bb (Nat.le_refl _) hb; have p := p.later hb; have q := q.later hb; have s := s.later hb; have t := t.later hb; have A := A.below hb; have B := B.below hb; have hQ := hQ.below hb; have hR := hR.below hb; have sa6 := True.intro))
      go_wp2_with fail
      go_ret
      exact ⟨rfl, bb⟩

end Go.Proofs.Ytkcbppijajgoiaa
