/-
  scrimref03.DivMod.
-/
import Derived.Test.YtnnipciifjpooaaRc
import Derived.Test.YtnnipciifjpooaaWc
namespace Go.Proofs.Ytnnipciifjpooaa
open Go.RowKit Num

attribute [local go_sem ↓] Go.wp_at_zero Go.wp_at_succ

theorem nz_of {y : Int} {v : Nat} (h : v ≠ 0) (e : v = y.natAbs) : y ≠ 0 := by rintro rfl; exact h (by simpa using e)

set_option maxHeartbeats 4000000 in
theorem rDivMod_any (b c : Bool) (ao bo : Option Addr) (n nc m mc : Nat) (x y : Int) (w : World) (A : Whole w b ao n nc x) (B : Whole w c bo m mc y) (M : Nat) (hM : M ≤ 1000) (hx : x.natAbs < pw M) (hy : y.natAbs < pw M) :
    Calls Try.prog 59 #[.agg #[.bool b, .slice ao n nc], .agg #[.bool c, .slice bo m mc]] w (IDivPost x y w) := by
  have A' := Lib.hid A; have B' := Lib.hid B
  clear A B
  go_enter Try.func59, Try.ntmps59
  go_upto_region 1 with fail
  refine gen_wp (fun w' => Below w.heap.size w w' ∧ Box w' w.heap.size (.bool b) (.slice ao n nc) ∧ Box w' (w.heap.size + 1) (.bool c) (.slice bo m mc) ∧ Box w' (w.heap.size + 2) (.bool false) (.slice none 0 0) ∧ Box w' (w.heap.size + 3) (.bool false) (.slice none 0 0))
    ⟨(((((Below.refl _ w).alloc (Nat.le_refl _) _).alloc (by first | (simp; done) | (simp; omega)) _).alloc (by first | (simp; done) | (simp; omega)) _).alloc (by first | (simp; done) | (simp; omega)) _), ((((Box.new _ _ _ rfl).alloc _).alloc _).alloc _), (((Box.new _ _ _ (by first | (simp; done) | (simp; omega))).alloc _).alloc _), ((Box.new _ _ _ (by first | (simp; done) | (simp; omega))).alloc _), (Box.new _ _ _ (by first | (simp; done) | (simp; omega)))⟩ ?_
  rintro w0 ⟨hb0, x0, x1, x2, x3⟩
  go_cut [7, 8] from 14 to 17 (fun s t wx => ∃ P Q sb so sn sc tb to_ tn tc, s = .pointer (some ⟨P, 0, none⟩) ∧ t = .pointer (some ⟨Q, 0, none⟩) ∧ Box wx P (.bool sb) (.slice so sn sc) ∧ Box wx Q (.bool tb) (.slice to_ tn tc) ∧ Box wx (w.heap.size + 2) (.bool false) (.slice none 0 0) ∧ Box wx (w.heap.size + 3) (.bool false) (.slice none 0 0) ∧ 
    w.heap.size ≤ P ∧ w.heap.size ≤ Q ∧ P ≠ Q ∧ P ≠ w.heap.size + 2 ∧ Q ≠ w.heap.size + 2 ∧ P ≠ w.heap.size + 3 ∧ Q ≠ w.heap.size + 3 ∧ Right wx sb so sn sc x ∧ Right wx tb to_ tn tc y ∧ Below w.heap.size w wx)
  case first =>
    have l0 := x0.lt; have l1 := x1.lt; have l2 := x2.lt; have l3 := x3.lt; have gs0 := hb0.size
    have gb0 := hb0
    have A0 := A'.out.below gb0; have B0 := B'.out.below gb0
    go_region_held3 (fun w' => w'.cell? ⟨w.heap.size, 0, none⟩ = some (.bool b) ∧ w'.cell? ⟨w.heap.size, 1, none⟩ = some (.slice ao n nc) ∧ w'.cell? ⟨w.heap.size + 1, 0, none⟩ = some (.bool c) ∧ w'.cell? ⟨w.heap.size + 1, 1, none⟩ = some (.slice bo m mc))
      (first | with_reducible exact ⟨x0.drew.c0, x0.drew.c1, x1.drew.c0, x1.drew.c1⟩ | with_reducible exact ⟨(x0.alloc _).drew.c0, (x0.alloc _).drew.c1, (x1.alloc _).drew.c0, (x1.alloc _).drew.c1⟩ | with_reducible exact ⟨((x0.alloc _).alloc _).drew.c0, ((x0.alloc _).alloc _).drew.c1, ((x1.alloc _).alloc _).drew.c0, ((x1.alloc _).alloc _).drew.c1⟩ | with_reducible exact ⟨y0.c0, y0.c1, y1.c0, y1.c1⟩ | with_reducible exact ⟨(y0.alloc _).c0, (y0.alloc _).c1, (y1.alloc _).c0, (y1.alloc _).c1⟩ | with_reducible exact ⟨((y0.alloc _).alloc _).c0, ((y0.alloc _).alloc _).c1, ((y1.alloc _).alloc _).c0, ((y1.alloc _).alloc _).c1⟩ | with_reducible exact ⟨z0.c0, z0.c1, z1.c0, z1.c1⟩ | with_reducible exact ⟨(z0.alloc _).c0, (z0.alloc _).c1, (z1.alloc _).c0, (z1.alloc _).c1⟩ | with_reducible exact ⟨((z0.alloc _).alloc _).c0, ((z0.alloc _).alloc _).c1, ((z1.alloc _).alloc _).c0, ((z1.alloc _).alloc _).c1⟩ | with_reducible exact ⟨(z0.other (by omega) _ _).c0, (z0.other (by omega) _ _).c1, (z1.other (by omega) _ _).c0, (z1.other (by omega) _ _).c1⟩ | with_reducible exact ⟨((z0.other (by omega) _ _).alloc _).c0, ((z0.other (by omega) _ _).alloc _).c1, ((z1.other (by omega) _ _).alloc _).c0, ((z1.other (by omega) _ _).alloc _).c1⟩ | with_reducible exact ⟨((z0.other (by omega) _ _).other (by omega) _ _).c0, ((z0.other (by omega) _ _).other (by omega) _ _).c1, ((z1.other (by omega) _ _).other (by omega) _ _).c0, ((z1.other (by omega) _ _).other (by omega) _ _).c1⟩ | go_keep)
      (first
      | (go_at_call_of 69 ao; refine (rNorm_any b ao n nc x _ ?_).mono ?_; (first | with_reducible exact A0.drew | with_reducible exact (A0.alloc _).drew | with_reducible exact ((A0.alloc _).alloc _).drew); rintro e w1 ⟨sb, so, sn, sc, rfl, hR1, hb1⟩; have hc1 : Below w0.heap.size w0 w1 := (by (first | exact (Below.refl _ _).drew.trans hb1 | exact ((Below.refl _ _).alloc (by first | exact Nat.le_refl _ | (simp; done) | (simp; omega)) _).drew.trans (hb1.mono (by first | (simp; done) | (simp; omega))) | exact (((Below.refl _ _).alloc (by first | exact Nat.le_refl _ | (simp; done) | (simp; omega)) _).alloc (by first | exact Nat.le_refl _ | (simp; done) | (simp; omega)) _).drew.trans (hb1.mono (by first | (simp; done) | (simp; omega))))); have hz1 := hc1.size; have y0 := x0.later hc1; have ly0 := y0.lt; have y1 := x1.later hc1; have ly1 := y1.lt; have y2 := x2.later hc1; have ly2 := y2.lt; have y3 := x3.later hc1; have ly3 := y3.lt; have B1 := B0.below hc1; have gb1 := below_then gb0 (Nat.le_refl _) hc1; have gs1 := gb1.size; (first | (with_reducible have mm := made2' hb1; obtain ⟨m10, m11⟩ := mm) | (with_reducible have m10 := made1' hb1) | skip); (try have k10 := m10.lt); (try have k11 := m11.lt))
      | (go_at_call_of 69 bo; refine (rNorm_any c bo m mc y _ ?_).mono ?_; (first | with_reducible exact B1 | with_reducible exact (B1.alloc _) | with_reducible exact ((B1.alloc _).alloc _)); rintro e w2 ⟨tb, to_, tn, tc, rfl, hR2, hb2⟩; have hc2 : Below w1.heap.size w1 w2 := (by (first | with_reducible exact hb2 | exact ((Below.refl _ _).alloc (by first | exact Nat.le_refl _ | (simp; done) | (simp; omega)) _).trans (hb2.mono (by first | (simp; done) | (simp; omega))) | exact (((Below.refl _ _).alloc (by first | exact Nat.le_refl _ | (simp; done) | (simp; omega)) _).alloc (by first | exact Nat.le_refl _ | (simp; done) | (simp; omega)) _).trans (hb2.mono (by first | (simp; done) | (simp; omega))))); have hz2 := hc2.size; have z0 := y0.later hc2; have lz0 := z0.lt; have z1 := y1.later hc2; have lz1 := z1.lt; have z2 := y2.later hc2; have lz2 := z2.lt; have z3 := y3.later hc2; have lz3 := z3.lt; have hR1 := hR1.below hc2; have gb2 := below_then gb1 (Nat.le_refl _) hc2; have gs2 := gb2.size; (try have m10 := m10.later hc2); (try have m11 := m11.later hc2); (first | (with_reducible have mm := made2 hb2; obtain ⟨m20, m21⟩ := mm) | (with_reducible have m20 := made1 hb2) | skip); (try have k10 := m10.lt); (try have k11 := m11.lt); (try have k20 := m20.lt); (try have k21 := m21.lt); (try (have f100 := m10.c0; have f101 := m10.c1; have f102 := m10.fr 0; have f103 := m10.fr 1)); (try (have f110 := m11.c0; have f111 := m11.c1; have f112 := m11.fr 0; have f113 := m11.fr 1)); (try (have f200 := m20.c0; have f201 := m20.c1; have f202 := m20.fr 0; have f203 := m20.fr 1)); (try (have f210 := m21.c0; have f211 := m21.c1; have f212 := m21.fr 0; have f213 := m21.fr 1))))
    · go_wp2_with fail; go_meet; exact ⟨_, _, _, _, _, _, _, _, _, _, rfl, rfl, ((Box.new _ _ _ (by first | rfl | (simp; done))).alloc _), (Box.new _ _ _ (by first | rfl | (simp; done))), ((z2.alloc _).alloc _), ((z3.alloc _).alloc _), by first | omega | (simp; omega), by first | omega | (simp; omega), by first | omega | (simp; omega), by first | omega | (simp; omega), by first | omega | (simp; omega), by first | omega | (simp; omega), by first | omega | (simp; omega), ((hR1.alloc _).alloc _), ((hR2.alloc _).alloc _), (Below.alloc (Below.alloc gb2 (by first | omega | (simp; omega) | (simp; done)) _) (by first | omega | (simp; omega) | (simp; done)) _)⟩
    · go_wp2_with fail; go_meet; exact ⟨_, _, _, _, _, _, _, _, _, _, rfl, rfl, (Box.new _ _ _ (by first | rfl | (simp; done))), ((Box.new _ _ _ (by first | rfl | (simp; done))).alloc _), ((z2.alloc _).alloc _), ((z3.alloc _).alloc _), by first | omega | (simp; omega), by first | omega | (simp; omega), by first | omega | (simp; omega), by first | omega | (simp; omega), by first | omega | (simp; omega), by first | omega | (simp; omega), by first | omega | (simp; omega), ((hR1.alloc _).alloc _), ((hR2.alloc _).alloc _), (Below.alloc (Below.alloc gb2 (by first | omega | (simp; omega) | (simp; done)) _) (by first | omega | (simp; omega) | (simp; done)) _)⟩
    · go_wp2_with fail; go_meet; exact ⟨_, _, _, _, _, _, _, _, _, _, rfl, rfl, ((m20.set _ _).alloc _), (Box.new _ _ _ (by first | rfl | (simp; done))), ((z2.other (by omega) _ _).alloc _), ((z3.other (by omega) _ _).alloc _), by first | omega | (simp; omega), by first | omega | (simp; omega), by first | omega | (simp; omega), by first | omega | (simp; omega), by first | omega | (simp; omega), by first | omega | (simp; omega), by first | omega | (simp; omega), ((hR1.box m20 _ _).alloc _), ((hR2.box m20 _ _).alloc _), (Below.alloc (below_set gb2 (by omega) _ _) (by first | omega | (simp; omega) | (simp; done)) _)⟩
    · go_wp2_with fail; go_meet; exact ⟨_, _, _, _, _, _, _, _, _, _, rfl, rfl, ((m20.set _ _).other (by omega) _ _), ((m21.other (by omega) _ _).set _ _), ((z2.other (by omega) _ _).other (by omega) _ _), ((z3.other (by omega) _ _).other (by omega) _ _), by first | omega | (simp; omega), by first | omega | (simp; omega), by first | omega | (simp; omega), by first | omega | (simp; omega), by first | omega | (simp; omega), by first | omega | (simp; omega), by first | omega | (simp; omega), ((hR1.box m20 _ _).box (m21.other (by omega) _ _) _ _), ((hR2.box m20 _ _).box (m21.other (by omega) _ _) _ _), (below_set (below_set gb2 (by omega) _ _) (by omega) _ _)⟩
    · go_wp2_with fail; go_meet; exact ⟨_, _, _, _, _, _, _, _, _, _, rfl, rfl, (Box.new _ _ _ (by first | rfl | (simp; done))), ((m20.set _ _).alloc _), ((z2.other (by omega) _ _).alloc _), ((z3.other (by omega) _ _).alloc _), by first | omega | (simp; omega), by first | omega | (simp; omega), by first | omega | (simp; omega), by first | omega | (simp; omega), by first | omega | (simp; omega), by first | omega | (simp; omega), by first | omega | (simp; omega), ((hR1.box m20 _ _).alloc _), ((hR2.box m20 _ _).alloc _), (Below.alloc (below_set gb2 (by omega) _ _) (by first | omega | (simp; omega) | (simp; done)) _)⟩
    · go_wp2_with fail; go_meet; exact ⟨_, _, _, _, _, _, _, _, _, _, rfl, rfl, ((m21.set _ _).other (by omega) _ _), ((m20.other (by omega) _ _).set _ _), ((z2.other (by omega) _ _).other (by omega) _ _), ((z3.other (by omega) _ _).other (by omega) _ _), by first | omega | (simp; omega), by first | omega | (simp; omega), by first | omega | (simp; omega), by first | omega | (simp; omega), by first | omega | (simp; omega), by first | omega | (simp; omega), by first | omega | (simp; omega), ((hR1.box m21 _ _).box (m20.other (by omega) _ _) _ _), ((hR2.box m21 _ _).box (m20.other (by omega) _ _) _ _), (below_set (below_set gb2 (by omega) _ _) (by omega) _ _)⟩
    · go_wp2_with fail; go_meet; exact ⟨_, _, _, _, _, _, _, _, _, _, rfl, rfl, ((m10.set _ _).alloc _), (Box.new _ _ _ (by first | rfl | (simp; done))), ((z2.other (by omega) _ _).alloc _), ((z3.other (by omega) _ _).alloc _), by first | omega | (simp; omega), by first | omega | (simp; omega), by first | omega | (simp; omega), by first | omega | (simp; omega), by first | omega | (simp; omega), by first | omega | (simp; omega), by first | omega | (simp; omega), ((hR1.box m10 _ _).alloc _), ((hR2.box m10 _ _).alloc _), (Below.alloc (below_set gb2 (by omega) _ _) (by first | omega | (simp; omega) | (simp; done)) _)⟩
    · go_wp2_with fail; go_meet; exact ⟨_, _, _, _, _, _, _, _, _, _, rfl, rfl, ((m10.set _ _).other (by omega) _ _), ((m20.other (by omega) _ _).set _ _), ((z2.other (by omega) _ _).other (by omega) _ _), ((z3.other (by omega) _ _).other (by omega) _ _), by first | omega | (simp; omega), by first | omega | (simp; omega), by first | omega | (simp; omega), by first | omega | (simp; omega), by first | omega | (simp; omega), by first | omega | (simp; omega), by first | omega | (simp; omega), ((hR1.box m10 _ _).box (m20.other (by omega) _ _) _ _), ((hR2.box m10 _ _).box (m20.other (by omega) _ _) _ _), (below_set (below_set gb2 (by omega) _ _) (by omega) _ _)⟩
    · go_wp2_with fail; go_meet; exact ⟨_, _, _, _, _, _, _, _, _, _, rfl, rfl, ((m10.set _ _).other (by omega) _ _), ((m11.other (by omega) _ _).set _ _), ((z2.other (by omega) _ _).other (by omega) _ _), ((z3.other (by omega) _ _).other (by omega) _ _), by first | omega | (simp; omega), by first | omega | (simp; omega), by first | omega | (simp; omega), by first | omega | (simp; omega), by first | omega | (simp; omega), by first | omega | (simp; omega), by first | omega | (simp; omega), ((hR1.box m10 _ _).box (m11.other (by omega) _ _) _ _), ((hR2.box m10 _ _).box (m11.other (by omega) _ _) _ _), (below_set (below_set gb2 (by omega) _ _) (by omega) _ _)⟩
    · go_wp2_with fail; go_meet; exact ⟨_, _, _, _, _, _, _, _, _, _, rfl, rfl, (Box.new _ _ _ (by first | rfl | (simp; done))), ((m10.set _ _).alloc _), ((z2.other (by omega) _ _).alloc _), ((z3.other (by omega) _ _).alloc _), by first | omega | (simp; omega), by first | omega | (simp; omega), by first | omega | (simp; omega), by first | omega | (simp; omega), by first | omega | (simp; omega), by first | omega | (simp; omega), by first | omega | (simp; omega), ((hR1.box m10 _ _).alloc _), ((hR2.box m10 _ _).alloc _), (Below.alloc (below_set gb2 (by omega) _ _) (by first | omega | (simp; omega) | (simp; done)) _)⟩
    · go_wp2_with fail; go_meet; exact ⟨_, _, _, _, _, _, _, _, _, _, rfl, rfl, ((m20.set _ _).other (by omega) _ _), ((m10.other (by omega) _ _).set _ _), ((z2.other (by omega) _ _).other (by omega) _ _), ((z3.other (by omega) _ _).other (by omega) _ _), by first | omega | (simp; omega), by first | omega | (simp; omega), by first | omega | (simp; omega), by first | omega | (simp; omega), by first | omega | (simp; omega), by first | omega | (simp; omega), by first | omega | (simp; omega), ((hR1.box m20 _ _).box (m10.other (by omega) _ _) _ _), ((hR2.box m20 _ _).box (m10.other (by omega) _ _) _ _), (below_set (below_set gb2 (by omega) _ _) (by omega) _ _)⟩
    · go_wp2_with fail; go_meet; exact ⟨_, _, _, _, _, _, _, _, _, _, rfl, rfl, ((m11.set _ _).other (by omega) _ _), ((m10.other (by omega) _ _).set _ _), ((z2.other (by omega) _ _).other (by omega) _ _), ((z3.other (by omega) _ _).other (by omega) _ _), by first | omega | (simp; omega), by first | omega | (simp; omega), by first | omega | (simp; omega), by first | omega | (simp; omega), by first | omega | (simp; omega), by first | omega | (simp; omega), by first | omega | (simp; omega), ((hR1.box m11 _ _).box (m10.other (by omega) _ _) _ _), ((hR2.box m11 _ _).box (m10.other (by omega) _ _) _ _), (below_set (below_set gb2 (by omega) _ _) (by omega) _ _)⟩
  case rest =>
    obtain ⟨P, Q, sb, so, sn, sc, tb, to_, tn, tc, rfl, rfl, p7, p8, p4, p5, gP, gQ, hPQ, n1, n2, n3, n4, hR, hS, hbw⟩ := hcut
    obtain ⟨f, f1, f2, f3, f4, f5⟩ := hR.ex
    obtain ⟨g, g1, g2, g3, g4, g5⟩ := hS.ex
    have FA := Lib.hid (f4.few f3 f1 f2 hx (by omega)); have GA := Lib.hid (g4.few g3 g1 g2 hy (by omega))
    have fv := Lib.hid f4.val; have gv := Lib.hid g4.val
    have xs : Hid (x = sgn sb x.natAbs) := Lib.hid (by rw [f5]; exact (sgn_self x).symm)
    have ys : Hid (y = sgn tb y.natAbs) := Lib.hid (by rw [g5]; exact (sgn_self y).symm)
    have hx' := Lib.hid hx; have hy' := Lib.hid hy
    have c71 := p7.c1; have c81 := p8.c1
    have b7' := Lib.hid p7; have b8' := Lib.hid p8; have b4' := Lib.hid p4; have b5' := Lib.hid p5; have hbw' := Lib.hid hbw
    clear hR hS f3 f4 f5 g3 g4 g5 hbw x0 x1 x2 x3 hb0 f1 f2 g1 g2 p7 p8 p4 p5 hx hy
    go_wp2_with fail
    refine (refDivMod_any so to_ sn sc tn tc f g _ FA.out.1 GA.out.1 (Nat.le_trans FA.out.2 hM) (Nat.le_trans GA.out.2 hM)).mono ?_
    rw [fv.out, gv.out]
    rintro e w3 ⟨hb3, h⟩
    have b7 := Lib.hid (b7'.out.later hb3); have b8 := Lib.hid (b8'.out.later hb3); have b4 := Lib.hid (b4'.out.later hb3); have b5 := Lib.hid (b5'.out.later hb3)
    have hbw := Lib.hid (below_then hbw'.out (Nat.le_refl _) hb3)
    have GB := Lib.hid (GA.out.1.below hb3)
    clear b7' b8' b4' b5' hbw' hb3 FA GA c71 c81 A' B'
    rcases h with ⟨h0, rfl⟩ | ⟨h0, qo, qn, qc, q, ro, rn, rc, r, rfl, k1, k2, k3, k4, k5, k6, k7, k8⟩
    · have hy0 : y = 0 := by omega
      have hy0' := Lib.hid hy0
      have p0 := b4.out.c0; have p1 := b4.out.c1; have p2 := b4.out.fr 0; have p3 := b4.out.fr 1; have p4 := b5.out.c0; have p5 := b5.out.c1; have p6 := b5.out.fr 0; have p7 := b5.out.fr 1
      have z2 := (b4.out.set (.bool false) (.slice none 0 0)).other (C := w.heap.size + 3) (by omega) (.bool false) (.slice none 0 0)
      have z3 := (b5.out.other (C := w.heap.size + 2) (by omega) (.bool false) (.slice none 0 0)).set (.bool false) (.slice none 0 0)
      have e0 := z2.c0; have e1 := z2.c1; have e2 := z3.c0; have e3 := z3.c1
      clear h0 hy0 z2 z3
      go_wp2_with fail
      refine bodyPost_ret (v := .tuple #[.agg #[.bool false, .slice none 0 0], .agg #[.bool false, .slice none 0 0], .bool false]) (by simp [results, Try.results59, go_sem, e0, e1, e2, e3]) rfl ?_
      exact ⟨below_set (below_set hbw.out (by omega) _ _) (by omega) _ _, .inl ⟨hy0'.out, rfl⟩⟩
    · have h0' := Lib.hid h0; have k5' := Lib.hid k5; have k7' := Lib.hid k7
      have k6' := Lib.hid k6; have k8' := Lib.hid k8
      have hqb := Lib.hid (small2 (k := M) (by omega) (Nat.lt_of_le_of_lt (Nat.div_le_self x.natAbs y.natAbs) hx'.out))
      have hrb := Lib.hid (small2 (k := M) (by omega) (Nat.lt_of_le_of_lt (Nat.mod_le x.natAbs y.natAbs) hx'.out))
      have QA := Lib.hid (k6.arg k5 k1 k2 hqb.out); have RA := Lib.hid (k8.arg k7 k3 k4 hrb.out)
      have qv := Lib.hid k6.val; have rv := Lib.hid k8.val
      have c70 := b7.out.c0; have c80 := b8.out.c0
      clear h0 k5 k6 k7 k8
      by_cases hst : sb = tb
      · subst hst
        go_wp2_with fail
        have a0 := b7.out.drew; have a2 := b4.out.drew; have a3 := b5.out.drew; have gb0 := hbw.out.drew
        go_region_held3 (fun w' => w'.cell? ⟨P, 0, none⟩ = some (.bool sb))
          (first | with_reducible exact a0.c0 | with_reducible exact d0.c0 | with_reducible exact u0.c0 | with_reducible exact (u0.other n1 _ _).c0 | with_reducible exact ((u0.other n1 _ _).other n3 _ _).c0 | go_keep)
          (first
          | (go_at_call_of 69 qo; refine (rNorm_any false qo qn qc (sgn false (x.natAbs / y.natAbs)) _ ⟨q, QA.out.below (Below.refl _ _).drew, by rw [qv.out]⟩).mono ?_; rintro e w5 ⟨vb, vo, vn, vc, rfl, hQ, hb5⟩; have d0 := a0.later hb5; have d2 := a2.later hb5; have d3 := a3.later hb5; have gb1 := below_then gb0 (Nat.le_refl _) hb5; have RB := RA.out.below ((Below.refl _ _).drew.trans hb5))
          | (go_at_call_of 69 ro; refine (rNorm_any sb ro rn rc (sgn sb (x.natAbs % y.natAbs)) _ ⟨r, RB, by rw [rv.out]⟩).mono ?_; rintro e w6 ⟨tb', to', tn', tc', rfl, hR, hb6⟩; have u0 := d0.later hb6; have u2 := d2.later hb6; have u3 := d3.later hb6; have gb2 := below_then gb1 (Nat.le_refl _) hb6; have hQ := hQ.below hb6; have q0 := u2.c0; have q1 := u2.c1; have q2 := u2.fr 0; have q3 := u2.fr 1; have q4 := u3.c0; have q5 := u3.c1; have q6 := u3.fr 0; have q7 := u3.fr 1))
        clear a0 a2 a3 gb0 d0 d2 d3 gb1 RB u0
        have z2 := (u2.set (.bool vb) (.slice vo vn vc)).other (C := w.heap.size + 3) (by omega) (.bool tb') (.slice to' tn' tc')
        have z3 := (u3.other (C := w.heap.size + 2) (by omega) (.bool vb) (.slice vo vn vc)).set (.bool tb') (.slice to' tn' tc')
        have e0 := z2.c0; have e1 := z2.c1; have e2 := z3.c0; have e3 := z3.c1
        have hQ' := Lib.hid hQ; have hR' := Lib.hid hR; have u2' := Lib.hid u2; have u3' := Lib.hid u3; have gb' := Lib.hid gb2
        clear z2 z3 q0 q1 q2 q3 q4 q5 q6 q7 hQ hR u2 u3 gb2
        go_wp2_with fail
        refine bodyPost_ret (v := .tuple #[.agg #[.bool vb, .slice vo vn vc], .agg #[.bool tb', .slice to' tn' tc'], .bool true]) (by simp [results, Try.results59, go_sem, e0, e1, e2, e3]) rfl ?_
        exact IDivPost.stored hQ'.out hR'.out u2'.out u3'.out (by omega) gb'.out (by omega) (by omega) (nz_of h0'.out rfl) (by have e := fdiv_same sb (u := x.natAbs) h0'.out; rw [← xs.out, ← ys.out] at e; exact e)
      · have hst' : (sb == tb) = false := by simp [hst]
        by_cases hr : rn = 0
        · subst hr
          have hzr : Hid (x.natAbs % y.natAbs = 0) := Lib.hid (k8'.out.ne_zero.1 rfl)
          go_wp2_with fail
          refine (rNorm_any true qo qn qc (sgn true (x.natAbs / y.natAbs)) _ ⟨q, QA.out, by rw [qv.out]⟩).mono ?_
          rintro e w5 ⟨vb, vo, vn, vc, rfl, hQ, hb5⟩
          have u2 := b4.out.later hb5; have u3 := b5.out.later hb5; have gb2 := below_then hbw.out (Nat.le_refl _) hb5
          have hR : Right w5 false none 0 0 (sgn tb (x.natAbs % y.natAbs)) := ⟨fun _ => 0, Nat.le_refl _, by omega, .inl rfl, by rw [hzr.out, sgn_abs]; exact canon_zero _, by rw [hzr.out]; cases tb <;> rfl⟩
          have q0 := u2.c0; have q1 := u2.c1; have q2 := u2.fr 0; have q3 := u2.fr 1; have q4 := u3.c0; have q5 := u3.c1; have q6 := u3.fr 0; have q7 := u3.fr 1
          clear hb5
          have z2 := (u2.set (.bool vb) (.slice vo vn vc)).other (C := w.heap.size + 3) (by omega) (.bool false) (.slice none 0 0)
          have z3 := (u3.other (C := w.heap.size + 2) (by omega) (.bool vb) (.slice vo vn vc)).set (.bool false) (.slice none 0 0)
          have e0 := z2.c0; have e1 := z2.c1; have e2 := z3.c0; have e3 := z3.c1
          have hQ' := Lib.hid hQ; have hR' := Lib.hid hR; have u2' := Lib.hid u2; have u3' := Lib.hid u3; have gb' := Lib.hid gb2
          clear z2 z3 hQ hR u2 u3 gb2
          go_wp2_with fail
          refine bodyPost_ret (v := .tuple #[.agg #[.bool vb, .slice vo vn vc], .agg #[.bool false, .slice none 0 0], .bool true]) (by simp [results, Try.results59, go_sem, e0, e1, e2, e3]) rfl ?_
          exact IDivPost.stored hQ'.out hR'.out u2'.out u3'.out (by omega) gb'.out (by omega) (by omega) (nz_of h0'.out rfl) (by have e := fdiv_even hst (u := x.natAbs) h0'.out hzr.out; rw [← xs.out, ← ys.out] at e; exact e)
        · have hrn : Hid (x.natAbs % y.natAbs ≠ 0) := Lib.hid (fun e => hr (k8'.out.ne_zero.2 e))
          have c81 := b8.out.c1
          have hri : ((rn : Int) == 0) = false := by simp [hr]
          go_wp2_with fail
          refine (refSub_any to_ ro tn tc rn rc g r _ GB.out RA.out).mono ?_
          rw [gv.out, rv.out]
          rintro e w4 ⟨hb8, h⟩
          rcases h with ⟨h, _⟩ | ⟨_, do_, dn, dc, d, rfl, d1, d2, d3, d4⟩
          · exact absurd h (Nat.not_lt.2 (Nat.le_of_lt (Nat.mod_lt _ (Nat.pos_of_ne_zero h0'.out))))
          have gbx := Lib.hid (below_then hbw.out (Nat.le_refl _) hb8)
          have a1x := Lib.hid (b8.out.later hb8); have a2x := Lib.hid (b4.out.later hb8); have a3x := Lib.hid (b5.out.later hb8)
          have QB := Lib.hid (QA.out.below hb8)
          have DA := Lib.hid (d4.arg d3 d1 d2 (small2 (k := M) (by omega) (Nat.lt_of_le_of_lt (Nat.sub_le _ _) hy'.out))); have dv := Lib.hid d4.val
          have qq := Lib.hid (show max qn 1 < 1000000 by have := k6'.out.len_le (Nat.lt_of_le_of_lt (Nat.div_le_self x.natAbs y.natAbs) hx'.out); omega)
          have qs := Lib.hid (show x.natAbs / y.natAbs + 1 < pw 1000000 by have e := Nat.lt_of_le_of_lt (Nat.div_le_self x.natAbs y.natAbs) hx'.out; exact Nat.lt_of_lt_of_le (m := pw (M + 1)) (by rw [pw_succ]; have := pw_pos M; omega) (pw_le (by omega)))
          clear hb8 d3 d4 c81 c70 c80 hr hri
          go_wp2_with fail
          have a1 := a1x.out.drew; have a2 := a2x.out.drew; have a3 := a3x.out.drew; have gb0 := gbx.out.drew
          go_region_held3 (fun w' => w'.cell? ⟨Q, 0, none⟩ = some (.bool tb))
            (first | with_reducible exact a1.c0 | with_reducible exact (a1x.out.alloc _).drew.c0 | with_reducible exact h1.c0 | with_reducible exact d1'.c0 | with_reducible exact u1.c0 | with_reducible exact (u1.other n2 _ _).c0 | with_reducible exact ((u1.other n2 _ _).other n4 _ _).c0 | go_keep)
            (first
            | (go_at_call 78; refine (refAdd_any qo (some ⟨w4.heap.size, 0, none⟩) qn qc 1 1 q (fun _ => 1) _ (QB.out.below ((Below.refl _ _).alloc (Nat.le_refl _) _).drew) ⟨Nat.le_refl _, by omega, by omega, (sl_new1 w4 _ _ 1 rfl).below (Below.refl _ _).drew, fun _ _ => (by decide : 1 < 4294967296)⟩ qq.out).mono ?_; rintro e w7 ⟨po, pn, pc, p, rfl, p1, p2, p3, p4, hb7⟩; have hb9 : Below w4.heap.size w4 w7 := (((Below.refl _ w4).alloc (Nat.le_refl _) _).drew).trans (hb7.mono (by simp)); have h1 := a1x.out.later hb9; have h2 := a2x.out.later hb9; have h3 := a3x.out.later hb9; have gbh := below_then gbx.out (Nat.le_refl _) hb9; have DB := DA.out.below hb9; have ev : val (fun _ => 1) 1 = 1 := by simp [val, pw]
               rw [ev, qv.out] at p4)
            | (go_at_call_of 69 po; refine (rNorm_any true po pn pc (sgn true (x.natAbs / y.natAbs + 1)) _ ⟨p, p4.arg p3 p1 p2 qs.out, by rw [p4.val]⟩).mono ?_; rintro e w5 ⟨vb, vo, vn, vc, rfl, hQ, hb5⟩; have d1' := h1.later hb5; have d2' := h2.later hb5; have d3' := h3.later hb5; have gb1 := below_then gbh (Nat.le_refl _) hb5; have DC := DB.below hb5)
            | (go_at_call_of 69 do_; refine (rNorm_any tb do_ dn dc (sgn tb (y.natAbs - x.natAbs % y.natAbs)) _ ⟨d, DC, by rw [dv.out]⟩).mono ?_; rintro e w6 ⟨tb', to', tn', tc', rfl, hR, hb6⟩; have u1 := d1'.later hb6; have u2 := d2'.later hb6; have u3 := d3'.later hb6; have gb2 := below_then gb1 (Nat.le_refl _) hb6; have hQ := hQ.below hb6; have q0 := u2.c0; have q1 := u2.c1; have q2 := u2.fr 0; have q3 := u2.fr 1; have q4 := u3.c0; have q5 := u3.c1; have q6 := u3.fr 0; have q7 := u3.fr 1))
          clear a1 a2 a3 gb0 h1 h2 h3 gbh DB d1' d2' d3' gb1 DC u1 p3 p4 hb7 hb9
          have z2 := (u2.set (.bool vb) (.slice vo vn vc)).other (C := w.heap.size + 3) (by omega) (.bool tb') (.slice to' tn' tc')
          have z3 := (u3.other (C := w.heap.size + 2) (by omega) (.bool vb) (.slice vo vn vc)).set (.bool tb') (.slice to' tn' tc')
          have e0 := z2.c0; have e1 := z2.c1; have e2 := z3.c0; have e3 := z3.c1
          have hQ' := Lib.hid hQ; have hR' := Lib.hid hR; have u2' := Lib.hid u2; have u3' := Lib.hid u3; have gb' := Lib.hid gb2
          clear z2 z3 q0 q1 q2 q3 q4 q5 q6 q7 hQ hR u2 u3 gb2
          go_wp2_with fail
          refine bodyPost_ret (v := .tuple #[.agg #[.bool vb, .slice vo vn vc], .agg #[.bool tb', .slice to' tn' tc'], .bool true]) (by simp [results, Try.results59, go_sem, e0, e1, e2, e3]) rfl ?_
          exact IDivPost.stored hQ'.out hR'.out u2'.out u3'.out (by omega) gb'.out (by omega) (by omega) (nz_of h0'.out rfl) (by have e := fdiv_odd hst (u := x.natAbs) h0'.out hrn.out; rw [← xs.out, ← ys.out] at e; exact e)

end Go.Proofs.Ytnnipciifjpooaa
