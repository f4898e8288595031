/-
  scrimref03.DivMod.
  scrimref03.Of; scrimlaw03.awake: chapter 3's examples hold.
  scrimref04.Top, Bot, Make.
  scrimref02.Same of any limbs; scrimref04.Same, Right.
  ratio.Mul, Div, Add, Sub.
-/
import Derived.Test.YtaepelipkkmeaaaGreatMgtA
import Derived.Test.YtaepelipkkmeaaaGreatMgtB
import Derived.Test.YtaepelipkkmeaaaGreatMgtC
import Derived.Deep.LoopGhost
import Derived.WalkKit
import Derived.Lib.BitFns
import Derived.Laws.CopyOwn
import Derived.Deep.RegionWith
import Derived.Deep.RegionHeld3
import Derived.Deep.DrawnRows
import Derived.Deep.CutRange
import Derived.Lib.Small
import Derived.Lib.Walk
import Derived.Deep.QuietTactic
import Derived.BigQuiet
import Derived.WalkSpells
import Derived.WalkLawsBesides
import Derived.Lib.Hide
set_option maxRecDepth 20000
set_option maxHeartbeats 16000000
namespace Go.Proofs.YtaepelipkkmeaaaGreat
open Go.RowKit Num
attribute [local go_sem ↓] Go.wp_at_zero Go.wp_at_succ
theorem nz_of {y : Int} {v : Nat} (h : v ≠ 0) (e : v = y.natAbs) : y ≠ 0 := by rintro rfl; exact h (by simpa using e)
set_option maxHeartbeats 4000000 in
theorem rDivMod_any (b c : Bool) (ao bo : Option Addr) (n nc m mc : Nat) (x y : Int) (w : World) (A : Whole w b ao n nc x) (B : Whole w c bo m mc y) (M : Nat) (hM : M ≤ 1000) (hx : x.natAbs < pw M) (hy : y.natAbs < pw M) :
    Calls Tryz.prog 121 #[.agg #[.bool b, .slice ao n nc], .agg #[.bool c, .slice bo m mc]] w (IDivPost x y w) := by
  have A' := Lib.hid A; have B' := Lib.hid B
  clear A B
  go_enter Tryz.func121, Tryz.ntmps121
  go_upto_region 1 with fail
  refine gen_wp (fun w' => Below w.heap.size w w' ∧ Box w' w.heap.size (.bool b) (.slice ao n nc) ∧ Box w' (w.heap.size + 1) (.bool c) (.slice bo m mc) ∧ Box w' (w.heap.size + 2) (.bool false) (.slice none 0 0) ∧ Box w' (w.heap.size + 3) (.bool false) (.slice none 0 0))
    ⟨(((((Below.refl _ w).alloc (Nat.le_refl _) _).alloc (by first | (simp; done) | (simp; omega)) _).alloc (by first | (simp; done) | (simp; omega)) _).alloc (by first | (simp; done) | (simp; omega)) _), ((((Box.new _ _ _ rfl).alloc _).alloc _).alloc _), (((Box.new _ _ _ (by first | (simp; done) | (simp; omega))).alloc _).alloc _), ((Box.new _ _ _ (by first | (simp; done) | (simp; omega))).alloc _), (Box.new _ _ _ (by first | (simp; done) | (simp; omega)))⟩ ?_
  rintro w0 ⟨hb0, x0, x1, x2, x3⟩
  go_cut [7, 8] from 14 to 17 (fun s t wx => ∃ P Q sb so sn sc tb to_ tn tc, s = .pointer (some ⟨P, 0, none⟩) ∧ t = .pointer (some ⟨Q, 0, none⟩) ∧ Box wx P (.bool sb) (.slice so sn sc) ∧ Box wx Q (.bool tb) (.slice to_ tn tc) ∧ Box wx (w.heap.size + 2) (.bool false) (.slice none 0 0) ∧ Box wx (w.heap.size + 3) (.bool false) (.slice none 0 0) ∧ 
    w.heap.size ≤ P ∧ w.heap.size ≤ Q ∧ P ≠ Q ∧ P ≠ w.heap.size + 2 ∧ Q ≠ w.heap.size + 2 ∧ P ≠ w.heap.size + 3 ∧ Q ≠ w.heap.size + 3 ∧ Right wx sb so sn sc x ∧ Right wx tb to_ tn tc y ∧ Below w.heap.size w wx)
  case first =>
    have l0 := x0.lt; have l1 := x1.lt; have l2 := x2.lt; have l3 := x3.lt; have gs0 := hb0.size
    have gb0 := hb0
    have A0 := A'.out.below gb0; have B0 := B'.out.below gb0
    go_region_held3 (fun w' => w'.cell? ⟨w.heap.size, 0, none⟩ = some (.bool b) ∧ w'.cell? ⟨w.heap.size, 1, none⟩ = some (.slice ao n nc) ∧ w'.cell? ⟨w.heap.size + 1, 0, none⟩ = some (.bool c) ∧ w'.cell? ⟨w.heap.size + 1, 1, none⟩ = some (.slice bo m mc))
      (first | with_reducible exact ⟨x0.drew.c0, x0.drew.c1, x1.drew.c0, x1.drew.c1⟩ | with_reducible exact ⟨(x0.alloc _).drew.c0, (x0.alloc _).drew.c1, (x1.alloc _).drew.c0, (x1.alloc _).drew.c1⟩ | with_reducible exact ⟨((x0.alloc _).alloc _).drew.c0, ((x0.alloc _).alloc _).drew.c1, ((x1.alloc _).alloc _).drew.c0, ((x1.alloc _).alloc _).drew.c1⟩ | with_reducible exact ⟨y0.c0, y0.c1, y1.c0, y1.c1⟩ | with_reducible exact ⟨(y0.alloc _).c0, (y0.alloc _).c1, (y1.alloc _).c0, (y1.alloc _).c1⟩ | with_reducible exact ⟨((y0.alloc _).alloc _).c0, ((y0.alloc _).alloc _).c1, ((y1.alloc _).alloc _).c0, ((y1.alloc _).alloc _).c1⟩ | with_reducible exact ⟨z0.c0, z0.c1, z1.c0, z1.c1⟩ | with_reducible exact ⟨(z0.alloc _).c0, (z0.alloc _).c1, (z1.alloc _).c0, (z1.alloc _).c1⟩ | with_reducible exact ⟨((z0.alloc _).alloc _).c0, ((z0.alloc _).alloc _).c1, ((z1.alloc _).alloc _).c0, ((z1.alloc _).alloc _).c1⟩ | with_reducible exact ⟨(z0.other (by omega) _ _).c0, (z0.other (by omega) _ _).c1, (z1.other (by omega) _ _).c0, (z1.other (by omega) _ _).c1⟩ | with_reducible exact ⟨((z0.other (by omega) _ _).alloc _).c0, ((z0.other (by omega) _ _).alloc _).c1, ((z1.other (by omega) _ _).alloc _).c0, ((z1.other (by omega) _ _).alloc _).c1⟩ | with_reducible exact ⟨((z0.other (by omega) _ _).other (by omega) _ _).c0, ((z0.other (by omega) _ _).other (by omega) _ _).c1, ((z1.other (by omega) _ _).other (by omega) _ _).c0, ((z1.other (by omega) _ _).other (by omega) _ _).c1⟩ | go_keep)
      (first
      | (go_at_call_of 95 ao; refine (rNorm_any b ao n nc x _ ?_).mono ?_; (first | with_reducible exact A0.drew | with_reducible exact (A0.alloc _).drew | with_reducible exact ((A0.alloc _).alloc _).drew); rintro e w1 ⟨sb, so, sn, sc, rfl, hR1, hb1⟩; have hc1 : Below w0.heap.size w0 w1 := (by (first | exact (Below.refl _ _).drew.trans hb1 | exact ((Below.refl _ _).alloc (by first | exact Nat.le_refl _ | (simp; done) | (simp; omega)) _).drew.trans (hb1.mono (by first | (simp; done) | (simp; omega))) | exact (((Below.refl _ _).alloc (by first | exact Nat.le_refl _ | (simp; done) | (simp; omega)) _).alloc (by first | exact Nat.le_refl _ | (simp; done) | (simp; omega)) _).drew.trans (hb1.mono (by first | (simp; done) | (simp; omega))))); have hz1 := hc1.size; have y0 := x0.later hc1; have ly0 := y0.lt; have y1 := x1.later hc1; have ly1 := y1.lt; have y2 := x2.later hc1; have ly2 := y2.lt; have y3 := x3.later hc1; have ly3 := y3.lt; have B1 := B0.below hc1; have gb1 := below_then gb0 (Nat.le_refl _) hc1; have gs1 := gb1.size; (first | (with_reducible have mm := made2' hb1; obtain ⟨m10, m11⟩ := mm) | (with_reducible have m10 := made1' hb1) | skip); (try have k10 := m10.lt); (try have k11 := m11.lt))
      | (go_at_call_of 95 bo; refine (rNorm_any c bo m mc y _ ?_).mono ?_; (first | with_reducible exact B1 | with_reducible exact (B1.alloc _) | with_reducible exact ((B1.alloc _).alloc _)); rintro e w2 ⟨tb, to_, tn, tc, rfl, hR2, hb2⟩; have hc2 : Below w1.heap.size w1 w2 := (by (first | with_reducible exact hb2 | exact ((Below.refl _ _).alloc (by first | exact Nat.le_refl _ | (simp; done) | (simp; omega)) _).trans (hb2.mono (by first | (simp; done) | (simp; omega))) | exact (((Below.refl _ _).alloc (by first | exact Nat.le_refl _ | (simp; done) | (simp; omega)) _).alloc (by first | exact Nat.le_refl _ | (simp; done) | (simp; omega)) _).trans (hb2.mono (by first | (simp; done) | (simp; omega))))); have hz2 := hc2.size; have z0 := y0.later hc2; have lz0 := z0.lt; have z1 := y1.later hc2; have lz1 := z1.lt; have z2 := y2.later hc2; have lz2 := z2.lt; have z3 := y3.later hc2; have lz3 := z3.lt; have hR1 := hR1.below hc2; have gb2 := below_then gb1 (Nat.le_refl _) hc2; have gs2 := gb2.size; (try have m10 := m10.later hc2); (try have m11 := m11.later hc2); (first | (with_reducible have mm := made2 hb2; obtain ⟨m20, m21⟩ := mm) | (with_reducible have m20 := made1 hb2) | skip); (try have k10 := m10.lt); (try have k11 := m11.lt); (try have k20 := m20.lt); (try have k21 := m21.lt); (try (have f100 := m10.c0; have f101 := m10.c1; have f102 := m10.fr 0; have f103 := m10.fr 1)); (try (have f110 := m11.c0; have f111 := m11.c1; have f112 := m11.fr 0; have f113 := m11.fr 1)); (try (have f200 := m20.c0; have f201 := m20.c1; have f202 := m20.fr 0; have f203 := m20.fr 1)); (try (have f210 := m21.c0; have f211 := m21.c1; have f212 := m21.fr 0; have f213 := m21.fr 1))))
    · go_wp2_with fail; go_meet; exact ⟨_, _, _, _, _, _, _, _, _, _, rfl, rfl, ((Box.new _ _ _ (by first | rfl | (simp; done))).alloc _), (Box.new _ _ _ (by first | rfl | (simp; done))), ((z2.alloc _).alloc _), ((z3.alloc _).alloc _), by first | omega | (simp; omega), by first | omega | (simp; omega), by first | omega | (simp; omega), by first | omega | (simp; omega), by first | omega | (simp; omega), by first | omega | (simp; omega), by first | omega | (simp; omega), ((hR1.alloc _).alloc _), ((hR2.alloc _).alloc _), (Below.alloc (Below.alloc gb2 (by first | omega | (simp; omega) | (simp; done)) _) (by first | omega | (simp; omega) | (simp; done)) _)⟩
    · go_wp2_with fail; go_meet; exact ⟨_, _, _, _, _, _, _, _, _, _, rfl, rfl, (Box.new _ _ _ (by first | rfl | (simp; done))), ((Box.new _ _ _ (by first | rfl | (simp; done))).alloc _), ((z2.alloc _).alloc _), ((z3.alloc _).alloc _), by first | omega | (simp; omega), by first | omega | (simp; omega), by first | omega | (simp; omega), by first | omega | (simp; omega), by first | omega | (simp; omega), by first | omega | (simp; omega), by first | omega | (simp; omega), ((hR1.alloc _).alloc _), ((hR2.alloc _).alloc _), (Below.alloc (Below.alloc gb2 (by first | omega | (simp; omega) | (simp; done)) _) (by first | omega | (simp; omega) | (simp; done)) _)⟩
    · go_wp2_with fail; go_meet; exact ⟨_, _, _, _, _, _, _, _, _, _, rfl, rfl, ((m20.set _ _).alloc _), (Box.new _ _ _ (by first | rfl | (simp; done))), ((z2.other (by omega) _ _).alloc _), ((z3.other (by omega) _ _).alloc _), by first | omega | (simp; omega), by first | omega | (simp; omega), by first | omega | (simp; omega), by first | omega | (simp; omega), by first | omega | (simp; omega), by first | omega | (simp; omega), by first | omega | (simp; omega), ((hR1.box m20 _ _).alloc _), ((hR2.box m20 _ _).alloc _), (Below.alloc (below_set gb2 (by omega) _ _) (by first | omega | (simp; omega) | (simp; done)) _)⟩
    · go_wp2_with fail; go_meet; exact ⟨_, _, _, _, _, _, _, _, _, _, rfl, rfl, ((m20.set _ _).other (by omega) _ _), ((m21.other (by omega) _ _).set _ _), ((z2.other (by omega) _ _).other (by omega) _ _), ((z3.other (by omega) _ _).other (by omega) _ _), by first | omega | (simp; omega), by first | omega | (simp; omega), by first | omega | (simp; omega), by first | omega | (simp; omega), by first | omega | (simp; omega), by first | omega | (simp; omega), by first | omega | (simp; omega), ((hR1.box m20 _ _).box (m21.other (by omega) _ _) _ _), ((hR2.box m20 _ _).box (m21.other (by omega) _ _) _ _), (below_set (below_set gb2 (by omega) _ _) (by omega) _ _)⟩
    · go_wp2_with fail; go_meet; exact ⟨_, _, _, _, _, _, _, _, _, _, rfl, rfl, (Box.new _ _ _ (by first | rfl | (simp; done))), ((m20.set _ _).alloc _), ((z2.other (by omega) _ _).alloc _), ((z3.other (by omega) _ _).alloc _), by first | omega | (simp; omega), by first | omega | (simp; omega), by first | omega | (simp; omega), by first | omega | (simp; omega), by first | omega | (simp; omega), by first | omega | (simp; omega), by first | omega | (simp; omega), ((hR1.box m20 _ _).alloc _), ((hR2.box m20 _ _).alloc _), (Below.alloc (below_set gb2 (by omega) _ _) (by first | omega | (simp; omega) | (simp; done)) _)⟩
    · go_wp2_with fail; go_meet; exact ⟨_, _, _, _, _, _, _, _, _, _, rfl, rfl, ((m21.set _ _).other (by omega) _ _), ((m20.other (by omega) _ _).set _ _), ((z2.other (by omega) _ _).other (by omega) _ _), ((z3.other (by omega) _ _).other (by omega) _ _), by first | omega | (simp; omega), by first | omega | (simp; omega), by first | omega | (simp; omega), by first | omega | (simp; omega), by first | omega | (simp; omega), by first | omega | (simp; omega), by first | omega | (simp; omega), ((hR1.box m21 _ _).box (m20.other (by omega) _ _) _ _), ((hR2.box m21 _ _).box (m20.other (by omega) _ _) _ _), (below_set (below_set gb2 (by omega) _ _) (by omega) _ _)⟩
    · go_wp2_with fail; go_meet; exact ⟨_, _, _, _, _, _, _, _, _, _, rfl, rfl, ((m10.set _ _).alloc _), (Box.new _ _ _ (by first | rfl | (simp; done))), ((z2.other (by omega) _ _).alloc _), ((z3.other (by omega) _ _).alloc _), by first | omega | (simp; omega), by first | omega | (simp; omega), by first | omega | (simp; omega), by first | omega | (simp; omega), by first | omega | (simp; omega), by first | omega | (simp; omega), by first | omega | (simp; omega), ((hR1.box m10 _ _).alloc _), ((hR2.box m10 _ _).alloc _), (Below.alloc (below_set gb2 (by omega) _ _) (by first | omega | (simp; omega) | (simp; done)) _)⟩
    · go_wp2_with fail; go_meet; exact ⟨_, _, _, _, _, _, _, _, _, _, rfl, rfl, ((m10.set _ _).other (by omega) _ _), ((m20.other (by omega) _ _).set _ _), ((z2.other (by omega) _ _).other (by omega) _ _), ((z3.other (by omega) _ _).other (by omega) _ _), by first | omega | (simp; omega), by first | omega | (simp; omega), by first | omega | (simp; omega), by first | omega | (simp; omega), by first | omega | (simp; omega), by first | omega | (simp; omega), by first | omega | (simp; omega), ((hR1.box m10 _ _).box (m20.other (by omega) _ _) _ _), ((hR2.box m10 _ _).box (m20.other (by omega) _ _) _ _), (below_set (below_set gb2 (by omega) _ _) (by omega) _ _)⟩
    · go_wp2_with fail; go_meet; exact ⟨_, _, _, _, _, _, _, _, _, _, rfl, rfl, ((m10.set _ _).other (by omega) _ _), ((m11.other (by omega) _ _).set _ _), ((z2.other (by omega) _ _).other (by omega) _ _), ((z3.other (by omega) _ _).other (by omega) _ _), by first | omega | (simp; omega), by first | omega | (simp; omega), by first | omega | (simp; omega), by first | omega | (simp; omega), by first | omega | (simp; omega), by first | omega | (simp; omega), by first | omega | (simp; omega), ((hR1.box m10 _ _).box (m11.other (by omega) _ _) _ _), ((hR2.box m10 _ _).box (m11.other (by omega) _ _) _ _), (below_set (below_set gb2 (by omega) _ _) (by omega) _ _)⟩
    · go_wp2_with fail; go_meet; exact ⟨_, _, _, _, _, _, _, _, _, _, rfl, rfl, (Box.new _ _ _ (by first | rfl | (simp; done))), ((m10.set _ _).alloc _), ((z2.other (by omega) _ _).alloc _), ((z3.other (by omega) _ _).alloc _), by first | omega | (simp; omega), by first | omega | (simp; omega), by first | omega | (simp; omega), by first | omega | (simp; omega), by first | omega | (simp; omega), by first | omega | (simp; omega), by first | omega | (simp; omega), ((hR1.box m10 _ _).alloc _), ((hR2.box m10 _ _).alloc _), (Below.alloc (below_set gb2 (by omega) _ _) (by first | omega | (simp; omega) | (simp; done)) _)⟩
    · go_wp2_with fail; go_meet; exact ⟨_, _, _, _, _, _, _, _, _, _, rfl, rfl, ((m20.set _ _).other (by omega) _ _), ((m10.other (by omega) _ _).set _ _), ((z2.other (by omega) _ _).other (by omega) _ _), ((z3.other (by omega) _ _).other (by omega) _ _), by first | omega | (simp; omega), by first | omega | (simp; omega), by first | omega | (simp; omega), by first | omega | (simp; omega), by first | omega | (simp; omega), by first | omega | (simp; omega), by first | omega | (simp; omega), ((hR1.box m20 _ _).box (m10.other (by omega) _ _) _ _), ((hR2.box m20 _ _).box (m10.other (by omega) _ _) _ _), (below_set (below_set gb2 (by omega) _ _) (by omega) _ _)⟩
    · go_wp2_with fail; go_meet; exact ⟨_, _, _, _, _, _, _, _, _, _, rfl, rfl, ((m11.set _ _).other (by omega) _ _), ((m10.other (by omega) _ _).set _ _), ((z2.other (by omega) _ _).other (by omega) _ _), ((z3.other (by omega) _ _).other (by omega) _ _), by first | omega | (simp; omega), by first | omega | (simp; omega), by first | omega | (simp; omega), by first | omega | (simp; omega), by first | omega | (simp; omega), by first | omega | (simp; omega), by first | omega | (simp; omega), ((hR1.box m11 _ _).box (m10.other (by omega) _ _) _ _), ((hR2.box m11 _ _).box (m10.other (by omega) _ _) _ _), (below_set (below_set gb2 (by omega) _ _) (by omega) _ _)⟩
  case rest =>
    obtain ⟨P, Q, sb, so, sn, sc, tb, to_, tn, tc, rfl, rfl, p7, p8, p4, p5, gP, gQ, hPQ, n1, n2, n3, n4, hR, hS, hbw⟩ := hcut
    obtain ⟨f, f1, f2, f3, f4, f5⟩ := hR.ex
    obtain ⟨g, g1, g2, g3, g4, g5⟩ := hS.ex
    have FA := Lib.hid (f4.few f3 f1 f2 hx (by omega)); have GA := Lib.hid (g4.few g3 g1 g2 hy (by omega))
    have fv := Lib.hid f4.val; have gv := Lib.hid g4.val
    have xs : Hid (x = sgn sb x.natAbs) := Lib.hid (by rw [f5]; exact (sgn_self x).symm)
    have ys : Hid (y = sgn tb y.natAbs) := Lib.hid (by rw [g5]; exact (sgn_self y).symm)
    have hx' := Lib.hid hx; have hy' := Lib.hid hy
    have c71 := p7.c1; have c81 := p8.c1
    have b7' := Lib.hid p7; have b8' := Lib.hid p8; have b4' := Lib.hid p4; have b5' := Lib.hid p5; have hbw' := Lib.hid hbw
    clear hR hS f3 f4 f5 g3 g4 g5 hbw x0 x1 x2 x3 hb0 f1 f2 g1 g2 p7 p8 p4 p5 hx hy
    go_wp2_with fail
    refine (refDivMod_any so to_ sn sc tn tc f g _ FA.out.1 GA.out.1 (Nat.le_trans FA.out.2 hM) (Nat.le_trans GA.out.2 hM)).mono ?_
    rw [fv.out, gv.out]
    rintro e w3 ⟨hb3, h⟩
    have b7 := Lib.hid (b7'.out.later hb3); have b8 := Lib.hid (b8'.out.later hb3); have b4 := Lib.hid (b4'.out.later hb3); have b5 := Lib.hid (b5'.out.later hb3)
    have hbw := Lib.hid (below_then hbw'.out (Nat.le_refl _) hb3)
    have GB := Lib.hid (GA.out.1.below hb3)
    clear b7' b8' b4' b5' hbw' hb3 FA GA c71 c81 A' B'
    rcases h with ⟨h0, rfl⟩ | ⟨h0, qo, qn, qc, q, ro, rn, rc, r, rfl, k1, k2, k3, k4, k5, k6, k7, k8⟩
    · have hy0 : y = 0 := by omega
      have hy0' := Lib.hid hy0
      have p0 := b4.out.c0; have p1 := b4.out.c1; have p2 := b4.out.fr 0; have p3 := b4.out.fr 1; have p4 := b5.out.c0; have p5 := b5.out.c1; have p6 := b5.out.fr 0; have p7 := b5.out.fr 1
      have z2 := (b4.out.set (.bool false) (.slice none 0 0)).other (C := w.heap.size + 3) (by omega) (.bool false) (.slice none 0 0)
      have z3 := (b5.out.other (C := w.heap.size + 2) (by omega) (.bool false) (.slice none 0 0)).set (.bool false) (.slice none 0 0)
      have e0 := z2.c0; have e1 := z2.c1; have e2 := z3.c0; have e3 := z3.c1
      clear h0 hy0 z2 z3
      go_wp2_with fail
      refine bodyPost_ret (v := .tuple #[.agg #[.bool false, .slice none 0 0], .agg #[.bool false, .slice none 0 0], .bool false]) (by simp [results, Tryz.results121, go_sem, e0, e1, e2, e3]) rfl ?_
      exact ⟨below_set (below_set hbw.out (by omega) _ _) (by omega) _ _, .inl ⟨hy0'.out, rfl⟩⟩
    · have h0' := Lib.hid h0; have k5' := Lib.hid k5; have k7' := Lib.hid k7
      have k6' := Lib.hid k6; have k8' := Lib.hid k8
      have hqb := Lib.hid (small2 (k := M) (by omega) (Nat.lt_of_le_of_lt (Nat.div_le_self x.natAbs y.natAbs) hx'.out))
      have hrb := Lib.hid (small2 (k := M) (by omega) (Nat.lt_of_le_of_lt (Nat.mod_le x.natAbs y.natAbs) hx'.out))
      have QA := Lib.hid (k6.arg k5 k1 k2 hqb.out); have RA := Lib.hid (k8.arg k7 k3 k4 hrb.out)
      have qv := Lib.hid k6.val; have rv := Lib.hid k8.val
      have c70 := b7.out.c0; have c80 := b8.out.c0
      clear h0 k5 k6 k7 k8
      by_cases hst : sb = tb
      · subst hst
        go_wp2_with fail
        have a0 := b7.out.drew; have a2 := b4.out.drew; have a3 := b5.out.drew; have gb0 := hbw.out.drew
        go_region_held3 (fun w' => w'.cell? ⟨P, 0, none⟩ = some (.bool sb))
          (first | with_reducible exact a0.c0 | with_reducible exact d0.c0 | with_reducible exact u0.c0 | with_reducible exact (u0.other n1 _ _).c0 | with_reducible exact ((u0.other n1 _ _).other n3 _ _).c0 | go_keep)
          (first
          | (go_at_call_of 95 qo; refine (rNorm_any false qo qn qc (sgn false (x.natAbs / y.natAbs)) _ ⟨q, QA.out.below (Below.refl _ _).drew, by rw [qv.out]⟩).mono ?_; rintro e w5 ⟨vb, vo, vn, vc, rfl, hQ, hb5⟩; have d0 := a0.later hb5; have d2 := a2.later hb5; have d3 := a3.later hb5; have gb1 := below_then gb0 (Nat.le_refl _) hb5; have RB := RA.out.below ((Below.refl _ _).drew.trans hb5))
          | (go_at_call_of 95 ro; refine (rNorm_any sb ro rn rc (sgn sb (x.natAbs % y.natAbs)) _ ⟨r, RB, by rw [rv.out]⟩).mono ?_; rintro e w6 ⟨tb', to', tn', tc', rfl, hR, hb6⟩; have u0 := d0.later hb6; have u2 := d2.later hb6; have u3 := d3.later hb6; have gb2 := below_then gb1 (Nat.le_refl _) hb6; have hQ := hQ.below hb6; have q0 := u2.c0; have q1 := u2.c1; have q2 := u2.fr 0; have q3 := u2.fr 1; have q4 := u3.c0; have q5 := u3.c1; have q6 := u3.fr 0; have q7 := u3.fr 1))
        clear a0 a2 a3 gb0 d0 d2 d3 gb1 RB u0
        have z2 := (u2.set (.bool vb) (.slice vo vn vc)).other (C := w.heap.size + 3) (by omega) (.bool tb') (.slice to' tn' tc')
        have z3 := (u3.other (C := w.heap.size + 2) (by omega) (.bool vb) (.slice vo vn vc)).set (.bool tb') (.slice to' tn' tc')
        have e0 := z2.c0; have e1 := z2.c1; have e2 := z3.c0; have e3 := z3.c1
        have hQ' := Lib.hid hQ; have hR' := Lib.hid hR; have u2' := Lib.hid u2; have u3' := Lib.hid u3; have gb' := Lib.hid gb2
        clear z2 z3 q0 q1 q2 q3 q4 q5 q6 q7 hQ hR u2 u3 gb2
        go_wp2_with fail
        refine bodyPost_ret (v := .tuple #[.agg #[.bool vb, .slice vo vn vc], .agg #[.bool tb', .slice to' tn' tc'], .bool true]) (by simp [results, Tryz.results121, go_sem, e0, e1, e2, e3]) rfl ?_
        exact IDivPost.stored hQ'.out hR'.out u2'.out u3'.out (by omega) gb'.out (by omega) (by omega) (nz_of h0'.out rfl) (by have e := fdiv_same sb (u := x.natAbs) h0'.out; rw [← xs.out, ← ys.out] at e; exact e)
      · have hst' : (sb == tb) = false := by simp [hst]
        by_cases hr : rn = 0
        · subst hr
          have hzr : Hid (x.natAbs % y.natAbs = 0) := Lib.hid (k8'.out.ne_zero.1 rfl)
          go_wp2_with fail
          refine (rNorm_any true qo qn qc (sgn true (x.natAbs / y.natAbs)) _ ⟨q, QA.out, by rw [qv.out]⟩).mono ?_
          rintro e w5 ⟨vb, vo, vn, vc, rfl, hQ, hb5⟩
          have u2 := b4.out.later hb5; have u3 := b5.out.later hb5; have gb2 := below_then hbw.out (Nat.le_refl _) hb5
          have hR : Right w5 false none 0 0 (sgn tb (x.natAbs % y.natAbs)) := ⟨fun _ => 0, Nat.le_refl _, by omega, .inl rfl, by rw [hzr.out, sgn_abs]; exact canon_zero _, by rw [hzr.out]; cases tb <;> rfl⟩
          have q0 := u2.c0; have q1 := u2.c1; have q2 := u2.fr 0; have q3 := u2.fr 1; have q4 := u3.c0; have q5 := u3.c1; have q6 := u3.fr 0; have q7 := u3.fr 1
          clear hb5
          have z2 := (u2.set (.bool vb) (.slice vo vn vc)).other (C := w.heap.size + 3) (by omega) (.bool false) (.slice none 0 0)
          have z3 := (u3.other (C := w.heap.size + 2) (by omega) (.bool vb) (.slice vo vn vc)).set (.bool false) (.slice none 0 0)
          have e0 := z2.c0; have e1 := z2.c1; have e2 := z3.c0; have e3 := z3.c1
          have hQ' := Lib.hid hQ; have hR' := Lib.hid hR; have u2' := Lib.hid u2; have u3' := Lib.hid u3; have gb' := Lib.hid gb2
          clear z2 z3 hQ hR u2 u3 gb2
          go_wp2_with fail
          refine bodyPost_ret (v := .tuple #[.agg #[.bool vb, .slice vo vn vc], .agg #[.bool false, .slice none 0 0], .bool true]) (by simp [results, Tryz.results121, go_sem, e0, e1, e2, e3]) rfl ?_
          exact IDivPost.stored hQ'.out hR'.out u2'.out u3'.out (by omega) gb'.out (by omega) (by omega) (nz_of h0'.out rfl) (by have e := fdiv_even hst (u := x.natAbs) h0'.out hzr.out; rw [← xs.out, ← ys.out] at e; exact e)
        · have hrn : Hid (x.natAbs % y.natAbs ≠ 0) := Lib.hid (fun e => hr (k8'.out.ne_zero.2 e))
          have c81 := b8.out.c1
          have hri : ((rn : Int) == 0) = false := by simp [hr]
          go_wp2_with fail
          refine (refSub_any to_ ro tn tc rn rc g r _ GB.out RA.out).mono ?_
          rw [gv.out, rv.out]
          rintro e w4 ⟨hb8, h⟩
          rcases h with ⟨h, _⟩ | ⟨_, do_, dn, dc, d, rfl, d1, d2, d3, d4⟩
          · exact absurd h (Nat.not_lt.2 (Nat.le_of_lt (Nat.mod_lt _ (Nat.pos_of_ne_zero h0'.out))))
          have gbx := Lib.hid (below_then hbw.out (Nat.le_refl _) hb8)
          have a1x := Lib.hid (b8.out.later hb8); have a2x := Lib.hid (b4.out.later hb8); have a3x := Lib.hid (b5.out.later hb8)
          have QB := Lib.hid (QA.out.below hb8)
          have DA := Lib.hid (d4.arg d3 d1 d2 (small2 (k := M) (by omega) (Nat.lt_of_le_of_lt (Nat.sub_le _ _) hy'.out))); have dv := Lib.hid d4.val
          have qq := Lib.hid (show max qn 1 < 1000000 by have := k6'.out.len_le (Nat.lt_of_le_of_lt (Nat.div_le_self x.natAbs y.natAbs) hx'.out); omega)
          have qs := Lib.hid (show x.natAbs / y.natAbs + 1 < pw 1000000 by have e := Nat.lt_of_le_of_lt (Nat.div_le_self x.natAbs y.natAbs) hx'.out; exact Nat.lt_of_lt_of_le (m := pw (M + 1)) (by rw [pw_succ]; have := pw_pos M; omega) (pw_le (by omega)))
          clear hb8 d3 d4 c81 c70 c80 hr hri
          go_wp2_with fail
          have a1 := a1x.out.drew; have a2 := a2x.out.drew; have a3 := a3x.out.drew; have gb0 := gbx.out.drew
          go_region_held3 (fun w' => w'.cell? ⟨Q, 0, none⟩ = some (.bool tb))
            (first | with_reducible exact a1.c0 | with_reducible exact (a1x.out.alloc _).drew.c0 | with_reducible exact h1.c0 | with_reducible exact d1'.c0 | with_reducible exact u1.c0 | with_reducible exact (u1.other n2 _ _).c0 | with_reducible exact ((u1.other n2 _ _).other n4 _ _).c0 | go_keep)
            (first
            | (go_at_call 141; refine (refAdd_any qo (some ⟨w4.heap.size, 0, none⟩) qn qc 1 1 q (fun _ => 1) _ (QB.out.below ((Below.refl _ _).alloc (Nat.le_refl _) _).drew) ⟨Nat.le_refl _, by omega, by omega, (sl_new1 w4 _ _ 1 rfl).below (Below.refl _ _).drew, fun _ _ => (by decide : 1 < 4294967296)⟩ qq.out).mono ?_; rintro e w7 ⟨po, pn, pc, p, rfl, p1, p2, p3, p4, hb7⟩; have hb9 : Below w4.heap.size w4 w7 := (((Below.refl _ w4).alloc (Nat.le_refl _) _).drew).trans (hb7.mono (by simp)); have h1 := a1x.out.later hb9; have h2 := a2x.out.later hb9; have h3 := a3x.out.later hb9; have gbh := below_then gbx.out (Nat.le_refl _) hb9; have DB := DA.out.below hb9; have ev : val (fun _ => 1) 1 = 1 := by simp [val, pw]
               rw [ev, qv.out] at p4)
            | (go_at_call_of 95 po; refine (rNorm_any true po pn pc (sgn true (x.natAbs / y.natAbs + 1)) _ ⟨p, p4.arg p3 p1 p2 qs.out, by rw [p4.val]⟩).mono ?_; rintro e w5 ⟨vb, vo, vn, vc, rfl, hQ, hb5⟩; have d1' := h1.later hb5; have d2' := h2.later hb5; have d3' := h3.later hb5; have gb1 := below_then gbh (Nat.le_refl _) hb5; have DC := DB.below hb5)
            | (go_at_call_of 95 do_; refine (rNorm_any tb do_ dn dc (sgn tb (y.natAbs - x.natAbs % y.natAbs)) _ ⟨d, DC, by rw [dv.out]⟩).mono ?_; rintro e w6 ⟨tb', to', tn', tc', rfl, hR, hb6⟩; have u1 := d1'.later hb6; have u2 := d2'.later hb6; have u3 := d3'.later hb6; have gb2 := below_then gb1 (Nat.le_refl _) hb6; have hQ := hQ.below hb6; have q0 := u2.c0; have q1 := u2.c1; have q2 := u2.fr 0; have q3 := u2.fr 1; have q4 := u3.c0; have q5 := u3.c1; have q6 := u3.fr 0; have q7 := u3.fr 1))
          clear a1 a2 a3 gb0 h1 h2 h3 gbh DB d1' d2' d3' gb1 DC u1 p3 p4 hb7 hb9
          have z2 := (u2.set (.bool vb) (.slice vo vn vc)).other (C := w.heap.size + 3) (by omega) (.bool tb') (.slice to' tn' tc')
          have z3 := (u3.other (C := w.heap.size + 2) (by omega) (.bool vb) (.slice vo vn vc)).set (.bool tb') (.slice to' tn' tc')
          have e0 := z2.c0; have e1 := z2.c1; have e2 := z3.c0; have e3 := z3.c1
          have hQ' := Lib.hid hQ; have hR' := Lib.hid hR; have u2' := Lib.hid u2; have u3' := Lib.hid u3; have gb' := Lib.hid gb2
          clear z2 z3 q0 q1 q2 q3 q4 q5 q6 q7 hQ hR u2 u3 gb2
          go_wp2_with fail
          refine bodyPost_ret (v := .tuple #[.agg #[.bool vb, .slice vo vn vc], .agg #[.bool tb', .slice to' tn' tc'], .bool true]) (by simp [results, Tryz.results121, go_sem, e0, e1, e2, e3]) rfl ?_
          exact IDivPost.stored hQ'.out hR'.out u2'.out u3'.out (by omega) gb'.out (by omega) (by omega) (nz_of h0'.out rfl) (by have e := fdiv_odd hst (u := x.natAbs) h0'.out hrn.out; rw [← xs.out, ← ys.out] at e; exact e)
end Go.Proofs.YtaepelipkkmeaaaGreat
namespace Go.Proofs.YtaepelipkkmeaaaGreat
open Go.RowKit Num
attribute [local go_sem ↓] Go.wp_at_zero Go.wp_at_succ
theorem sl_one {w : World} {B : Nat} {v : Int} {x : Nat} (t : TypeId) (h : B = w.heap.size) (hv : v = x) : Sl (w.alloc (.cells #[.int .u32 v] t)) (some ⟨B, 0, none⟩) 1 (fun _ => x) := by
 subst h
 exact sl_new1 w t v x hv
theorem rOf_any (n : Int) (w : World) (h0 : -9223372036854775808 ≤ n) (h1 : n ≤ 9223372036854775807) :
  Calls Tryz.prog 97 #[.int .i64 n] w (IntPost n w) := by
 by_cases hn : 0 ≤ n
 ·obtain ⟨v, rfl⟩ := Int.eq_ofNat_of_zero_le hn
  go_enter Tryz.func97, Tryz.ntmps97
  go_wp2_with fail
  refine gen_calls (fun w' => Below w.heap.size w w' ∧ Box w' w.heap.size (.bool false) (.slice none 0 0) ∧ Sl w' (some ⟨w.heap.size + 1, 0, none⟩) 2 (put (fun _ => v % 4294967296) 1 (v / 4294967296)))
   ⟨((Below.refl _ w).alloc (Nat.le_refl _) _).alloc (by simp) _, (Box.new _ _ _ rfl).alloc _, sl_two _ (by simp) (by omega) (by omega)⟩ ?_
  rintro w0 ⟨hb0, x0, hs⟩
  refine (rNorm_any false (some ⟨w.heap.size + 1, 0, none⟩) 2 2 v _ ⟨_, ⟨Nat.le_refl _, by omega, by omega, hs, lim_two (by omega) (by omega)⟩, by rw [val_pair, Nat.mod_add_div]; rfl⟩).mono ?_
  rintro e w3 ⟨sb, so, sn, sc, rfl, hR, hb4⟩
  have z2 := x0.later hb4
  have q1 := z2.c0; have q2 := z2.c1; have q3 := z2.fr 0; have q4 := z2.fr 1
  have hb2 := below_then hb0 (Nat.le_refl _) hb4
  have z3 := z2.set (.bool sb) (.slice so sn sc)
  have e0 := z3.c0; have e1 := z3.c1
  have hR' := Lib.hid hR; have z2' := Lib.hid z2; have hb2' := Lib.hid hb2
  clear hR z2 hb2 hb4 hs x0 hb0 z3
  go_wp2_with fail
  refine bodyPost_ret (v := .agg #[.bool sb, .slice so sn sc]) (by simp [results, Tryz.results97, go_sem, e0, e1]) rfl ?_
  exact IntPost.stored hR'.out z2'.out hb2'.out (by omega)
 ·obtain ⟨v, hv⟩ : ∃ v : Nat, n = -1 - (v : Int) := ⟨(-1 - n).toNat, by omega⟩
  subst hv
  go_enter Tryz.func97, Tryz.ntmps97
  go_wp2_with fail
  refine gen_calls (fun w' => Below w.heap.size w w' ∧ Box w' w.heap.size (.bool false) (.slice none 0 0) ∧ Sl w' (some ⟨w.heap.size + 1, 0, none⟩) 2 (put (fun _ => v % 4294967296) 1 (v / 4294967296)) ∧ Sl w' (some ⟨w.heap.size + 1 + 1, 0, none⟩) 1 (fun _ => 1))
   ⟨(((Below.refl _ w).alloc (Nat.le_refl _) _).alloc (by simp) _).alloc (by simp; omega) _, ((Box.new _ _ _ rfl).alloc _).alloc _, (sl_two _ (by simp) (by omega) (by omega)).below ((Below.refl _ _).alloc (Nat.le_refl _) _), sl_one _ (by simp) rfl⟩ ?_
  rintro w0 ⟨hb0, x0, hs, ht⟩
  refine (refAdd_any (some ⟨w.heap.size + 1, 0, none⟩) (some ⟨w.heap.size + 1 + 1, 0, none⟩) 2 2 1 1 _ (fun _ => 1) _ ⟨Nat.le_refl _, by omega, by omega, hs, lim_two (by omega) (by omega)⟩ ⟨Nat.le_refl _, by omega, by omega, ht, fun _ _ => (by decide : 1 < 4294967296)⟩ (by decide)).mono ?_
  have ev : val (fun _ => 1) 1 = 1 := by simp [val, pw]
  rw [val_pair, Nat.mod_add_div, ev]
  rintro e w1 ⟨co, cn, cc, c, rfl, g1, g2, g3, g4, hb⟩
  have y0 := Lib.hid (x0.later hb)
  have hb1 := Lib.hid (below_then hb0 (Nat.le_refl _) hb)
  have hW := Lib.hid (show Whole w1 true co cn cc (-1 - (v : Int)) from ⟨c, g4.arg g3 g1 g2 (Nat.lt_of_lt_of_le (m := pw 3) (by have e : pw 3 = 79228162514264337593543950336 := rfl; omega) (pw_le (by omega))), by rw [g4.val, sgn_true]; omega⟩)
  clear g3 g4 hb hs ht x0 hb0 ev
  go_wp2_with fail
  refine (rNorm_any true co cn cc (-1 - (v : Int)) _ hW.out).mono ?_
  rintro e w3 ⟨sb, so, sn, sc, rfl, hR, hb4⟩
  have z2 := y0.out.later hb4
  have q1 := z2.c0; have q2 := z2.c1; have q3 := z2.fr 0; have q4 := z2.fr 1
  have hb2 := below_then hb1.out (Nat.le_refl _) hb4
  have z3 := z2.set (.bool sb) (.slice so sn sc)
  have e0 := z3.c0; have e1 := z3.c1
  have hR' := Lib.hid hR; have z2' := Lib.hid z2; have hb2' := Lib.hid hb2
  clear hR z2 hb2 hb4 z3
  go_wp2_with fail
  refine bodyPost_ret (v := .agg #[.bool sb, .slice so sn sc]) (by simp [results, Tryz.results97, go_sem, e0, e1]) rfl ?_
  exact IntPost.stored hR'.out z2'.out hb2'.out (by omega)
theorem pw3 : pw 3 = 79228162514264337593543950336 := rfl
theorem int_small {n : Int} (h0 : -9223372036854775808 ≤ n) (h1 : n ≤ 9223372036854775807) : n.natAbs < pw 3 := by rw [pw3]; omega
end Go.Proofs.YtaepelipkkmeaaaGreat
namespace Go.Proofs.YtaepelipkkmeaaaGreat
open Go.RowKit Num
attribute [local go_sem ↓] Go.wp_at_zero Go.wp_at_succ
theorem rTop_any (ab : Bool) (ap aq : Option Addr) (an ac am ae : Nat) (P : Int) (w : World) (A : Whole w ab ap an ac P) :
  Calls Tryz.prog 41 #[.agg #[.bool ab, .slice ap an ac, .slice aq am ae]] w (IntPost P w) := by
 have A' := Lib.hid A
 clear A
 go_enter Tryz.func41, Tryz.ntmps41
 go_wp2_with fail
 refine gen_calls (fun w' => Below w.heap.size w w' ∧ Box3 w' w.heap.size (.bool ab) (.slice ap an ac) (.slice aq am ae) ∧ Box w' (w.heap.size + 1) (.bool false) (.slice none 0 0))
  ⟨(((Below.refl _ _).alloc (Nat.le_refl _) _).alloc (by simp <;> omega) _), ((Box3.new _ _ _ _ rfl).alloc _), (Box.new _ _ _ (by simp <;> omega))⟩ ?_
 rintro w0 ⟨hb0, x0, x1⟩
 refine (rNorm_any ab ap an ac P _ (A'.out.below hb0)).mono ?_
 rintro e w1 ⟨eb, eo, en, ec, rfl, hR, hb⟩
 have bb := Lib.hid (below_then hb0 (Nat.le_refl _) hb)
 have x1 := x1.later hb
 have x1' := Lib.hid x1; have hR' := Lib.hid hR
 have q0 := x1.c0; have q1 := x1.c1; have q2 := x1.fr 0; have q3 := x1.fr 1
 have z := x1.set (.bool eb) (.slice eo en ec)
 have e0 := z.c0; have e1 := z.c1
 clear x0 x1 hb hb0 z hR
 go_wp2_with fail
 refine bodyPost_ret (v := .agg #[.bool eb, .slice eo en ec]) (by simp [results, Tryz.results41, go_sem, e0, e1]) rfl ?_
 exact IntPost.stored hR'.out x1'.out bb.out (by omega)
theorem rBot_any (ab : Bool) (ap aq : Option Addr) (an ac am ae : Nat) (Q : Int) (w : World) (A : Whole w false aq am ae Q) :
  Calls Tryz.prog 43 #[.agg #[.bool ab, .slice ap an ac, .slice aq am ae]] w (IntPost Q w) := by
 have A' := Lib.hid A
 clear A
 go_enter Tryz.func43, Tryz.ntmps43
 go_wp2_with fail
 refine gen_calls (fun w' => Below w.heap.size w w' ∧ Box3 w' w.heap.size (.bool ab) (.slice ap an ac) (.slice aq am ae) ∧ Box w' (w.heap.size + 1) (.bool false) (.slice none 0 0))
  ⟨(((Below.refl _ _).alloc (Nat.le_refl _) _).alloc (by simp <;> omega) _), ((Box3.new _ _ _ _ rfl).alloc _), (Box.new _ _ _ (by simp <;> omega))⟩ ?_
 rintro w0 ⟨hb0, x0, x1⟩
 refine (rNorm_any false aq am ae Q _ (A'.out.below hb0)).mono ?_
 rintro e w1 ⟨eb, eo, en, ec, rfl, hR, hb⟩
 have bb := Lib.hid (below_then hb0 (Nat.le_refl _) hb)
 have x1 := x1.later hb
 have x1' := Lib.hid x1; have hR' := Lib.hid hR
 have q0 := x1.c0; have q1 := x1.c1; have q2 := x1.fr 0; have q3 := x1.fr 1
 have z := x1.set (.bool eb) (.slice eo en ec)
 have e0 := z.c0; have e1 := z.c1
 clear x0 x1 hb hb0 z hR
 go_wp2_with fail
 refine bodyPost_ret (v := .agg #[.bool eb, .slice eo en ec]) (by simp [results, Tryz.results43, go_sem, e0, e1]) rfl ?_
 exact IntPost.stored hR'.out x1'.out bb.out (by omega)
theorem sign_differ {p q : Int} (hp : p ≠ 0) (hq : q ≠ 0) : decide (p.sign * q.sign < 0) = !(decide (p < 0) == decide (q < 0)) := by
 rcases Int.lt_or_gt_of_ne hp with h | h <;> rcases Int.lt_or_gt_of_ne hq with k | k
 ·rw [Int.sign_eq_neg_one_of_neg h, Int.sign_eq_neg_one_of_neg k]; simp [h, k]
 ·rw [Int.sign_eq_neg_one_of_neg h, Int.sign_eq_one_of_pos k]; simp [h, Int.not_lt.2 (Int.le_of_lt k)]
 ·rw [Int.sign_eq_one_of_pos h, Int.sign_eq_neg_one_of_neg k]; simp [k, Int.not_lt.2 (Int.le_of_lt h)]
 ·rw [Int.sign_eq_one_of_pos h, Int.sign_eq_one_of_pos k]; simp [Int.not_lt.2 (Int.le_of_lt h), Int.not_lt.2 (Int.le_of_lt k)]
theorem rMake_any (b c : Bool) (ao bo : Option Addr) (n nc m mc : Nat) (p q : Int) (w : World) (A : Whole w b ao n nc p) (B : Whole w c bo m mc q) (L : Nat) (hL : L ≤ 1000) (hp : p.natAbs < pw L) (hq : q.natAbs < pw L) :
  Calls Tryz.prog 42 #[.agg #[.bool b, .slice ao n nc], .agg #[.bool c, .slice bo m mc]] w (MakePost p q w) := by
 have A' := Lib.hid A; have B' := Lib.hid B; have hL' := Lib.hid hL; have hp' := Lib.hid hp; have hq' := Lib.hid hq
 clear A B hL hp hq
 go_enter Tryz.func42, Tryz.ntmps42
 go_wp2_with fail
 refine gen_wp (fun w' => Below w.heap.size w w' ∧ Box w' w.heap.size (.bool b) (.slice ao n nc) ∧ Box w' (w.heap.size + 1) (.bool c) (.slice bo m mc) ∧ Box3 w' (w.heap.size + 2) (.bool false) (.slice none 0 0) (.slice none 0 0))
  ⟨((((Below.refl _ _).alloc (Nat.le_refl _) _).alloc (by simp <;> omega) _).alloc (by simp <;> omega) _), (((Box.new _ _ _ rfl).alloc _).alloc _), ((Box.new _ _ _ (by simp <;> omega)).alloc _), (Box3.new _ _ _ _ (by simp <;> omega))⟩ ?_
 rintro u0 ⟨bb, x0, x1, x2⟩
 have A := A'.out.below bb; have B := B'.out.below bb
 clear A' B'
 go_cut [6, 7] from 19 to 67 (fun s t wx => ∃ Y Z eb eo en ec fb fo fn fc, s = .pointer (some ⟨Y, 0, none⟩) ∧ t = .pointer (some ⟨Z, 0, none⟩) ∧ Box wx Y (.bool eb) (.slice eo en ec) ∧ Box wx Z (.bool fb) (.slice fo fn fc) ∧ Box3 wx (w.heap.size + 2) (.bool false) (.slice none 0 0) (.slice none 0 0) ∧ Right wx eb eo en ec p ∧ Right wx fb fo fn fc q ∧ Below w.heap.size w wx)
 case first =>
  have lx0 := x0.lt
  have lx1 := x1.lt
  have lx2 := x2.lt
  have bs := bb.size
  have sa0 := True.intro
  go_region_held3 (fun w' => w'.cell? ⟨w.heap.size, 0, none⟩ = some (.bool b) ∧ w'.cell? ⟨w.heap.size, 1, none⟩ = some (.slice ao n nc) ∧ w'.cell? ⟨(w.heap.size + 1), 0, none⟩ = some (.bool c) ∧ w'.cell? ⟨(w.heap.size + 1), 1, none⟩ = some (.slice bo m mc))
   (first | with_reducible exact ⟨(x0.drew).c0, (x0.drew).c1, (x1.drew).c0, (x1.drew).c1⟩ | with_reducible exact ⟨((x0.alloc _).drew).c0, ((x0.alloc _).drew).c1, ((x1.alloc _).drew).c0, ((x1.alloc _).drew).c1⟩ | with_reducible exact ⟨(((x0.alloc _).alloc _).drew).c0, (((x0.alloc _).alloc _).drew).c1, (((x1.alloc _).alloc _).drew).c0, (((x1.alloc _).alloc _).drew).c1⟩ | with_reducible exact ⟨x0.c0, x0.c1, x1.c0, x1.c1⟩ | with_reducible exact ⟨(x0.alloc _).c0, (x0.alloc _).c1, (x1.alloc _).c0, (x1.alloc _).c1⟩ | with_reducible exact ⟨((x0.alloc _).alloc _).c0, ((x0.alloc _).alloc _).c1, ((x1.alloc _).alloc _).c0, ((x1.alloc _).alloc _).c1⟩ | with_reducible exact ⟨(x0.other (by omega) _ _).c0, (x0.other (by omega) _ _).c1, (x1.other (by omega) _ _).c0, (x1.other (by omega) _ _).c1⟩ | with_reducible exact ⟨((x0.other (by omega) _ _).alloc _).c0, ((x0.other (by omega) _ _).alloc _).c1, ((x1.other (by omega) _ _).alloc _).c0, ((x1.other (by omega) _ _).alloc _).c1⟩ | with_reducible exact ⟨((x0.other (by omega) _ _).other (by omega) _ _).c0, ((x0.other (by omega) _ _).other (by omega) _ _).c1, ((x1.other (by omega) _ _).other (by omega) _ _).c0, ((x1.other (by omega) _ _).other (by omega) _ _).c1⟩ | go_keep)
   (first
   | (go_at_call 95; clear sa0; refine (rNorm_any b ao n nc p _ ?_).mono ?_; (first | with_reducible exact (A.drew) | with_reducible exact ((A.alloc _).drew) | with_reducible exact (((A.alloc _).alloc _).drew)); rintro e u1 ⟨eb, eo, en, ec, rfl, h1, hb⟩; have hc : Below u0.heap.size u0 u1 := (by first | exact (Below.refl _ _).drew.trans hb | exact ((Below.refl _ _).alloc (by first | exact Nat.le_refl _ | (simp; done) | (simp; omega)) _).drew.trans (hb.mono (by simp <;> omega)) | exact (((Below.refl _ _).alloc (by first | exact Nat.le_refl _ | (simp; done) | (simp; omega)) _).alloc (by first | exact Nat.le_refl _ | (simp; done) | (simp; omega)) _).drew.trans (hb.mono (by simp <;> omega))); have hz0 := hc.size; have x0 := x0.later hc; have x1 := x1.later hc; have x2 := x2.later hc; have A := A.below hc; have B := B.below hc; have bb := below_then bb (Nat.le_refl _) hc; (first | (with_reducible have mm := made2' hb; obtain ⟨m10, m11⟩ := mm) | (with_reducible have m10 := made1' hb) | skip); (try have k10 := m10.lt); (try have k11 := m11.lt); clear hb hc; have sa1 := True.intro)
   | (go_at_call 95; clear sa1; refine (rNorm_any c bo m mc q _ ?_).mono ?_; (first | with_reducible exact B | with_reducible exact (B.alloc _) | with_reducible exact ((B.alloc _).alloc _)); rintro e u2 ⟨fb, fo, fn, fc, rfl, h2, hb⟩; have hc : Below u1.heap.size u1 u2 := (by first | with_reducible exact hb | exact ((Below.refl _ _).alloc (by first | exact Nat.le_refl _ | (simp; done) | (simp; omega)) _).trans (hb.mono (by simp <;> omega)) | exact (((Below.refl _ _).alloc (by first | exact Nat.le_refl _ | (simp; done) | (simp; omega)) _).alloc (by first | exact Nat.le_refl _ | (simp; done) | (simp; omega)) _).trans (hb.mono (by simp <;> omega))); have hz1 := hc.size; have x0 := x0.later hc; have x1 := x1.later hc; have x2 := x2.later hc; have A := A.below hc; have B := B.below hc; have h1 := h1.below hc; have bb := below_then bb (Nat.le_refl _) hc; (try have m10 := m10.later hc); (try have m11 := m11.later hc); (first | (with_reducible have mm := made2 hb; obtain ⟨m20, m21⟩ := mm) | (with_reducible have m20 := made1 hb) | skip); (try have k10 := m10.lt); (try have k11 := m11.lt); (try have k20 := m20.lt); (try have k21 := m21.lt); (try (have f100 := m10.c0; have f101 := m10.c1; have f102 := m10.fr 0; have f103 := m10.fr 1)); (try (have f110 := m11.c0; have f111 := m11.c1; have f112 := m11.fr 0; have f113 := m11.fr 1)); (try (have f200 := m20.c0; have f201 := m20.c1; have f202 := m20.fr 0; have f203 := m20.fr 1)); (try (have f210 := m21.c0; have f211 := m21.c1; have f212 := m21.fr 0; have f213 := m21.fr 1)); clear hb hc; have sa2 := True.intro))
  ·go_wp2_with fail; go_meet; exact ⟨_, _, eb, eo, en, ec, fb, fo, fn, fc, rfl, rfl, ((Box.new _ _ _ (by first | (simp; done) | rfl)).alloc _), (Box.new _ _ _ (by first | (simp; done) | rfl)), ((x2.alloc _).alloc _), ((h1.alloc _).alloc _), ((h2.alloc _).alloc _), (Below.alloc (Below.alloc bb (by first | omega | simp <;> omega) _) (by first | omega | simp <;> omega) _)⟩
  ·go_wp2_with fail; go_meet; exact ⟨_, _, eb, eo, en, ec, fb, fo, fn, fc, rfl, rfl, (Box.new _ _ _ (by first | (simp; done) | rfl)), ((Box.new _ _ _ (by first | (simp; done) | rfl)).alloc _), ((x2.alloc _).alloc _), ((h1.alloc _).alloc _), ((h2.alloc _).alloc _), (Below.alloc (Below.alloc bb (by first | omega | simp <;> omega) _) (by first | omega | simp <;> omega) _)⟩
  ·go_wp2_with fail; go_meet; exact ⟨_, _, eb, eo, en, ec, fb, fo, fn, fc, rfl, rfl, ((m20.set _ _).alloc _), (Box.new _ _ _ (by first | (simp; done) | rfl)), ((x2.other (by omega) _ _).alloc _), ((h1.box m20 _ _).alloc _), ((h2.box m20 _ _).alloc _), (Below.alloc (below_set bb (by omega) _ _) (by first | omega | simp <;> omega) _)⟩
  ·go_wp2_with fail; go_meet; exact ⟨_, _, eb, eo, en, ec, fb, fo, fn, fc, rfl, rfl, ((m20.set _ _).other (by omega) _ _), ((m21.other (by omega) _ _).set _ _), ((x2.other (by omega) _ _).other (by omega) _ _), ((h1.box m20 _ _).box (m21.other (by omega) _ _) _ _), ((h2.box m20 _ _).box (m21.other (by omega) _ _) _ _), (below_set (below_set bb (by omega) _ _) (by omega) _ _)⟩
  ·go_wp2_with fail; go_meet; exact ⟨_, _, eb, eo, en, ec, fb, fo, fn, fc, rfl, rfl, (Box.new _ _ _ (by first | (simp; done) | rfl)), ((m20.set _ _).alloc _), ((x2.other (by omega) _ _).alloc _), ((h1.box m20 _ _).alloc _), ((h2.box m20 _ _).alloc _), (Below.alloc (below_set bb (by omega) _ _) (by first | omega | simp <;> omega) _)⟩
  ·go_wp2_with fail; go_meet; exact ⟨_, _, eb, eo, en, ec, fb, fo, fn, fc, rfl, rfl, ((m21.set _ _).other (by omega) _ _), ((m20.other (by omega) _ _).set _ _), ((x2.other (by omega) _ _).other (by omega) _ _), ((h1.box m21 _ _).box (m20.other (by omega) _ _) _ _), ((h2.box m21 _ _).box (m20.other (by omega) _ _) _ _), (below_set (below_set bb (by omega) _ _) (by omega) _ _)⟩
  ·go_wp2_with fail; go_meet; exact ⟨_, _, eb, eo, en, ec, fb, fo, fn, fc, rfl, rfl, ((m10.set _ _).alloc _), (Box.new _ _ _ (by first | (simp; done) | rfl)), ((x2.other (by omega) _ _).alloc _), ((h1.box m10 _ _).alloc _), ((h2.box m10 _ _).alloc _), (Below.alloc (below_set bb (by omega) _ _) (by first | omega | simp <;> omega) _)⟩
  ·go_wp2_with fail; go_meet; exact ⟨_, _, eb, eo, en, ec, fb, fo, fn, fc, rfl, rfl, ((m10.set _ _).other (by omega) _ _), ((m20.other (by omega) _ _).set _ _), ((x2.other (by omega) _ _).other (by omega) _ _), ((h1.box m10 _ _).box (m20.other (by omega) _ _) _ _), ((h2.box m10 _ _).box (m20.other (by omega) _ _) _ _), (below_set (below_set bb (by omega) _ _) (by omega) _ _)⟩
  ·go_wp2_with fail; go_meet; exact ⟨_, _, eb, eo, en, ec, fb, fo, fn, fc, rfl, rfl, ((m10.set _ _).other (by omega) _ _), ((m11.other (by omega) _ _).set _ _), ((x2.other (by omega) _ _).other (by omega) _ _), ((h1.box m10 _ _).box (m11.other (by omega) _ _) _ _), ((h2.box m10 _ _).box (m11.other (by omega) _ _) _ _), (below_set (below_set bb (by omega) _ _) (by omega) _ _)⟩
  ·go_wp2_with fail; go_meet; exact ⟨_, _, eb, eo, en, ec, fb, fo, fn, fc, rfl, rfl, (Box.new _ _ _ (by first | (simp; done) | rfl)), ((m10.set _ _).alloc _), ((x2.other (by omega) _ _).alloc _), ((h1.box m10 _ _).alloc _), ((h2.box m10 _ _).alloc _), (Below.alloc (below_set bb (by omega) _ _) (by first | omega | simp <;> omega) _)⟩
  ·go_wp2_with fail; go_meet; exact ⟨_, _, eb, eo, en, ec, fb, fo, fn, fc, rfl, rfl, ((m20.set _ _).other (by omega) _ _), ((m10.other (by omega) _ _).set _ _), ((x2.other (by omega) _ _).other (by omega) _ _), ((h1.box m20 _ _).box (m10.other (by omega) _ _) _ _), ((h2.box m20 _ _).box (m10.other (by omega) _ _) _ _), (below_set (below_set bb (by omega) _ _) (by omega) _ _)⟩
  ·go_wp2_with fail; go_meet; exact ⟨_, _, eb, eo, en, ec, fb, fo, fn, fc, rfl, rfl, ((m11.set _ _).other (by omega) _ _), ((m10.other (by omega) _ _).set _ _), ((x2.other (by omega) _ _).other (by omega) _ _), ((h1.box m11 _ _).box (m10.other (by omega) _ _) _ _), ((h2.box m11 _ _).box (m10.other (by omega) _ _) _ _), (below_set (below_set bb (by omega) _ _) (by omega) _ _)⟩
 case rest =>
  obtain ⟨Y, Z, eb, eo, en, ec, fb, fo, fn, fc, rfl, rfl, y, z, x2, h1, h2, bb⟩ := hcut
  have hq0 : q = 0 ↔ fn = 0 := by
   obtain ⟨g, _, _, _, cg, _⟩ := h2.ex
   rw [cg.ne_zero]; omega
  have p0 := z.c1
  have y := Lib.hid y
  by_cases h0 : fn = 0
  ·have hE := Lib.hid (mkE_three (p := p) (hq0.2 h0))
   subst h0
   clear hq0 h1 h2 z
   have q0 := x2.c0; have q1 := x2.c1; have q2 := x2.c2; have q3 := x2.fr 0; have q4 := x2.fr 1; have q5 := x2.fr 2
   have z := x2.set (.bool false) (.slice none 0 0) (.slice none 0 0)
   have e0 := z.c0; have e1 := z.c1; have e2 := z.c2
   have x2' := Lib.hid x2; have bb' := Lib.hid bb
   clear z x2 bb 
   go_wp2_with fail
   refine bodyPost_ret (v := .tuple #[.agg #[.bool false, .slice none 0 0, .slice none 0 0], .int .i64 (3)]) (by simp [results, Tryz.results42, go_sem, e0, e1, e2]) rfl ?_
   exact make_bad hE.out (by decide) (ResPost.stored (rt_zero _) x2'.out bb'.out (by omega))
  have hqz : Hid (q ≠ 0) := Lib.hid (fun e => h0 (hq0.1 e))
  obtain ⟨f, f1, f2, f3, cf, hfb⟩ := h1.ex
  obtain ⟨g, g1, g2, g3, cg, hgb⟩ := h2.ex
  have cf := Lib.hid cf; have cg := Lib.hid cg; replace hfb := Lib.hid hfb; replace hgb := Lib.hid hgb
  have Ff := Lib.hid (cf.out.few f3 f1 f2 hp'.out (Nat.le_trans hL'.out (by decide))); have Fg := Lib.hid (cg.out.few g3 g1 g2 hq'.out (Nat.le_trans hL'.out (by decide)))
  have p1 := y.out.c1
  have z := Lib.hid z; have x2 := Lib.hid x2; have bb := Lib.hid bb
  clear hq0 h1 h2 f3 g3
  go_wp2_with fail
  clear p0 p1
  refine (refGcdL_any eo fo en ec fn fc f g _ Ff.out.1 Fg.out.1 L hL'.out Ff.out.2 Fg.out.2).mono ?_
  rw [cf.out.val, cg.out.val]
  rintro e w2 ⟨go, gn, gc, gf, rfl, k1, k2, k3, k4, hb⟩
  have k4 : Hid (Canon (mkG p q) gn gf) := Lib.hid k4
  have hGL : Hid (mkG p q < pw L) := Lib.hid (Nat.lt_of_le_of_lt (Nat.le_of_dvd (by have := hqz.out; omega) (Nat.gcd_dvd_right _ _)) hq'.out)
  have FG := Lib.hid (k4.out.few k3 k1 k2 hGL.out (Nat.le_trans hL'.out (by decide)))
  have bb := Lib.hid (below_then bb.out (Nat.le_refl _) hb)
  have y := Lib.hid (y.out.later hb); have z := Lib.hid (z.out.later hb); have x2 := Lib.hid (x2.out.later hb)
  have Ff := Lib.hid (And.intro (Ff.out.1.below hb) Ff.out.2); have Fg := Lib.hid (And.intro (Fg.out.1.below hb) Fg.out.2)
  have p1 := y.out.c1
  clear hb k3
  go_wp2_with fail
  clear p1
  refine (refDivMod_any eo go en ec gn gc f gf _ Ff.out.1 FG.out.1 (Nat.le_trans Ff.out.2 hL'.out) (Nat.le_trans FG.out.2 hL'.out)).mono ?_
  rw [cf.out.val, k4.out.val]
  rintro e w3 ⟨hb, h⟩
  have hg0 : Hid (mkG p q ≠ 0) := Lib.hid (Nat.pos_iff_ne_zero.1 (mkG_pos hqz.out))
  rcases h with ⟨h, _⟩ | ⟨_, to_, tn, tc, tf, ro, rn, rc, rf, rfl, t1, t2, _, _, t3, t4, _, _⟩
  ·exact absurd h hg0.out
  have t3 := Lib.hid t3; have t4 := Lib.hid t4
  have bb := Lib.hid (below_then bb.out (Nat.le_refl _) hb)
  have y := Lib.hid (y.out.later hb); have z := Lib.hid (z.out.later hb); have x2 := Lib.hid (x2.out.later hb)
  have Fg := Lib.hid (And.intro (Fg.out.1.below hb) Fg.out.2); have FG := Lib.hid (And.intro (FG.out.1.below hb) FG.out.2)
  have p1 := z.out.c1
  clear hb
  go_wp2_with fail
  clear p1
  refine (refDivMod_any fo go fn fc gn gc g gf _ Fg.out.1 FG.out.1 (Nat.le_trans Fg.out.2 hL'.out) (Nat.le_trans FG.out.2 hL'.out)).mono ?_
  rw [cg.out.val, k4.out.val]
  rintro e w4 ⟨hb, h⟩
  rcases h with ⟨h, _⟩ | ⟨_, uo, un, uc, uf, ro', rn', rc', rf', rfl, u1, u2, _, _, u3, u4, _, _⟩
  ·exact absurd h hg0.out
  have u3 := Lib.hid u3; have u4 := Lib.hid u4; have t3 := Lib.hid (t3.out.below hb)
  have bb := below_then bb.out (Nat.le_refl _) hb
  have y := Lib.hid (y.out.later hb); have z := Lib.hid (z.out.later hb); have x2 := x2.out.later hb
  clear hb
  by_cases ht : 32 < tn
  ·have hE := Lib.hid (mkE_seven hqz.out (.inl (canon_long t4.out ht)))
   have hd : decide ((32 : Int) < (tn : Int)) = true := by rw [decide_eq_true_iff]; omega
   clear ht h0 f1 f2 g1 g2 t1 t2 u1 u2 k1 k2
   have q0 := x2.c0; have q1 := x2.c1; have q2 := x2.c2; have q3 := x2.fr 0; have q4 := x2.fr 1; have q5 := x2.fr 2
   have z := x2.set (.bool false) (.slice none 0 0) (.slice none 0 0)
   have e0 := z.c0; have e1 := z.c1; have e2 := z.c2
   have x2' := Lib.hid x2; have bb' := Lib.hid bb
   clear z x2 bb 
   go_wp2_with fail
   refine bodyPost_ret (v := .tuple #[.agg #[.bool false, .slice none 0 0, .slice none 0 0], .int .i64 (7)]) (by simp [results, Tryz.results42, go_sem, e0, e1, e2]) rfl ?_
   exact make_bad hE.out (by decide) (ResPost.stored (rt_zero _) x2'.out bb'.out (by omega))
  have hd : decide ((32 : Int) < (tn : Int)) = false := by rw [decide_eq_false_iff_not]; omega
  have ht' := Lib.hid ht
  clear ht
  by_cases hu : 32 < un
  ·have hE := Lib.hid (mkE_seven hqz.out (.inr (canon_long u4.out hu)))
   have hd2 : decide ((32 : Int) < (un : Int)) = true := by rw [decide_eq_true_iff]; omega
   clear hu h0 f1 f2 g1 g2 t1 t2 u1 u2 k1 k2
   have q0 := x2.c0; have q1 := x2.c1; have q2 := x2.c2; have q3 := x2.fr 0; have q4 := x2.fr 1; have q5 := x2.fr 2
   have z := x2.set (.bool false) (.slice none 0 0) (.slice none 0 0)
   have e0 := z.c0; have e1 := z.c1; have e2 := z.c2
   have x2' := Lib.hid x2; have bb' := Lib.hid bb
   clear z x2 bb 
   go_wp2_with fail
   refine bodyPost_ret (v := .tuple #[.agg #[.bool false, .slice none 0 0, .slice none 0 0], .int .i64 (7)]) (by simp [results, Tryz.results42, go_sem, e0, e1, e2]) rfl ?_
   exact make_bad hE.out (by decide) (ResPost.stored (rt_zero _) x2'.out bb'.out (by omega))
  have hd2 : decide ((32 : Int) < (un : Int)) = false := by rw [decide_eq_false_iff_not]; omega
  have hE : Hid (mkE p q = 0) := Lib.hid (mkE_ok.2 ⟨hqz.out, canon_short t4.out (Nat.le_of_not_lt ht'.out), canon_short u4.out (Nat.le_of_not_lt hu)⟩)
  clear hu
  by_cases ht0 : tn = 0
  ·have hR : Hid (Rt w4 false to_ 0 tc uo un uc (mkT p q) (mkB p q)) := Lib.hid ⟨by
    rw [mkT_ok hE.out]
    have e := t4.out.ne_zero.1 ht0
    have t3 := t3.out
    have t4 := t4.out
    rw [e, ht0] at t4
    rw [e]
    have := canon_right (b := false) (Nat.zero_le tc) t2 (.inl rfl : Sl w4 to_ 0 tf) t4 (.inr rfl)
    have e0 : ∀ s, sgn s 0 = 0 := fun s => by cases s <;> rfl
    rw [e0] at this ⊢; exact this, by
    rw [mkB_ok hE.out]
    exact canon_right (b := false) u1 u2 u3.out u4.out (.inr rfl)⟩
   subst ht0
   clear t1 h0 f1 f2 g1 g2 t2 u1 u2 k1 k2
   have q0 := x2.c0; have q1 := x2.c1; have q2 := x2.c2; have q3 := x2.fr 0; have q4 := x2.fr 1; have q5 := x2.fr 2
   have zz := x2.set (.bool (false)) (.slice to_ 0 tc) (.slice uo un uc)
   have e0 := zz.c0; have e1 := zz.c1; have e2 := zz.c2
   have x2' := Lib.hid x2; have bb' := Lib.hid bb
   have v0 := y.out.c0; have v1 := z.out.c0
   clear zz x2 bb
   go_wp2_with fail
   refine bodyPost_ret (v := .tuple #[.agg #[.bool (false), .slice to_ 0 tc, .slice uo un uc], .int .i64 0]) (by simp [results, Tryz.results42, go_sem, e0, e1, e2]) rfl ?_
   exact make_good hE.out (ResPost.stored (E := 0) hR.out x2'.out bb'.out (Nat.le_add_right _ 2))
  ·have hR : Hid (Rt w4 (!(eb == fb)) to_ tn tc uo un uc (mkT p q) (mkB p q)) := Lib.hid ⟨by
    rw [mkT_ok hE.out]
    have hpz : p ≠ 0 := by
     intro e
     refine ht0 (t4.out.ne_zero.2 ?_)
     rw [e]; simp
    rw [hfb.out, hgb.out, ← sign_differ hpz hqz.out]
    exact canon_right t1 t2 t3.out t4.out (.inl (Nat.pos_of_ne_zero ht0)), by
    rw [mkB_ok hE.out]
    exact canon_right (b := false) u1 u2 u3.out u4.out (.inr rfl)⟩
   have hd3 := Nat.pos_of_ne_zero ht0
   clear t1 h0 f1 f2 g1 g2 t2 u1 u2 k1 k2 ht0
   have q0 := x2.c0; have q1 := x2.c1; have q2 := x2.c2; have q3 := x2.fr 0; have q4 := x2.fr 1; have q5 := x2.fr 2
   have zz := x2.set (.bool (!(eb == fb))) (.slice to_ tn tc) (.slice uo un uc)
   have e0 := zz.c0; have e1 := zz.c1; have e2 := zz.c2
   have x2' := Lib.hid x2; have bb' := Lib.hid bb
   have v0 := y.out.c0; have v1 := z.out.c0
   clear zz x2 bb
   go_wp2_with fail
   refine bodyPost_ret (v := .tuple #[.agg #[.bool (!(eb == fb)), .slice to_ tn tc, .slice uo un uc], .int .i64 0]) (by simp [results, Tryz.results42, go_sem, e0, e1, e2]) rfl ?_
   exact make_good hE.out (ResPost.stored (E := 0) hR.out x2'.out bb'.out (Nat.le_add_right _ 2))
end Go.Proofs.YtaepelipkkmeaaaGreat
namespace Go.Proofs.YtaepelipkkmeaaaGreat
open Go.RowKit Num
def SameBPost (n m : Nat) (f g : Nat → Nat) (w : World) (e : Ending) (w' : World) : Prop := ∃ r, e = .returned (.bool r) ∧ (r = true ↔ n = m ∧ ∀ j, j < n → f j = g j) ∧ Below w.heap.size w w'
def Same4BPost (b c : Bool) (n m k l : Nat) (f g h i : Nat → Nat) (w : World) (e : Ending) (w' : World) : Prop := ∃ r, e = .returned (.bool r) ∧ (r = true ↔ b = c ∧ (n = m ∧ ∀ j, j < n → f j = g j) ∧ (k = l ∧ ∀ j, j < k → h j = i j)) ∧ Below w.heap.size w w'
theorem sameB_any (ao bo : Option Addr) (n nc m mc : Nat) (f g : Nat → Nat) (w : World) (hn : n ≤ 9223372036854775807) (hf : Sl w ao n f) (hg : Sl w bo m g) :
  Calls Tryz.prog 79 #[.slice ao n nc, .slice bo m mc] w (SameBPost n m f g w) := by
 by_cases hnm : n = m
 ·subst hnm
  go_enter Tryz.func79, Tryz.ntmps79
  go_wp2_with fail
  go_loopw [5] (fun i wr => ∃ j : Nat, j ≤ n ∧ i = .int .i64 j ∧ Hid (∀ i, i < j → f i = g i) ∧ ∃ q, wr = w.drewN q) (fun i _ => n - (intOf i).toNat)
  case atStart => exact ⟨0, Nat.zero_le _, rfl, Lib.hid (fun i hi => absurd hi (Nat.not_lt_zero _)), 0, rfl⟩
  case round =>
   obtain ⟨j, hj, rfl, heq, q, rfl⟩ := hrel
   by_cases hlt : j < n
   ·rcases hf with h | ⟨b, off, rfl, hc⟩
    ·omega
    rcases hg with h | ⟨b', off', rfl, hc'⟩
    ·omega
    have c1 := hc j hlt
    have c2 := hc' j hlt
    clear hc hc'
    by_cases he : f j = g j
    ·rw [← he] at c2
     have heq' : Hid (∀ i, i < j + 1 → f i = g i) := Lib.hid (fun i hi => by
      by_cases hij : i < j
      ·exact heq.out i hij
      ·have : i = j := by omega
       subst this; exact he)
     clear he heq
     go_wp2_with fail
     go_quiet (fail)
     go_wp2_with fail
     go_roundw
     case rel => exact ⟨j + 1, by omega, by go_num, heq', _, rfl⟩
     case measure => simp [intOf]; omega
    ·have he' : ((f j : Int) == (g j : Int)) = false := by rw [beq_eq_false_iff_ne]; omega
     have hid := Lib.hid he
     have hlt' := Lib.hid hlt
     go_wp2_with fail
     go_quiet (fail)
     go_wp2_with fail
     go_ret
     exact ⟨false, rfl, ⟨(fun h => by cases h), fun h => absurd (h.2 j hlt'.out) hid.out⟩, below_drewN (below_drewN (Below.refl _ _) _) _⟩
   ·have : j = n := by omega
    subst this
    go_wp2_with fail
    go_ret
    exact ⟨true, rfl, ⟨fun _ => ⟨rfl, heq.out⟩, fun _ => rfl⟩, below_drewN (Below.refl _ _) _⟩
 ·have hd : ((n : Int) == (m : Int)) = false := by rw [beq_eq_false_iff_ne]; omega
  have hnm' := Lib.hid hnm
  clear hf hg
  go_enter Tryz.func79, Tryz.ntmps79
  go_wp2_with fail
  go_ret
  exact ⟨false, rfl, ⟨(fun h => by cases h), fun h => absurd h.1 hnm'.out⟩, Below.refl _ _⟩
attribute [local go_sem ↓] Go.wp_at_zero Go.wp_at_succ
theorem same4B_any (ab cb : Bool) (ap aq cp cq : Option Addr) (an ac am ae cn cc cm ce : Nat) (f h g k : Nat → Nat) (w : World) (hn : an ≤ 9223372036854775807) (hm : am ≤ 9223372036854775807) (hf : Sl w ap an f) (hh : Sl w aq am h) (hg : Sl w cp cn g) (hk : Sl w cq cm k) :
  Calls Tryz.prog 21 #[.agg #[.bool ab, .slice ap an ac, .slice aq am ae], .agg #[.bool cb, .slice cp cn cc, .slice cq cm ce]] w (Same4BPost ab cb an cn am cm f g h k w) := by
 have hf' := Lib.hid hf; have hh' := Lib.hid hh; have hg' := Lib.hid hg; have hk' := Lib.hid hk
 clear hf hh hg hk
 by_cases hb : ab = cb
 ·subst hb
  go_enter Tryz.func21, Tryz.ntmps21
  go_wp2_with fail
  refine gen_calls (fun w' => Below w.heap.size w w' ∧ Box3 w' w.heap.size (.bool ab) (.slice ap an ac) (.slice aq am ae) ∧ Box3 w' (w.heap.size + 1) (.bool ab) (.slice cp cn cc) (.slice cq cm ce))
   ⟨(((Below.refl _ _).alloc (Nat.le_refl _) _).alloc (by simp <;> omega) _), ((Box3.new _ _ _ _ rfl).alloc _), (Box3.new _ _ _ _ (by simp <;> omega))⟩ ?_
  rintro w0 ⟨hb0, x0, x1⟩
  refine (sameB_any ap cp an ac cn cc f g _ hn (hf'.out.below hb0) (hg'.out.below hb0)).mono ?_
  rintro e w1 ⟨r, rfl, hr, hb⟩
  have bb := Lib.hid (below_then hb0 (Nat.le_refl _) hb)
  have x0 := x0.later hb; have x1 := x1.later hb
  have p0 := x0.c2; have p1 := x1.c2
  replace hr := Lib.hid hr
  clear hb hb0 x0 x1
  cases r
  ·go_wp2_with fail
   go_ret
   exact ⟨false, rfl, ⟨(fun h => by cases h), fun h => absurd (hr.out.2 h.2.1) (by decide)⟩, bb.out⟩
  ·go_wp2_with fail
   refine (sameB_any aq cq am ae cm ce h k _ hm (hh'.out.below bb.out) (hk'.out.below bb.out)).mono ?_
   rintro e w2 ⟨s, rfl, hs, hb⟩
   have bb := Lib.hid (below_then bb.out (Nat.le_refl _) hb)
   replace hs := Lib.hid hs
   clear hb p0 p1
   go_wp2_with fail
   go_ret
   exact ⟨s, rfl, ⟨fun e => ⟨rfl, hr.out.1 (by first | exact rfl | trivial), hs.out.1 e⟩, fun h => hs.out.2 h.2.2⟩, bb.out⟩
 ·have hd : (ab == cb) = false := by simp [hb]
  have hb' := Lib.hid hb
  clear hb
  go_enter Tryz.func21, Tryz.ntmps21
  go_wp2_with fail
  go_ret
  exact ⟨false, rfl, ⟨(fun h => by cases h), fun h => absurd h.1 hb'.out⟩, (((Below.refl _ _).alloc (Nat.le_refl _) _).alloc (by simp) _)⟩
theorem Right.same {w : World} {b c : Bool} {ao bo : Option Addr} {n nc m mc : Nat} {x : Int} (A : Right w b ao n nc x) (B : Right w c bo m mc x) : b = c := A.neg.trans B.neg.symm
theorem same4_any (ab : Bool) (ap aq : Option Addr) (an ac am ae : Nat) (P : Int) (Q : Nat) (cb : Bool) (cp cq : Option Addr) (cn cc cm ce : Nat) (w : World) (A : Rt w ab ap an ac aq am ae P Q) (B : Rt w cb cp cn cc cq cm ce P Q) :
  Calls Tryz.prog 21 #[.agg #[.bool ab, .slice ap an ac, .slice aq am ae], .agg #[.bool cb, .slice cp cn cc, .slice cq cm ce]] w (Says (.bool true) w) := by
 have e := A.top.same B.top
 obtain ⟨f, f1, f2, f3, f4, _⟩ := A.top.ex
 obtain ⟨h, h1, h2, h3, h4, _⟩ := A.bot.ex
 obtain ⟨g, _, _, g3, g4, _⟩ := B.top.ex
 obtain ⟨k, _, _, k3, k4, _⟩ := B.bot.ex
 refine (same4B_any ab cb ap aq cp cq an ac am ae cn cc cm ce f h g k w (by omega) (by omega) f3 h3 g3 k3).mono ?_
 rintro e' w' ⟨r, rfl, hr, hb⟩
 have := hr.2 ⟨e, ⟨f4.len g4, f4.eq g4⟩, ⟨h4.len k4, h4.eq k4⟩⟩
 subst this
 exact ⟨rfl, hb⟩
theorem arg_small {w : World} {b : Bool} {ao : Option Addr} {n nc : Nat} {f : Nat → Nat} (A : Arg w ao n nc f) (h : n ≤ 32) : (sgn b (val f n)).natAbs < pw 32 := by
 rw [sgn_abs]
 exact Nat.lt_of_lt_of_le (val_lt A.lim) (pw_le h)
def RightPost (ab : Bool) (ap : Option Addr) (an ac : Nat) (aq : Option Addr) (am ae : Nat) (w : World) (e : Ending) (w' : World) : Prop :=
 ∃ r, e = .returned (.bool r) ∧ (r = true → ∃ P Q, Low P Q ∧ Rt w ab ap an ac aq am ae P Q) ∧ (∀ P Q, Low P Q → Rt w ab ap an ac aq am ae P Q → r = true) ∧ Below w.heap.size w w'
theorem Right.canon {w : World} {b : Bool} {ao : Option Addr} {n nc : Nat} {x : Int} {f : Nat → Nat} (h : Right w b ao n nc x) (A : Arg w ao n nc f) : Canon x.natAbs n f := by
 obtain ⟨g, _, _, hs, cg, e⟩ := h.ex
 have he : ∀ j, j < n → f j = g j := by
  intro j hj
  rcases A.sl with rfl | ⟨d, off, rfl, hc⟩
  ·omega
  ·rcases hs with rfl | ⟨d', off', e', hc'⟩
   ·omega
   ·injection e' with e'
    injection e' with e1 e2
    subst e1 e2
    have := (hc j hj).symm.trans (hc' j hj)
    injection this with this
    injection this with _ this
    omega
 refine ⟨A.lim, ?_, (val_congr he).trans cg.val⟩
 rcases cg.top with h0 | h0
 ·exact .inl h0
 ·by_cases hn : n = 0
  ·exact .inl hn
  ·refine .inr ?_
   rw [he (n - 1) (by omega)]; exact h0
theorem Right.val_is {w : World} {b : Bool} {ao : Option Addr} {n nc : Nat} {x : Int} {f : Nat → Nat} (h : Right w b ao n nc x) (A : Arg w ao n nc f) : sgn b (val f n) = x := by
 rw [(h.canon A).val, h.neg, sgn_self]
theorem right4_any (ab : Bool) (ap aq : Option Addr) (an ac am ae : Nat) (f h : Nat → Nat) (w : World) (A : Arg w ap an ac f) (B : Arg w aq am ae h) :
  Calls Tryz.prog 14 #[.agg #[.bool ab, .slice ap an ac, .slice aq am ae]] w (RightPost ab ap an ac aq am ae w) := by
 have A' := Lib.hid A; have B' := Lib.hid B
 clear A B
 by_cases ht : 32 < an
 ·have hd : decide ((32 : Int) < (an : Int)) = true := by rw [decide_eq_true_iff]; omega
  have ht' := Lib.hid ht
  clear ht
  go_enter Tryz.func14, Tryz.ntmps14
  go_wp2_with fail
  go_ret
  exact ⟨false, rfl, (fun h => by cases h), fun P Q l R => absurd (R.top.le_len l.abs_lt) (Nat.not_le.2 ht'.out), (Below.refl _ _).alloc (Nat.le_refl _) _⟩
 have hd : decide ((32 : Int) < (an : Int)) = false := by rw [decide_eq_false_iff_not]; omega
 have ht' := Lib.hid (Nat.le_of_not_lt ht)
 clear ht
 by_cases hu : 32 < am
 ·have hd2 : decide ((32 : Int) < (am : Int)) = true := by rw [decide_eq_true_iff]; omega
  have hu' := Lib.hid hu
  clear hu
  go_enter Tryz.func14, Tryz.ntmps14
  go_wp2_with fail
  go_ret
  exact ⟨false, rfl, (fun h => by cases h), fun P Q l R => absurd (R.bot.le_len l.bot_lt) (Nat.not_le.2 hu'.out), (Below.refl _ _).alloc (Nat.le_refl _) _⟩
 have hd2 : decide ((32 : Int) < (am : Int)) = false := by rw [decide_eq_false_iff_not]; omega
 have hu' := Lib.hid (Nat.le_of_not_lt hu)
 clear hu
 go_enter Tryz.func14, Tryz.ntmps14
 go_wp2_with fail
 refine gen_wp (fun w' => Below w.heap.size w w' ∧ Box3 w' w.heap.size (.bool ab) (.slice ap an ac) (.slice aq am ae))
  ⟨((Below.refl _ _).alloc (Nat.le_refl _) _), (Box3.new _ _ _ _ rfl)⟩ ?_
 rintro u0 ⟨bb, x0⟩
 obtain ⟨p, hp⟩ : ∃ p, Hid (sgn ab (val f an) = p) := ⟨_, Lib.hid rfl⟩
 obtain ⟨q, hq⟩ : ∃ q, Hid (sgn false (val h am) = q) := ⟨_, Lib.hid rfl⟩
 have hp32 : Hid (p.natAbs < pw 32) := Lib.hid (by rw [← hp.out]; exact arg_small A'.out ht'.out)
 have hq32 : Hid (q.natAbs < pw 32) := Lib.hid (by rw [← hq.out]; exact arg_small B'.out hu'.out)
 have A : Whole u0 ab ap an ac p := ⟨f, A'.out.below bb, hp.out⟩
 have B : Whole u0 false aq am ae q := ⟨h, B'.out.below bb, hq.out⟩
 go_cut [3, 4] from 23 to 30 (fun s t wx => ∃ Y gb gp gn gc gq gm ge, s = .pointer (some ⟨Y, 0, none⟩) ∧ t = .int .i64 (mkE p q) ∧ Box3 wx Y (.bool gb) (.slice gp gn gc) (.slice gq gm ge) ∧ Box3 wx w.heap.size (.bool ab) (.slice ap an ac) (.slice aq am ae) ∧ Rt wx gb gp gn gc gq gm ge (mkT p q) (mkB p q) ∧ Below w.heap.size w wx)
 case first =>
  have lx0 := x0.lt
  have bs := bb.size
  have sa0 := True.intro
  go_region_held3 (fun w' => w'.cell? ⟨w.heap.size, 0, none⟩ = some (.bool ab) ∧ w'.cell? ⟨w.heap.size, 1, none⟩ = some (.slice ap an ac) ∧ w'.cell? ⟨w.heap.size, 2, none⟩ = some (.slice aq am ae))
   (first | with_reducible exact ⟨(x0.drew).c0, (x0.drew).c1, (x0.drew).c2⟩ | with_reducible exact ⟨((x0.alloc _).drew).c0, ((x0.alloc _).drew).c1, ((x0.alloc _).drew).c2⟩ | with_reducible exact ⟨x0.c0, x0.c1, x0.c2⟩ | with_reducible exact ⟨(x0.alloc _).c0, (x0.alloc _).c1, (x0.alloc _).c2⟩ | with_reducible exact ⟨(x0.other3 (by omega) _ _ _).c0, (x0.other3 (by omega) _ _ _).c1, (x0.other3 (by omega) _ _ _).c2⟩ | go_keep)
   (first
   | (go_at_call 41; clear sa0; refine (rTop_any ab ap aq an ac am ae p _ ?_).mono ?_; (first | with_reducible exact (A.drew) | with_reducible exact ((A.alloc _).drew)); rintro e u1 ⟨eb, eo, en, ec, rfl, h1, hb⟩; have hc : Below u0.heap.size u0 u1 := (by first | exact (Below.refl _ _).drew.trans hb | exact ((Below.refl _ _).alloc (by first | exact Nat.le_refl _ | (simp; done) | (simp; omega)) _).drew.trans (hb.mono (by simp <;> omega))); have hz0 := hc.size; have x0 := x0.later hc; have A := A.below hc; have B := B.below hc; have bb := below_then bb (Nat.le_refl _) hc; (first | (with_reducible have m10 := made13' hb) | skip); (try have k10 := m10.lt); clear hb hc; have sa1 := True.intro)
   | (go_at_call 43; clear sa1; refine (rBot_any ab ap aq an ac am ae q _ ?_).mono ?_; (first | with_reducible exact B | with_reducible exact (B.alloc _)); rintro e u2 ⟨fb, fo, fn, fc, rfl, h2, hb⟩; have hc : Below u1.heap.size u1 u2 := (by first | with_reducible exact hb | exact ((Below.refl _ _).alloc (by first | exact Nat.le_refl _ | (simp; done) | (simp; omega)) _).trans (hb.mono (by simp <;> omega))); have hz1 := hc.size; have x0 := x0.later hc; have A := A.below hc; have B := B.below hc; have h1 := h1.below hc; have bb := below_then bb (Nat.le_refl _) hc; (try have m10 := m10.later hc); (first | (with_reducible have m20 := made13 hb) | skip); (try have k10 := m10.lt); (try have k20 := m20.lt); clear hb hc; have sa2 := True.intro)
   | (go_at_call 42; clear sa2; refine (rMake_any eb fb eo fo en ec fn fc p q _ ?_ ?_ 32 (by omega) hp32.out hq32.out).mono ?_; (first | with_reducible exact (h1).whole32 hp32.out | with_reducible exact ((h1.alloc _)).whole32 hp32.out); (first | with_reducible exact (h2).whole32 hq32.out | with_reducible exact ((h2.alloc _)).whole32 hq32.out); rintro e u3 ⟨gb, gp, gn, gc, gq, gm, ge, rfl, G, hb⟩; have hc : Below u2.heap.size u2 u3 := (by first | with_reducible exact hb | exact ((Below.refl _ _).alloc (by first | exact Nat.le_refl _ | (simp; done) | (simp; omega)) _).trans (hb.mono (by simp <;> omega))); have hz2 := hc.size; have x0 := x0.later hc; have A := A.below hc; have B := B.below hc; have h1 := h1.below hc; have h2 := h2.below hc; have bb := below_then bb (Nat.le_refl _) hc; (try have m10 := m10.later hc); (try have m20 := m20.later hc); (first | (with_reducible have m30 := made13 hb) | skip); (try have k10 := m10.lt); (try have k20 := m20.lt); (try have k30 := m30.lt); (try (have f100 := m10.c0; have f101 := m10.c1; have f102 := m10.fr 0; have f103 := m10.fr 1; have f104 := m10.c2; have f105 := m10.fr 2)); (try (have f200 := m20.c0; have f201 := m20.c1; have f202 := m20.fr 0; have f203 := m20.fr 1; have f204 := m20.c2; have f205 := m20.fr 2)); (try (have f300 := m30.c0; have f301 := m30.c1; have f302 := m30.fr 0; have f303 := m30.fr 1; have f304 := m30.c2; have f305 := m30.fr 2)); clear hb hc; have sa3 := True.intro))
  ·go_wp2_with fail; go_meet; exact ⟨_, gb, gp, gn, gc, gq, gm, ge, rfl, rfl, (Box3.new _ _ _ _ (by first | (simp; done) | rfl)), (x0.alloc _), (G.alloc _), (Below.alloc bb (by first | omega | simp <;> omega) _)⟩
  ·go_wp2_with fail; go_meet; exact ⟨_, gb, gp, gn, gc, gq, gm, ge, rfl, rfl, (m30.set _ _ _), (x0.other3 (by omega) _ _ _), (G.box3 m30 _ _ _), (below_set3 bb (by omega) _ _ _)⟩
  ·go_wp2_with fail; go_meet; exact ⟨_, gb, gp, gn, gc, gq, gm, ge, rfl, rfl, (m20.set _ _ _), (x0.other3 (by omega) _ _ _), (G.box3 m20 _ _ _), (below_set3 bb (by omega) _ _ _)⟩
  ·go_wp2_with fail; go_meet; exact ⟨_, gb, gp, gn, gc, gq, gm, ge, rfl, rfl, (m10.set _ _ _), (x0.other3 (by omega) _ _ _), (G.box3 m10 _ _ _), (below_set3 bb (by omega) _ _ _)⟩
 case rest =>
  obtain ⟨Y, gb, gp, gn, gc, gq, gm, ge, rfl, rfl, y, x0, G, bb⟩ := hcut
  have yes : Hid (∀ P Q, Low P Q → Rt w ab ap an ac aq am ae P Q → p = P ∧ q = Q) := Lib.hid (fun P Q l R => ⟨hp.out.symm.trans (R.top.val_is A'.out), hq.out.symm.trans (R.bot.val_is B'.out)⟩)
  obtain ⟨E, hE⟩ : ∃ E, Hid (mkE p q = E) := ⟨_, Lib.hid rfl⟩
  rw [hE.out]
  by_cases h0 : E = 0
  ·subst h0
   have p0 := y.c0; have p1 := y.c1; have p2 := y.c2; have p3 := x0.c0; have p4 := x0.c1; have p5 := x0.c2
   replace bb := Lib.hid bb
   obtain ⟨g, g1, g2, g3, g4, g5⟩ := G.top.ex
   obtain ⟨k, k1, k2, k3, k4, k5⟩ := G.bot.ex
   replace g3 := Lib.hid g3; replace k3 := Lib.hid k3; replace g4 := Lib.hid g4; replace k4 := Lib.hid k4; replace g5 := Lib.hid g5; clear k5
   have A1 := Lib.hid (A'.out.below bb.out); have B1 := Lib.hid (B'.out.below bb.out)
   have hn : an ≤ 9223372036854775807 := by have := A'.out.len; have := A'.out.cap; omega
   have hm : am ≤ 9223372036854775807 := by have := B'.out.len; have := B'.out.cap; omega
   have hn' := Lib.hid hn; have hm' := Lib.hid hm
   clear y x0 G hn hm A B
   go_wp2_with fail
   refine (same4B_any ab gb ap aq gp gq an ac am ae gn gc gm ge f h g k _ hn'.out hm'.out A1.out.sl B1.out.sl g3.out k3.out).mono ?_
   rintro e w2 ⟨r, rfl, hr, hb⟩
   have bb2 := Lib.hid (below_then bb.out (Nat.le_refl _) hb)
   replace hr := Lib.hid hr
   clear hb p0 p1 p2 p3 p4 p5
   go_wp2_with fail
   go_ret
   refine ⟨r, rfl, ?_, ?_, bb2.out⟩
   ·intro e
    obtain ⟨rfl, ⟨rfl, h2⟩, rfl, h4⟩ := hr.out.1 e
    exact ⟨mkT p q, mkB p q, mk_low hE.out, ⟨g, A'.out.len, A'.out.cap, A'.out.sl.congr h2, g4.out, g5.out⟩, ⟨k, B'.out.len, B'.out.cap, B'.out.sl.congr h4, k4.out, by simp⟩⟩
   ·intro P Q l R
    obtain ⟨e1, e2⟩ := yes.out P Q l R
    subst e1 e2
    obtain ⟨_, e3, e4⟩ := mk_self l
    have cf := R.top.canon A'.out; have ch := R.bot.canon B'.out
    have g4 := g4.out; have k4 := k4.out; have g5 := g5.out
    rw [e3] at g4 g5; rw [e4] at k4
    exact hr.out.2 ⟨R.top.neg.trans g5.symm, ⟨cf.len g4, cf.eq g4⟩, ch.len k4, ch.eq k4⟩
  ·have h0' := Lib.hid h0
   clear y x0 G A B
   go_wp2_with fail
   go_ret
   refine ⟨false, rfl, (fun h => by cases h), ?_, bb⟩
   intro P Q l R
   obtain ⟨e1, e2⟩ := yes.out P Q l R
   subst e1 e2
   exact absurd (hE.out.symm.trans (mk_self l).1) h0'.out
end Go.Proofs.YtaepelipkkmeaaaGreat
namespace Go.Proofs.YtaepelipkkmeaaaGreat
open Go.RowKit Num
attribute [local go_sem ↓] Go.wp_at_zero Go.wp_at_succ
theorem mul4_any (ab : Bool) (ap aq : Option Addr) (an ac am ae : Nat) (P : Int) (Q : Nat) (cb : Bool) (cp cq : Option Addr) (cn cc cm ce : Nat) (R : Int) (S : Nat) (w : World) (A : Rt w ab ap an ac aq am ae P Q) (lA : Low P Q) (B : Rt w cb cp cn cc cq cm ce R S) (lB : Low R S) :
  Calls Tryz.prog 65 #[.agg #[.bool ab, .slice ap an ac, .slice aq am ae], .agg #[.bool cb, .slice cp cn cc, .slice cq cm ce]] w (MakePost (P * R) ((Q : Int) * S) w) := by
 have lA' := Lib.hid lA; have lB' := Lib.hid lB
 have A' := Lib.hid A; have B' := Lib.hid B
 clear lA A lB B
 go_enter Tryz.func65, Tryz.ntmps65
 go_wp2_with fail
 refine gen_wp (fun w' => Below w.heap.size w w' ∧ Box3 w' w.heap.size (.bool ab) (.slice ap an ac) (.slice aq am ae) ∧ Box3 w' (w.heap.size + 1) (.bool cb) (.slice cp cn cc) (.slice cq cm ce) ∧ Box3 w' (w.heap.size + 2) (.bool false) (.slice none 0 0) (.slice none 0 0))
  ⟨((((Below.refl _ _).alloc (Nat.le_refl _) _).alloc (by simp <;> omega) _).alloc (by simp <;> omega) _), (((Box3.new _ _ _ _ rfl).alloc _).alloc _), ((Box3.new _ _ _ _ (by simp <;> omega)).alloc _), (Box3.new _ _ _ _ (by simp <;> omega))⟩ ?_
 rintro w0 ⟨bb, x0, x1, x2⟩
 have bb := bb.drew; have x0 := x0.drew; have x1 := x1.drew; have x2 := x2.drew
 have A := A'.out.below bb; have B := B'.out.below bb
 clear A' B'
 have sa0 := True.intro
 go_region_held3 (fun w' => w'.cell? ⟨w.heap.size, 0, none⟩ = some (.bool ab) ∧ w'.cell? ⟨w.heap.size, 1, none⟩ = some (.slice ap an ac) ∧ w'.cell? ⟨w.heap.size, 2, none⟩ = some (.slice aq am ae) ∧ w'.cell? ⟨(w.heap.size + 1), 0, none⟩ = some (.bool cb) ∧ w'.cell? ⟨(w.heap.size + 1), 1, none⟩ = some (.slice cp cn cc) ∧ w'.cell? ⟨(w.heap.size + 1), 2, none⟩ = some (.slice cq cm ce))
  (first | with_reducible exact ⟨x0.c0, x0.c1, x0.c2, x1.c0, x1.c1, x1.c2⟩ | with_reducible exact ⟨(x0.other3 (by omega) _ _ _).c0, (x0.other3 (by omega) _ _ _).c1, (x0.other3 (by omega) _ _ _).c2, (x1.other3 (by omega) _ _ _).c0, (x1.other3 (by omega) _ _ _).c1, (x1.other3 (by omega) _ _ _).c2⟩ | go_keep)
  (first
  | (go_at_call 107; clear sa0; refine (upper_any ab ap aq an ac am ae _).mono ?_; rintro e w' ⟨rfl, hb⟩; have bb := below_then bb (Nat.le_refl _) hb; have x0 := x0.later hb; have x1 := x1.later hb; have x2 := x2.later hb; have A := A.below hb; have B := B.below hb; clear hb; have sa1 := True.intro)
  | (go_at_call 107; clear sa1; refine (upper_any cb cp cq cn cc cm ce _).mono ?_; rintro e w' ⟨rfl, hb⟩; have bb := below_then bb (Nat.le_refl _) hb; have x0 := x0.later hb; have x1 := x1.later hb; have x2 := x2.later hb; have A := A.below hb; have B := B.below hb; clear hb; have sa2 := True.intro)
  | (go_at_call 112; clear sa2; refine (wMul_any ab cb ap cp an ac cn cc P R _ (A.upper lA'.out) (B.upper lB'.out)).mono ?_; rintro e w' ⟨eb, eo, en, ec, rfl, h1, hb⟩; have bb := below_then bb (Nat.le_refl _) hb; have x0 := x0.later hb; have x1 := x1.later hb; have x2 := x2.later hb; have A := A.below hb; have B := B.below hb; clear hb; have sa3 := True.intro)
  | (go_at_call 113; clear sa3; refine (lower_any ab ap aq an ac am ae _).mono ?_; rintro e w' ⟨rfl, hb⟩; have bb := below_then bb (Nat.le_refl _) hb; have x0 := x0.later hb; have x1 := x1.later hb; have x2 := x2.later hb; have A := A.below hb; have B := B.below hb; have h1 := h1.below hb; clear hb; have sa4 := True.intro)
  | (go_at_call 113; clear sa4; refine (lower_any cb cp cq cn cc cm ce _).mono ?_; rintro e w' ⟨rfl, hb⟩; have bb := below_then bb (Nat.le_refl _) hb; have x0 := x0.later hb; have x1 := x1.later hb; have x2 := x2.later hb; have A := A.below hb; have B := B.below hb; have h1 := h1.below hb; clear hb; have sa5 := True.intro)
  | (go_at_call 112; clear sa5; refine (wMul_any false false aq cq am ae cm ce Q S _ (A.lower lA'.out) (B.lower lB'.out)).mono ?_; rintro e w' ⟨fb, fo, fn, fc, rfl, h2, hb⟩; have bb := below_then bb (Nat.le_refl _) hb; have x0 := x0.later hb; have x1 := x1.later hb; have x2 := x2.later hb; have A := A.below hb; have B := B.below hb; have h1 := h1.below hb; clear hb; have sa6 := True.intro)
  | (go_at_call 111; clear sa6; refine (make_any eb fb eo fo en ec fn fc (P * R) ((Q : Int) * S) _ (h1.whole (mul_32 lA'.out.abs_lt lB'.out.abs_lt) (by omega)) (h2.whole (mul_32 lA'.out.bot_lt lB'.out.bot_lt) (by omega))).mono ?_; rintro e w' ⟨gb, gp, gn, gc, gq, gm, ge, rfl, hR, hb⟩; have bb := below_then bb (Nat.le_refl _) hb; have x0 := x0.later hb; have x1 := x1.later hb; have x2 := x2.later hb; have A := A.below hb; have B := B.below hb; have h1 := h1.below hb; have h2 := h2.below hb; clear hb; have q0 := x2.c0; have q1 := x2.c1; have q2 := x2.c2; have q3 := x2.fr 0; have q4 := x2.fr 1; have q5 := x2.fr 2; have sa7 := True.intro))
 have z := x2.set (.bool gb) (.slice gp gn gc) (.slice gq gm ge)
 have e0 := z.c0; have e1 := z.c1; have e2 := z.c2
 have x2' := Lib.hid x2; have bb' := Lib.hid bb; have hR' := Lib.hid hR
 clear z x2 bb x0 x1 A B hR h1 h2
 go_wp2_with fail
 refine bodyPost_ret (v := .tuple #[.agg #[.bool gb, .slice gp gn gc, .slice gq gm ge], .int .i64 (mkE (P * R) ((Q : Int) * S))]) (by simp [results, Tryz.results65, go_sem, e0, e1, e2]) rfl ?_
 exact ResPost.stored hR'.out x2'.out bb'.out (by omega)
theorem div4_any (ab : Bool) (ap aq : Option Addr) (an ac am ae : Nat) (P : Int) (Q : Nat) (cb : Bool) (cp cq : Option Addr) (cn cc cm ce : Nat) (R : Int) (S : Nat) (w : World) (A : Rt w ab ap an ac aq am ae P Q) (lA : Low P Q) (B : Rt w cb cp cn cc cq cm ce R S) (lB : Low R S) :
  Calls Tryz.prog 52 #[.agg #[.bool ab, .slice ap an ac, .slice aq am ae], .agg #[.bool cb, .slice cp cn cc, .slice cq cm ce]] w (MakePost (P * S) ((Q : Int) * R) w) := by
 have lA' := Lib.hid lA; have lB' := Lib.hid lB
 have A' := Lib.hid A; have B' := Lib.hid B
 clear lA A lB B
 go_enter Tryz.func52, Tryz.ntmps52
 go_wp2_with fail
 refine gen_wp (fun w' => Below w.heap.size w w' ∧ Box3 w' w.heap.size (.bool ab) (.slice ap an ac) (.slice aq am ae) ∧ Box3 w' (w.heap.size + 1) (.bool cb) (.slice cp cn cc) (.slice cq cm ce) ∧ Box3 w' (w.heap.size + 2) (.bool false) (.slice none 0 0) (.slice none 0 0))
  ⟨((((Below.refl _ _).alloc (Nat.le_refl _) _).alloc (by simp <;> omega) _).alloc (by simp <;> omega) _), (((Box3.new _ _ _ _ rfl).alloc _).alloc _), ((Box3.new _ _ _ _ (by simp <;> omega)).alloc _), (Box3.new _ _ _ _ (by simp <;> omega))⟩ ?_
 rintro w0 ⟨bb, x0, x1, x2⟩
 have bb := bb.drew; have x0 := x0.drew; have x1 := x1.drew; have x2 := x2.drew
 have A := A'.out.below bb; have B := B'.out.below bb
 clear A' B'
 have sb0 := True.intro
 go_region_held3 (fun w' => w'.cell? ⟨w.heap.size, 0, none⟩ = some (.bool ab) ∧ w'.cell? ⟨w.heap.size, 1, none⟩ = some (.slice ap an ac) ∧ w'.cell? ⟨w.heap.size, 2, none⟩ = some (.slice aq am ae) ∧ w'.cell? ⟨(w.heap.size + 1), 0, none⟩ = some (.bool cb) ∧ w'.cell? ⟨(w.heap.size + 1), 1, none⟩ = some (.slice cp cn cc) ∧ w'.cell? ⟨(w.heap.size + 1), 2, none⟩ = some (.slice cq cm ce))
  (first | with_reducible exact ⟨x0.c0, x0.c1, x0.c2, x1.c0, x1.c1, x1.c2⟩ | with_reducible exact ⟨(x0.other3 (by omega) _ _ _).c0, (x0.other3 (by omega) _ _ _).c1, (x0.other3 (by omega) _ _ _).c2, (x1.other3 (by omega) _ _ _).c0, (x1.other3 (by omega) _ _ _).c1, (x1.other3 (by omega) _ _ _).c2⟩ | go_keep)
  (first
  | (go_at_call 107; clear sb0; refine (upper_any ab ap aq an ac am ae _).mono ?_; rintro e w' ⟨rfl, hb⟩; have bb := below_then bb (Nat.le_refl _) hb; have x0 := x0.later hb; have x1 := x1.later hb; have x2 := x2.later hb; have A := A.below hb; have B := B.below hb; clear hb; have sb1 := True.intro)
  | (go_at_call 113; clear sb1; refine (lower_any cb cp cq cn cc cm ce _).mono ?_; rintro e w' ⟨rfl, hb⟩; have bb := below_then bb (Nat.le_refl _) hb; have x0 := x0.later hb; have x1 := x1.later hb; have x2 := x2.later hb; have A := A.below hb; have B := B.below hb; clear hb; have sb2 := True.intro)
  | (go_at_call 112; clear sb2; refine (wMul_any ab false ap cq an ac cm ce P S _ (A.upper lA'.out) (B.lower lB'.out)).mono ?_; rintro e w' ⟨eb, eo, en, ec, rfl, h1, hb⟩; have bb := below_then bb (Nat.le_refl _) hb; have x0 := x0.later hb; have x1 := x1.later hb; have x2 := x2.later hb; have A := A.below hb; have B := B.below hb; clear hb; have sb3 := True.intro)
  | (go_at_call 113; clear sb3; refine (lower_any ab ap aq an ac am ae _).mono ?_; rintro e w' ⟨rfl, hb⟩; have bb := below_then bb (Nat.le_refl _) hb; have x0 := x0.later hb; have x1 := x1.later hb; have x2 := x2.later hb; have A := A.below hb; have B := B.below hb; have h1 := h1.below hb; clear hb; have sb4 := True.intro)
  | (go_at_call 107; clear sb4; refine (upper_any cb cp cq cn cc cm ce _).mono ?_; rintro e w' ⟨rfl, hb⟩; have bb := below_then bb (Nat.le_refl _) hb; have x0 := x0.later hb; have x1 := x1.later hb; have x2 := x2.later hb; have A := A.below hb; have B := B.below hb; have h1 := h1.below hb; clear hb; have sb5 := True.intro)
  | (go_at_call 112; clear sb5; refine (wMul_any false cb aq cp am ae cn cc Q R _ (A.lower lA'.out) (B.upper lB'.out)).mono ?_; rintro e w' ⟨fb, fo, fn, fc, rfl, h2, hb⟩; have bb := below_then bb (Nat.le_refl _) hb; have x0 := x0.later hb; have x1 := x1.later hb; have x2 := x2.later hb; have A := A.below hb; have B := B.below hb; have h1 := h1.below hb; clear hb; have sb6 := True.intro)
  | (go_at_call 111; clear sb6; refine (make_any eb fb eo fo en ec fn fc (P * S) ((Q : Int) * R) _ (h1.whole (mul_32 lA'.out.abs_lt lB'.out.bot_lt) (by omega)) (h2.whole (mul_32 lA'.out.bot_lt lB'.out.abs_lt) (by omega))).mono ?_; rintro e w' ⟨gb, gp, gn, gc, gq, gm, ge, rfl, hR, hb⟩; have bb := below_then bb (Nat.le_refl _) hb; have x0 := x0.later hb; have x1 := x1.later hb; have x2 := x2.later hb; have A := A.below hb; have B := B.below hb; have h1 := h1.below hb; have h2 := h2.below hb; clear hb; have q0 := x2.c0; have q1 := x2.c1; have q2 := x2.c2; have q3 := x2.fr 0; have q4 := x2.fr 1; have q5 := x2.fr 2; have sb7 := True.intro))
 have z := x2.set (.bool gb) (.slice gp gn gc) (.slice gq gm ge)
 have e0 := z.c0; have e1 := z.c1; have e2 := z.c2
 have x2' := Lib.hid x2; have bb' := Lib.hid bb; have hR' := Lib.hid hR
 clear z x2 bb x0 x1 A B hR h1 h2
 go_wp2_with fail
 refine bodyPost_ret (v := .tuple #[.agg #[.bool gb, .slice gp gn gc, .slice gq gm ge], .int .i64 (mkE (P * S) ((Q : Int) * R))]) (by simp [results, Tryz.results52, go_sem, e0, e1, e2]) rfl ?_
 exact ResPost.stored hR'.out x2'.out bb'.out (by omega)
theorem sum_64 {x y : Int} (hx : x.natAbs < pw 64) (hy : y.natAbs < pw 64) : (x + y).natAbs < pw 65 := add_abs hx hy
theorem add4_any (ab : Bool) (ap aq : Option Addr) (an ac am ae : Nat) (P : Int) (Q : Nat) (cb : Bool) (cp cq : Option Addr) (cn cc cm ce : Nat) (R : Int) (S : Nat) (w : World) (A : Rt w ab ap an ac aq am ae P Q) (lA : Low P Q) (B : Rt w cb cp cn cc cq cm ce R S) (lB : Low R S) :
  Calls Tryz.prog 63 #[.agg #[.bool ab, .slice ap an ac, .slice aq am ae], .agg #[.bool cb, .slice cp cn cc, .slice cq cm ce]] w (MakePost (P * S + R * Q) ((Q : Int) * S) w) := by
 have lA' := Lib.hid lA; have lB' := Lib.hid lB
 have A' := Lib.hid A; have B' := Lib.hid B
 clear lA A lB B
 go_enter Tryz.func63, Tryz.ntmps63
 go_wp2_with fail
 refine gen_wp (fun w' => Below w.heap.size w w' ∧ Box3 w' w.heap.size (.bool ab) (.slice ap an ac) (.slice aq am ae) ∧ Box3 w' (w.heap.size + 1) (.bool cb) (.slice cp cn cc) (.slice cq cm ce) ∧ Box3 w' (w.heap.size + 2) (.bool false) (.slice none 0 0) (.slice none 0 0))
  ⟨((((Below.refl _ _).alloc (Nat.le_refl _) _).alloc (by simp <;> omega) _).alloc (by simp <;> omega) _), (((Box3.new _ _ _ _ rfl).alloc _).alloc _), ((Box3.new _ _ _ _ (by simp <;> omega)).alloc _), (Box3.new _ _ _ _ (by simp <;> omega))⟩ ?_
 rintro u0 ⟨bb, x0, x1, x2⟩
 have A := A'.out.below bb; have B := B'.out.below bb
 clear A' B'
 go_cut [6] from 18 to 27 (fun t wx => ∃ B eb eo en ec, t = .pointer (some ⟨B, 0, none⟩) ∧ Box wx B (.bool eb) (.slice eo en ec) ∧ Box3 wx w.heap.size (.bool ab) (.slice ap an ac) (.slice aq am ae) ∧ Box3 wx (w.heap.size + 1) (.bool cb) (.slice cp cn cc) (.slice cq cm ce) ∧ Box3 wx (w.heap.size + 2) (.bool false) (.slice none 0 0) (.slice none 0 0) ∧ Rt wx ab ap an ac aq am ae P Q ∧ Rt wx cb cp cn cc cq cm ce R S ∧ Right wx eb eo en ec (P * S + R * Q) ∧ Below w.heap.size w wx ∧ w.heap.size + 2 < B)
 case first =>
  have lx0 := x0.lt
  have lx1 := x1.lt
  have lx2 := x2.lt
  have bs := bb.size
  have sc0 := True.intro
  go_region_held3 (fun w' => w'.cell? ⟨w.heap.size, 0, none⟩ = some (.bool ab) ∧ w'.cell? ⟨w.heap.size, 1, none⟩ = some (.slice ap an ac) ∧ w'.cell? ⟨w.heap.size, 2, none⟩ = some (.slice aq am ae) ∧ w'.cell? ⟨(w.heap.size + 1), 0, none⟩ = some (.bool cb) ∧ w'.cell? ⟨(w.heap.size + 1), 1, none⟩ = some (.slice cp cn cc) ∧ w'.cell? ⟨(w.heap.size + 1), 2, none⟩ = some (.slice cq cm ce))
   (first | with_reducible exact ⟨(x0.drew).c0, (x0.drew).c1, (x0.drew).c2, (x1.drew).c0, (x1.drew).c1, (x1.drew).c2⟩ | with_reducible exact ⟨((x0.alloc _).drew).c0, ((x0.alloc _).drew).c1, ((x0.alloc _).drew).c2, ((x1.alloc _).drew).c0, ((x1.alloc _).drew).c1, ((x1.alloc _).drew).c2⟩ | with_reducible exact ⟨x0.c0, x0.c1, x0.c2, x1.c0, x1.c1, x1.c2⟩ | with_reducible exact ⟨(x0.alloc _).c0, (x0.alloc _).c1, (x0.alloc _).c2, (x1.alloc _).c0, (x1.alloc _).c1, (x1.alloc _).c2⟩ | with_reducible exact ⟨(x0.other (by omega) _ _).c0, (x0.other (by omega) _ _).c1, (x0.other (by omega) _ _).c2, (x1.other (by omega) _ _).c0, (x1.other (by omega) _ _).c1, (x1.other (by omega) _ _).c2⟩ | go_keep)
   (first
   | (go_at_call 107; clear sc0; refine (upper_any ab ap aq an ac am ae _).mono ?_; rintro e u1 ⟨rfl, hb⟩; have hc : Below u0.heap.size u0 u1 := (by first | exact (Below.refl _ _).drew.trans hb | exact ((Below.refl _ _).alloc (by first | exact Nat.le_refl _ | (simp; done) | (simp; omega)) _).drew.trans (hb.mono (by simp <;> omega))); have hz0 := hc.size; have x0 := x0.later hc; have x1 := x1.later hc; have x2 := x2.later hc; have A := A.below hc; have B := B.below hc; have bb := below_then bb (Nat.le_refl _) hc; (first | (with_reducible have m10 := made1' hb) | skip); (try have k10 := m10.lt); clear hb hc; have sc1 := True.intro)
   | (go_at_call 113; clear sc1; refine (lower_any cb cp cq cn cc cm ce _).mono ?_; rintro e u2 ⟨rfl, hb⟩; have hc : Below u1.heap.size u1 u2 := (by first | with_reducible exact hb | exact ((Below.refl _ _).alloc (by first | exact Nat.le_refl _ | (simp; done) | (simp; omega)) _).trans (hb.mono (by simp <;> omega))); have hz1 := hc.size; have x0 := x0.later hc; have x1 := x1.later hc; have x2 := x2.later hc; have A := A.below hc; have B := B.below hc; have bb := below_then bb (Nat.le_refl _) hc; (try have m10 := m10.later hc); (first | (with_reducible have m20 := made1 hb) | skip); (try have k20 := m20.lt); clear hb hc; have sc2 := True.intro)
   | (go_at_call 112; clear sc2; refine (wMul_any ab false ap cq an ac cm ce P S _ ?_ ?_).mono ?_; (first | with_reducible exact (A).upper lA'.out | with_reducible exact ((A.alloc _)).upper lA'.out); (first | with_reducible exact (B).lower lB'.out | with_reducible exact ((B.alloc _)).lower lB'.out); rintro e u3 ⟨db, do_, dn, dc, rfl, h1, hb⟩; have hc : Below u2.heap.size u2 u3 := (by first | with_reducible exact hb | exact ((Below.refl _ _).alloc (by first | exact Nat.le_refl _ | (simp; done) | (simp; omega)) _).trans (hb.mono (by simp <;> omega))); have hz2 := hc.size; have x0 := x0.later hc; have x1 := x1.later hc; have x2 := x2.later hc; have A := A.below hc; have B := B.below hc; have bb := below_then bb (Nat.le_refl _) hc; (try have m10 := m10.later hc); (try have m20 := m20.later hc); (first | (with_reducible have m30 := made1 hb) | skip); (try have k30 := m30.lt); clear hb hc; have sc3 := True.intro)
   | (go_at_call 107; clear sc3; refine (upper_any cb cp cq cn cc cm ce _).mono ?_; rintro e u4 ⟨rfl, hb⟩; have hc : Below u3.heap.size u3 u4 := (by first | with_reducible exact hb | exact ((Below.refl _ _).alloc (by first | exact Nat.le_refl _ | (simp; done) | (simp; omega)) _).trans (hb.mono (by simp <;> omega))); have hz3 := hc.size; have x0 := x0.later hc; have x1 := x1.later hc; have x2 := x2.later hc; have A := A.below hc; have B := B.below hc; have h1 := h1.below hc; have bb := below_then bb (Nat.le_refl _) hc; (try have m10 := m10.later hc); (try have m20 := m20.later hc); (try have m30 := m30.later hc); (first | (with_reducible have m40 := made1 hb) | skip); (try have k40 := m40.lt); clear hb hc; have sc4 := True.intro)
   | (go_at_call 113; clear sc4; refine (lower_any ab ap aq an ac am ae _).mono ?_; rintro e u5 ⟨rfl, hb⟩; have hc : Below u4.heap.size u4 u5 := (by first | with_reducible exact hb | exact ((Below.refl _ _).alloc (by first | exact Nat.le_refl _ | (simp; done) | (simp; omega)) _).trans (hb.mono (by simp <;> omega))); have hz4 := hc.size; have x0 := x0.later hc; have x1 := x1.later hc; have x2 := x2.later hc; have A := A.below hc; have B := B.below hc; have h1 := h1.below hc; have bb := below_then bb (Nat.le_refl _) hc; (try have m10 := m10.later hc); (try have m20 := m20.later hc); (try have m30 := m30.later hc); (try have m40 := m40.later hc); (first | (with_reducible have m50 := made1 hb) | skip); (try have k50 := m50.lt); clear hb hc; have sc5 := True.intro)
   | (go_at_call 112; clear sc5; refine (wMul_any cb false cp aq cn cc am ae R Q _ ?_ ?_).mono ?_; (first | with_reducible exact (B).upper lB'.out | with_reducible exact ((B.alloc _)).upper lB'.out); (first | with_reducible exact (A).lower lA'.out | with_reducible exact ((A.alloc _)).lower lA'.out); rintro e u6 ⟨fb, fo, fn, fc, rfl, h2, hb⟩; have hc : Below u5.heap.size u5 u6 := (by first | with_reducible exact hb | exact ((Below.refl _ _).alloc (by first | exact Nat.le_refl _ | (simp; done) | (simp; omega)) _).trans (hb.mono (by simp <;> omega))); have hz5 := hc.size; have x0 := x0.later hc; have x1 := x1.later hc; have x2 := x2.later hc; have A := A.below hc; have B := B.below hc; have h1 := h1.below hc; have bb := below_then bb (Nat.le_refl _) hc; (try have m10 := m10.later hc); (try have m20 := m20.later hc); (try have m30 := m30.later hc); (try have m40 := m40.later hc); (try have m50 := m50.later hc); (first | (with_reducible have m60 := made1 hb) | skip); (try have k60 := m60.lt); clear hb hc; have sc6 := True.intro)
   | (go_at_call 122; clear sc6; refine (wAdd_any db fb do_ fo dn dc fn fc (P * S) (R * Q) _ ?_ ?_).mono ?_; (first | with_reducible exact (h1).whole (mul_32 lA'.out.abs_lt lB'.out.bot_lt) (by omega) | with_reducible exact ((h1.alloc _)).whole (mul_32 lA'.out.abs_lt lB'.out.bot_lt) (by omega)); (first | with_reducible exact (h2).whole (mul_32 lB'.out.abs_lt lA'.out.bot_lt) (by omega) | with_reducible exact ((h2.alloc _)).whole (mul_32 lB'.out.abs_lt lA'.out.bot_lt) (by omega)); rintro e u7 ⟨eb, eo, en, ec, rfl, h3, hb⟩; have hc : Below u6.heap.size u6 u7 := (by first | with_reducible exact hb | exact ((Below.refl _ _).alloc (by first | exact Nat.le_refl _ | (simp; done) | (simp; omega)) _).trans (hb.mono (by simp <;> omega))); have hz6 := hc.size; have x0 := x0.later hc; have x1 := x1.later hc; have x2 := x2.later hc; have A := A.below hc; have B := B.below hc; have h1 := h1.below hc; have h2 := h2.below hc; have bb := below_then bb (Nat.le_refl _) hc; (try have m10 := m10.later hc); (try have m20 := m20.later hc); (try have m30 := m30.later hc); (try have m40 := m40.later hc); (try have m50 := m50.later hc); (try have m60 := m60.later hc); (first | (with_reducible have m70 := made1 hb) | skip); (try have k70 := m70.lt); (try (have f100 := m10.c0; have f101 := m10.c1; have f102 := m10.fr 0; have f103 := m10.fr 1)); (try (have f200 := m20.c0; have f201 := m20.c1; have f202 := m20.fr 0; have f203 := m20.fr 1)); (try (have f300 := m30.c0; have f301 := m30.c1; have f302 := m30.fr 0; have f303 := m30.fr 1)); (try (have f400 := m40.c0; have f401 := m40.c1; have f402 := m40.fr 0; have f403 := m40.fr 1)); (try (have f500 := m50.c0; have f501 := m50.c1; have f502 := m50.fr 0; have f503 := m50.fr 1)); (try (have f600 := m60.c0; have f601 := m60.c1; have f602 := m60.fr 0; have f603 := m60.fr 1)); (try (have f700 := m70.c0; have f701 := m70.c1; have f702 := m70.fr 0; have f703 := m70.fr 1)); clear hb hc; have sc7 := True.intro))
  ·go_wp2_with fail; go_meet; exact ⟨_, eb, eo, en, ec, rfl, (Box.new _ _ _ (by first | (simp; done) | rfl)), (x0.alloc _), (x1.alloc _), (x2.alloc _), (A.alloc _), (B.alloc _), (h3.alloc _), (Below.alloc bb (by first | omega | simp <;> omega) _), (by first | omega | (simp; omega))⟩
  ·go_wp2_with fail; go_meet; exact ⟨_, eb, eo, en, ec, rfl, (m70.set _ _), (x0.other (by omega) _ _), (x1.other (by omega) _ _), (x2.other (by omega) _ _), (A.box m70 _ _), (B.box m70 _ _), (h3.box m70 _ _), (below_set bb (by omega) _ _), (by first | omega | (simp; omega))⟩
  ·go_wp2_with fail; go_meet; exact ⟨_, eb, eo, en, ec, rfl, (m60.set _ _), (x0.other (by omega) _ _), (x1.other (by omega) _ _), (x2.other (by omega) _ _), (A.box m60 _ _), (B.box m60 _ _), (h3.box m60 _ _), (below_set bb (by omega) _ _), (by first | omega | (simp; omega))⟩
  ·go_wp2_with fail; go_meet; exact ⟨_, eb, eo, en, ec, rfl, (m50.set _ _), (x0.other (by omega) _ _), (x1.other (by omega) _ _), (x2.other (by omega) _ _), (A.box m50 _ _), (B.box m50 _ _), (h3.box m50 _ _), (below_set bb (by omega) _ _), (by first | omega | (simp; omega))⟩
  ·go_wp2_with fail; go_meet; exact ⟨_, eb, eo, en, ec, rfl, (m40.set _ _), (x0.other (by omega) _ _), (x1.other (by omega) _ _), (x2.other (by omega) _ _), (A.box m40 _ _), (B.box m40 _ _), (h3.box m40 _ _), (below_set bb (by omega) _ _), (by first | omega | (simp; omega))⟩
  ·go_wp2_with fail; go_meet; exact ⟨_, eb, eo, en, ec, rfl, (m30.set _ _), (x0.other (by omega) _ _), (x1.other (by omega) _ _), (x2.other (by omega) _ _), (A.box m30 _ _), (B.box m30 _ _), (h3.box m30 _ _), (below_set bb (by omega) _ _), (by first | omega | (simp; omega))⟩
  ·go_wp2_with fail; go_meet; exact ⟨_, eb, eo, en, ec, rfl, (m20.set _ _), (x0.other (by omega) _ _), (x1.other (by omega) _ _), (x2.other (by omega) _ _), (A.box m20 _ _), (B.box m20 _ _), (h3.box m20 _ _), (below_set bb (by omega) _ _), (by first | omega | (simp; omega))⟩
  ·go_wp2_with fail; go_meet; exact ⟨_, eb, eo, en, ec, rfl, (m10.set _ _), (x0.other (by omega) _ _), (x1.other (by omega) _ _), (x2.other (by omega) _ _), (A.box m10 _ _), (B.box m10 _ _), (h3.box m10 _ _), (below_set bb (by omega) _ _), (by first | omega | (simp; omega))⟩
 case rest =>
  obtain ⟨Y, eb, eo, en, ec, rfl, y, x0, x1, x2, A, B, h1, bb, hY⟩ := hcut
  go_wp2_with fail
  have bb := bb.drew; have x0 := x0.drew; have x1 := x1.drew; have x2 := x2.drew; have y := y.drew; have A := A.drew; have B := B.drew; have h1 := h1.drew'
  have sd0 := True.intro
  go_region_held3 (fun w' => w'.cell? ⟨w.heap.size, 0, none⟩ = some (.bool ab) ∧ w'.cell? ⟨w.heap.size, 1, none⟩ = some (.slice ap an ac) ∧ w'.cell? ⟨w.heap.size, 2, none⟩ = some (.slice aq am ae) ∧ w'.cell? ⟨(w.heap.size + 1), 0, none⟩ = some (.bool cb) ∧ w'.cell? ⟨(w.heap.size + 1), 1, none⟩ = some (.slice cp cn cc) ∧ w'.cell? ⟨(w.heap.size + 1), 2, none⟩ = some (.slice cq cm ce) ∧ w'.cell? ⟨Y, 0, none⟩ = some (.bool eb) ∧ w'.cell? ⟨Y, 1, none⟩ = some (.slice eo en ec))
   (first | with_reducible exact ⟨x0.c0, x0.c1, x0.c2, x1.c0, x1.c1, x1.c2, y.c0, y.c1⟩ | with_reducible exact ⟨(x0.other3 (by omega) _ _ _).c0, (x0.other3 (by omega) _ _ _).c1, (x0.other3 (by omega) _ _ _).c2, (x1.other3 (by omega) _ _ _).c0, (x1.other3 (by omega) _ _ _).c1, (x1.other3 (by omega) _ _ _).c2, (y.other3 (by omega) _ _ _).c0, (y.other3 (by omega) _ _ _).c1⟩ | go_keep)
   (first
   | (go_at_call 113; clear sd0; refine (lower_any ab ap aq an ac am ae _).mono ?_; rintro e w' ⟨rfl, hb⟩; have bb := below_then bb (Nat.le_refl _) hb; have x0 := x0.later hb; have x1 := x1.later hb; have x2 := x2.later hb; have y := y.later hb; have A := A.below hb; have B := B.below hb; have h1 := h1.below hb; clear hb; have sd1 := True.intro)
   | (go_at_call 113; clear sd1; refine (lower_any cb cp cq cn cc cm ce _).mono ?_; rintro e w' ⟨rfl, hb⟩; have bb := below_then bb (Nat.le_refl _) hb; have x0 := x0.later hb; have x1 := x1.later hb; have x2 := x2.later hb; have y := y.later hb; have A := A.below hb; have B := B.below hb; have h1 := h1.below hb; clear hb; have sd2 := True.intro)
   | (go_at_call 112; clear sd2; refine (wMul_any false false aq cq am ae cm ce Q S _ (A.lower lA'.out) (B.lower lB'.out)).mono ?_; rintro e w' ⟨fb, fo, fn, fc, rfl, h2, hb⟩; have bb := below_then bb (Nat.le_refl _) hb; have x0 := x0.later hb; have x1 := x1.later hb; have x2 := x2.later hb; have y := y.later hb; have A := A.below hb; have B := B.below hb; have h1 := h1.below hb; clear hb; have sd3 := True.intro)
   | (go_at_call 111; clear sd3; refine (make_any eb fb eo fo en ec fn fc (P * S + R * Q) ((Q : Int) * S) _ (h1.whole (sum_64 (mul_32 lA'.out.abs_lt lB'.out.bot_lt) (mul_32 lB'.out.abs_lt lA'.out.bot_lt)) (by omega)) (h2.whole (mul_32 lA'.out.bot_lt lB'.out.bot_lt) (by omega))).mono ?_; rintro e w' ⟨gb, gp, gn, gc, gq, gm, ge, rfl, hR, hb⟩; have bb := below_then bb (Nat.le_refl _) hb; have x0 := x0.later hb; have x1 := x1.later hb; have x2 := x2.later hb; have y := y.later hb; have A := A.below hb; have B := B.below hb; have h1 := h1.below hb; have h2 := h2.below hb; clear hb; have q0 := x2.c0; have q1 := x2.c1; have q2 := x2.c2; have q3 := x2.fr 0; have q4 := x2.fr 1; have q5 := x2.fr 2; have sd4 := True.intro))
  have z := x2.set (.bool gb) (.slice gp gn gc) (.slice gq gm ge)
  have e0 := z.c0; have e1 := z.c1; have e2 := z.c2
  have x2' := Lib.hid x2; have bb' := Lib.hid bb; have hR' := Lib.hid hR
  clear z x2 bb x0 x1 y A B hR h1 h2
  go_wp2_with fail
  refine bodyPost_ret (v := .tuple #[.agg #[.bool gb, .slice gp gn gc, .slice gq gm ge], .int .i64 (mkE (P * S + R * Q) ((Q : Int) * S))]) (by simp [results, Tryz.results63, go_sem, e0, e1, e2]) rfl ?_
  exact ResPost.stored hR'.out x2'.out bb'.out (by omega)
theorem sub4_any (ab : Bool) (ap aq : Option Addr) (an ac am ae : Nat) (P : Int) (Q : Nat) (cb : Bool) (cp cq : Option Addr) (cn cc cm ce : Nat) (R : Int) (S : Nat) (w : World) (A : Rt w ab ap an ac aq am ae P Q) (lA : Low P Q) (B : Rt w cb cp cn cc cq cm ce R S) (lB : Low R S) :
  Calls Tryz.prog 64 #[.agg #[.bool ab, .slice ap an ac, .slice aq am ae], .agg #[.bool cb, .slice cp cn cc, .slice cq cm ce]] w (MakePost (P * S + -R * Q) ((Q : Int) * S) w) := by
 have lA' := Lib.hid lA; have lB' := Lib.hid lB
 have A' := Lib.hid A; have B' := Lib.hid B
 clear lA A lB B
 go_enter Tryz.func64, Tryz.ntmps64
 go_wp2_with fail
 refine gen_wp (fun w' => Below w.heap.size w w' ∧ Box3 w' w.heap.size (.bool ab) (.slice ap an ac) (.slice aq am ae) ∧ Box3 w' (w.heap.size + 1) (.bool cb) (.slice cp cn cc) (.slice cq cm ce) ∧ Box3 w' (w.heap.size + 2) (.bool false) (.slice none 0 0) (.slice none 0 0))
  ⟨((((Below.refl _ _).alloc (Nat.le_refl _) _).alloc (by simp <;> omega) _).alloc (by simp <;> omega) _), (((Box3.new _ _ _ _ rfl).alloc _).alloc _), ((Box3.new _ _ _ _ (by simp <;> omega)).alloc _), (Box3.new _ _ _ _ (by simp <;> omega))⟩ ?_
 rintro w0 ⟨bb, x0, x1, x2⟩
 have bb := bb.drew; have x0 := x0.drew; have x1 := x1.drew; have x2 := x2.drew
 have A := A'.out.below bb; have B := B'.out.below bb
 clear A' B'
 have se0 := True.intro
 go_region_held3 (fun w' => w'.cell? ⟨w.heap.size, 0, none⟩ = some (.bool ab) ∧ w'.cell? ⟨w.heap.size, 1, none⟩ = some (.slice ap an ac) ∧ w'.cell? ⟨w.heap.size, 2, none⟩ = some (.slice aq am ae) ∧ w'.cell? ⟨(w.heap.size + 1), 0, none⟩ = some (.bool cb) ∧ w'.cell? ⟨(w.heap.size + 1), 1, none⟩ = some (.slice cp cn cc) ∧ w'.cell? ⟨(w.heap.size + 1), 2, none⟩ = some (.slice cq cm ce))
  (first | with_reducible exact ⟨x0.c0, x0.c1, x0.c2, x1.c0, x1.c1, x1.c2⟩ | with_reducible exact ⟨(x0.other3 (by omega) _ _ _).c0, (x0.other3 (by omega) _ _ _).c1, (x0.other3 (by omega) _ _ _).c2, (x1.other3 (by omega) _ _ _).c0, (x1.other3 (by omega) _ _ _).c1, (x1.other3 (by omega) _ _ _).c2⟩ | go_keep)
  (first
  | (go_at_call 49; clear se0; refine (neg_any cb cp cq cn cc cm ce R S _ B lB'.out).mono ?_; rintro e w' ⟨db, dp, dn, dc, dq, dm, de, rfl, N, hb⟩; have bb := below_then bb (Nat.le_refl _) hb; have x0 := x0.later hb; have x1 := x1.later hb; have x2 := x2.later hb; have A := A.below hb; have B := B.below hb; clear hb; have se1 := True.intro)
  | (go_at_call 63; clear se1; refine (add4_any ab ap aq an ac am ae P Q db dp dq dn dc dm de (-R) S _ A lA'.out N lB'.out.neg).mono ?_; rintro e w' ⟨gb, gp, gn, gc, gq, gm, ge, rfl, hR, hb⟩; have bb := below_then bb (Nat.le_refl _) hb; have x0 := x0.later hb; have x1 := x1.later hb; have x2 := x2.later hb; have A := A.below hb; have B := B.below hb; have N := N.below hb; clear hb; have q0 := x2.c0; have q1 := x2.c1; have q2 := x2.c2; have q3 := x2.fr 0; have q4 := x2.fr 1; have q5 := x2.fr 2; have se2 := True.intro))
 have z := x2.set (.bool gb) (.slice gp gn gc) (.slice gq gm ge)
 have e0 := z.c0; have e1 := z.c1; have e2 := z.c2
 have x2' := Lib.hid x2; have bb' := Lib.hid bb; have hR' := Lib.hid hR
 clear z x2 bb x0 x1 A B hR N
 go_wp2_with fail
 refine bodyPost_ret (v := .tuple #[.agg #[.bool gb, .slice gp gn gc, .slice gq gm ge], .int .i64 (mkE (P * S + -R * Q) ((Q : Int) * S))]) (by simp [results, Tryz.results64, go_sem, e0, e1, e2]) rfl ?_
 exact ResPost.stored hR'.out x2'.out bb'.out (by omega)
end Go.Proofs.YtaepelipkkmeaaaGreat
