/-
  scrimref03.Add, Sub, Cmp, Mul.
-/
import Derived.Test.YtnnipciifjpooaaRa
import Derived.Test.YtnnipciifjpooaaRefC
import Derived.Deep.CutRange
namespace Go.Proofs.Ytnnipciifjpooaa
open Go.RowKit Num

attribute [local go_sem ↓] Go.wp_at_zero Go.wp_at_succ

theorem Whole.alloc {w : World} {b : Bool} {ao : Option Addr} {n nc : Nat} {x : Int} (h : Whole w b ao n nc x) (o : Obj) : Whole (w.alloc o) b ao n nc x := h.below ((Below.refl _ w).alloc (Nat.le_refl _) o)
theorem Right.alloc {w : World} {b : Bool} {ao : Option Addr} {n nc : Nat} {x : Int} (h : Right w b ao n nc x) (o : Obj) : Right (w.alloc o) b ao n nc x := h.below ((Below.refl _ w).alloc (Nat.le_refl _) o)
theorem small2 {v k : Nat} (hk : k ≤ 1000000) (h : v < pw k) : v < pw 1000000 := Nat.lt_of_lt_of_le h (pw_le hk)
theorem sum_small {u v k : Nat} (hk : k + 1 ≤ 1000000) (hu : u < pw k) (hv : v < pw k) : u + v < pw 1000000 := by
  have e : pw (k + 1) = 4294967296 * pw k := rfl
  exact Nat.lt_of_lt_of_le (m := pw (k + 1)) (by omega) (pw_le hk)
theorem Whole.drew {w : World} {b : Bool} {ao : Option Addr} {n nc : Nat} {x : Int} (h : Whole w b ao n nc x) : Whole w.drew b ao n nc x := h.below (Below.refl _ w).drew
theorem made1' {W w' : World} {u0 u1 : Value} {t : TypeId} (hb : Below (W.alloc (.cells #[u0, u1] t)).drew.heap.size (W.alloc (.cells #[u0, u1] t)).drew w') : Box w' W.heap.size u0 u1 := (Box.new u0 u1 t rfl).drew.later hb
theorem made2' {W w' : World} {u0 u1 v0 v1 : Value} {t s : TypeId} (hb : Below ((W.alloc (.cells #[u0, u1] t)).alloc (.cells #[v0, v1] s)).drew.heap.size ((W.alloc (.cells #[u0, u1] t)).alloc (.cells #[v0, v1] s)).drew w') :
    Box w' W.heap.size u0 u1 ∧ Box w' (W.heap.size + 1) v0 v1 := ⟨((Box.new u0 u1 t rfl).alloc _).drew.later hb, (Box.new v0 v1 s (by simp)).drew.later hb⟩
theorem made3' {W w' : World} {u0 u1 v0 v1 x0 x1 : Value} {t s r : TypeId} (hb : Below (((W.alloc (.cells #[u0, u1] t)).alloc (.cells #[v0, v1] s)).alloc (.cells #[x0, x1] r)).drew.heap.size (((W.alloc (.cells #[u0, u1] t)).alloc (.cells #[v0, v1] s)).alloc (.cells #[x0, x1] r)).drew w') :
    Box w' W.heap.size u0 u1 ∧ Box w' (W.heap.size + 1) v0 v1 ∧ Box w' (W.heap.size + 2) x0 x1 := ⟨(((Box.new u0 u1 t rfl).alloc _).alloc _).drew.later hb, ((Box.new v0 v1 s (by simp)).alloc _).drew.later hb, (Box.new x0 x1 r (by simp)).drew.later hb⟩
theorem made1 {W w' : World} {u0 u1 : Value} {t : TypeId} (hb : Below (W.alloc (.cells #[u0, u1] t)).heap.size (W.alloc (.cells #[u0, u1] t)) w') : Box w' W.heap.size u0 u1 := (Box.new u0 u1 t rfl).later hb
theorem made2 {W w' : World} {u0 u1 v0 v1 : Value} {t s : TypeId} (hb : Below ((W.alloc (.cells #[u0, u1] t)).alloc (.cells #[v0, v1] s)).heap.size ((W.alloc (.cells #[u0, u1] t)).alloc (.cells #[v0, v1] s)) w') :
    Box w' W.heap.size u0 u1 ∧ Box w' (W.heap.size + 1) v0 v1 := ⟨((Box.new u0 u1 t rfl).alloc _).later hb, (Box.new v0 v1 s (by simp)).later hb⟩
theorem made3 {W w' : World} {u0 u1 v0 v1 x0 x1 : Value} {t s r : TypeId} (hb : Below (((W.alloc (.cells #[u0, u1] t)).alloc (.cells #[v0, v1] s)).alloc (.cells #[x0, x1] r)).heap.size (((W.alloc (.cells #[u0, u1] t)).alloc (.cells #[v0, v1] s)).alloc (.cells #[x0, x1] r)) w') :
    Box w' W.heap.size u0 u1 ∧ Box w' (W.heap.size + 1) v0 v1 ∧ Box w' (W.heap.size + 2) x0 x1 := ⟨(((Box.new u0 u1 t rfl).alloc _).alloc _).later hb, ((Box.new v0 v1 s (by simp)).alloc _).later hb, (Box.new x0 x1 r (by simp)).later hb⟩

set_option maxHeartbeats 4000000 in
theorem rAdd_any (b c : Bool) (ao bo : Option Addr) (n nc m mc : Nat) (x y : Int) (w : World) (A : Whole w b ao n nc x) (B : Whole w c bo m mc y) (M : Nat) (hM : M ≤ 1000) (hx : x.natAbs < pw M) (hy : y.natAbs < pw M) :
    Calls Try.prog 48 #[.agg #[.bool b, .slice ao n nc], .agg #[.bool c, .slice bo m mc]] w (IntPost (x + y) w) := by
  have A' := Lib.hid A; have B' := Lib.hid B
  clear A B
  go_enter Try.func48, Try.ntmps48
  go_upto_region 1 with fail
  refine gen_wp (fun w' => Below w.heap.size w w' ∧ Box w' w.heap.size (.bool b) (.slice ao n nc) ∧ Box w' (w.heap.size + 1) (.bool c) (.slice bo m mc) ∧ Box w' (w.heap.size + 2) (.bool false) (.slice none 0 0))
    ⟨((((Below.refl _ w).alloc (Nat.le_refl _) _).alloc (by first | (simp; done) | (simp; omega)) _).alloc (by first | (simp; done) | (simp; omega)) _), (((Box.new _ _ _ rfl).alloc _).alloc _), ((Box.new _ _ _ (by first | (simp; done) | (simp; omega))).alloc _), (Box.new _ _ _ (by first | (simp; done) | (simp; omega)))⟩ ?_
  rintro w0 ⟨hb0, x0, x1, x2⟩
  go_cut [5, 6] from 11 to 14 (fun s t wx => ∃ P Q sb so sn sc tb to_ tn tc, s = .pointer (some ⟨P, 0, none⟩) ∧ t = .pointer (some ⟨Q, 0, none⟩) ∧ Box wx P (.bool sb) (.slice so sn sc) ∧ Box wx Q (.bool tb) (.slice to_ tn tc) ∧ Box wx (w.heap.size + 2) (.bool false) (.slice none 0 0) ∧ 
    w.heap.size ≤ P ∧ w.heap.size ≤ Q ∧ P ≠ Q ∧ P ≠ w.heap.size + 2 ∧ Q ≠ w.heap.size + 2 ∧ Right wx sb so sn sc x ∧ Right wx tb to_ tn tc y ∧ Below w.heap.size w wx)
  case first =>
    have l0 := x0.lt; have l1 := x1.lt; have l2 := x2.lt; have gs0 := hb0.size
    have gb0 := hb0
    have A0 := A'.out.below gb0; have B0 := B'.out.below gb0
    go_region_held3 (fun w' => w'.cell? ⟨w.heap.size, 0, none⟩ = some (.bool b) ∧ w'.cell? ⟨w.heap.size, 1, none⟩ = some (.slice ao n nc) ∧ w'.cell? ⟨w.heap.size + 1, 0, none⟩ = some (.bool c) ∧ w'.cell? ⟨w.heap.size + 1, 1, none⟩ = some (.slice bo m mc))
      (first | with_reducible exact ⟨x0.drew.c0, x0.drew.c1, x1.drew.c0, x1.drew.c1⟩ | with_reducible exact ⟨(x0.alloc _).drew.c0, (x0.alloc _).drew.c1, (x1.alloc _).drew.c0, (x1.alloc _).drew.c1⟩ | with_reducible exact ⟨((x0.alloc _).alloc _).drew.c0, ((x0.alloc _).alloc _).drew.c1, ((x1.alloc _).alloc _).drew.c0, ((x1.alloc _).alloc _).drew.c1⟩ | with_reducible exact ⟨y0.c0, y0.c1, y1.c0, y1.c1⟩ | with_reducible exact ⟨(y0.alloc _).c0, (y0.alloc _).c1, (y1.alloc _).c0, (y1.alloc _).c1⟩ | with_reducible exact ⟨((y0.alloc _).alloc _).c0, ((y0.alloc _).alloc _).c1, ((y1.alloc _).alloc _).c0, ((y1.alloc _).alloc _).c1⟩ | with_reducible exact ⟨z0.c0, z0.c1, z1.c0, z1.c1⟩ | with_reducible exact ⟨(z0.alloc _).c0, (z0.alloc _).c1, (z1.alloc _).c0, (z1.alloc _).c1⟩ | with_reducible exact ⟨((z0.alloc _).alloc _).c0, ((z0.alloc _).alloc _).c1, ((z1.alloc _).alloc _).c0, ((z1.alloc _).alloc _).c1⟩ | with_reducible exact ⟨(z0.other (by omega) _ _).c0, (z0.other (by omega) _ _).c1, (z1.other (by omega) _ _).c0, (z1.other (by omega) _ _).c1⟩ | with_reducible exact ⟨((z0.other (by omega) _ _).alloc _).c0, ((z0.other (by omega) _ _).alloc _).c1, ((z1.other (by omega) _ _).alloc _).c0, ((z1.other (by omega) _ _).alloc _).c1⟩ | with_reducible exact ⟨((z0.other (by omega) _ _).other (by omega) _ _).c0, ((z0.other (by omega) _ _).other (by omega) _ _).c1, ((z1.other (by omega) _ _).other (by omega) _ _).c0, ((z1.other (by omega) _ _).other (by omega) _ _).c1⟩ | go_keep)
      (first
      | (go_at_call_of 69 ao; refine (rNorm_any b ao n nc x _ ?_).mono ?_; (first | with_reducible exact A0.drew | with_reducible exact (A0.alloc _).drew | with_reducible exact ((A0.alloc _).alloc _).drew); rintro e w1 ⟨sb, so, sn, sc, rfl, hR1, hb1⟩; have hc1 : Below w0.heap.size w0 w1 := (by (first | exact (Below.refl _ _).drew.trans hb1 | exact ((Below.refl _ _).alloc (by first | exact Nat.le_refl _ | (simp; done) | (simp; omega)) _).drew.trans (hb1.mono (by first | (simp; done) | (simp; omega))) | exact (((Below.refl _ _).alloc (by first | exact Nat.le_refl _ | (simp; done) | (simp; omega)) _).alloc (by first | exact Nat.le_refl _ | (simp; done) | (simp; omega)) _).drew.trans (hb1.mono (by first | (simp; done) | (simp; omega))))); have hz1 := hc1.size; have y0 := x0.later hc1; have ly0 := y0.lt; have y1 := x1.later hc1; have ly1 := y1.lt; have y2 := x2.later hc1; have ly2 := y2.lt; have B1 := B0.below hc1; have gb1 := below_then gb0 (Nat.le_refl _) hc1; have gs1 := gb1.size; (first | (with_reducible have mm := made2' hb1; obtain ⟨m10, m11⟩ := mm) | (with_reducible have m10 := made1' hb1) | skip); (try have k10 := m10.lt); (try have k11 := m11.lt))
      | (go_at_call_of 69 bo; refine (rNorm_any c bo m mc y _ ?_).mono ?_; (first | with_reducible exact B1 | with_reducible exact (B1.alloc _) | with_reducible exact ((B1.alloc _).alloc _)); rintro e w2 ⟨tb, to_, tn, tc, rfl, hR2, hb2⟩; have hc2 : Below w1.heap.size w1 w2 := (by (first | with_reducible exact hb2 | exact ((Below.refl _ _).alloc (by first | exact Nat.le_refl _ | (simp; done) | (simp; omega)) _).trans (hb2.mono (by first | (simp; done) | (simp; omega))) | exact (((Below.refl _ _).alloc (by first | exact Nat.le_refl _ | (simp; done) | (simp; omega)) _).alloc (by first | exact Nat.le_refl _ | (simp; done) | (simp; omega)) _).trans (hb2.mono (by first | (simp; done) | (simp; omega))))); have hz2 := hc2.size; have z0 := y0.later hc2; have lz0 := z0.lt; have z1 := y1.later hc2; have lz1 := z1.lt; have z2 := y2.later hc2; have lz2 := z2.lt; have hR1 := hR1.below hc2; have gb2 := below_then gb1 (Nat.le_refl _) hc2; have gs2 := gb2.size; (try have m10 := m10.later hc2); (try have m11 := m11.later hc2); (first | (with_reducible have mm := made2 hb2; obtain ⟨m20, m21⟩ := mm) | (with_reducible have m20 := made1 hb2) | skip); (try have k10 := m10.lt); (try have k11 := m11.lt); (try have k20 := m20.lt); (try have k21 := m21.lt); (try (have f100 := m10.c0; have f101 := m10.c1; have f102 := m10.fr 0; have f103 := m10.fr 1)); (try (have f110 := m11.c0; have f111 := m11.c1; have f112 := m11.fr 0; have f113 := m11.fr 1)); (try (have f200 := m20.c0; have f201 := m20.c1; have f202 := m20.fr 0; have f203 := m20.fr 1)); (try (have f210 := m21.c0; have f211 := m21.c1; have f212 := m21.fr 0; have f213 := m21.fr 1))))
    · go_wp2_with fail; go_meet; exact ⟨_, _, _, _, _, _, _, _, _, _, rfl, rfl, ((Box.new _ _ _ (by first | rfl | (simp; done))).alloc _), (Box.new _ _ _ (by first | rfl | (simp; done))), ((z2.alloc _).alloc _), by first | omega | (simp; omega), by first | omega | (simp; omega), by first | omega | (simp; omega), by first | omega | (simp; omega), by first | omega | (simp; omega), ((hR1.alloc _).alloc _), ((hR2.alloc _).alloc _), (Below.alloc (Below.alloc gb2 (by first | omega | (simp; omega) | (simp; done)) _) (by first | omega | (simp; omega) | (simp; done)) _)⟩
    · go_wp2_with fail; go_meet; exact ⟨_, _, _, _, _, _, _, _, _, _, rfl, rfl, (Box.new _ _ _ (by first | rfl | (simp; done))), ((Box.new _ _ _ (by first | rfl | (simp; done))).alloc _), ((z2.alloc _).alloc _), by first | omega | (simp; omega), by first | omega | (simp; omega), by first | omega | (simp; omega), by first | omega | (simp; omega), by first | omega | (simp; omega), ((hR1.alloc _).alloc _), ((hR2.alloc _).alloc _), (Below.alloc (Below.alloc gb2 (by first | omega | (simp; omega) | (simp; done)) _) (by first | omega | (simp; omega) | (simp; done)) _)⟩
    · go_wp2_with fail; go_meet; exact ⟨_, _, _, _, _, _, _, _, _, _, rfl, rfl, ((m20.set _ _).alloc _), (Box.new _ _ _ (by first | rfl | (simp; done))), ((z2.other (by omega) _ _).alloc _), by first | omega | (simp; omega), by first | omega | (simp; omega), by first | omega | (simp; omega), by first | omega | (simp; omega), by first | omega | (simp; omega), ((hR1.box m20 _ _).alloc _), ((hR2.box m20 _ _).alloc _), (Below.alloc (below_set gb2 (by omega) _ _) (by first | omega | (simp; omega) | (simp; done)) _)⟩
    · go_wp2_with fail; go_meet; exact ⟨_, _, _, _, _, _, _, _, _, _, rfl, rfl, ((m20.set _ _).other (by omega) _ _), ((m21.other (by omega) _ _).set _ _), ((z2.other (by omega) _ _).other (by omega) _ _), by first | omega | (simp; omega), by first | omega | (simp; omega), by first | omega | (simp; omega), by first | omega | (simp; omega), by first | omega | (simp; omega), ((hR1.box m20 _ _).box (m21.other (by omega) _ _) _ _), ((hR2.box m20 _ _).box (m21.other (by omega) _ _) _ _), (below_set (below_set gb2 (by omega) _ _) (by omega) _ _)⟩
    · go_wp2_with fail; go_meet; exact ⟨_, _, _, _, _, _, _, _, _, _, rfl, rfl, (Box.new _ _ _ (by first | rfl | (simp; done))), ((m20.set _ _).alloc _), ((z2.other (by omega) _ _).alloc _), by first | omega | (simp; omega), by first | omega | (simp; omega), by first | omega | (simp; omega), by first | omega | (simp; omega), by first | omega | (simp; omega), ((hR1.box m20 _ _).alloc _), ((hR2.box m20 _ _).alloc _), (Below.alloc (below_set gb2 (by omega) _ _) (by first | omega | (simp; omega) | (simp; done)) _)⟩
    · go_wp2_with fail; go_meet; exact ⟨_, _, _, _, _, _, _, _, _, _, rfl, rfl, ((m21.set _ _).other (by omega) _ _), ((m20.other (by omega) _ _).set _ _), ((z2.other (by omega) _ _).other (by omega) _ _), by first | omega | (simp; omega), by first | omega | (simp; omega), by first | omega | (simp; omega), by first | omega | (simp; omega), by first | omega | (simp; omega), ((hR1.box m21 _ _).box (m20.other (by omega) _ _) _ _), ((hR2.box m21 _ _).box (m20.other (by omega) _ _) _ _), (below_set (below_set gb2 (by omega) _ _) (by omega) _ _)⟩
    · go_wp2_with fail; go_meet; exact ⟨_, _, _, _, _, _, _, _, _, _, rfl, rfl, ((m10.set _ _).alloc _), (Box.new _ _ _ (by first | rfl | (simp; done))), ((z2.other (by omega) _ _).alloc _), by first | omega | (simp; omega), by first | omega | (simp; omega), by first | omega | (simp; omega), by first | omega | (simp; omega), by first | omega | (simp; omega), ((hR1.box m10 _ _).alloc _), ((hR2.box m10 _ _).alloc _), (Below.alloc (below_set gb2 (by omega) _ _) (by first | omega | (simp; omega) | (simp; done)) _)⟩
    · go_wp2_with fail; go_meet; exact ⟨_, _, _, _, _, _, _, _, _, _, rfl, rfl, ((m10.set _ _).other (by omega) _ _), ((m20.other (by omega) _ _).set _ _), ((z2.other (by omega) _ _).other (by omega) _ _), by first | omega | (simp; omega), by first | omega | (simp; omega), by first | omega | (simp; omega), by first | omega | (simp; omega), by first | omega | (simp; omega), ((hR1.box m10 _ _).box (m20.other (by omega) _ _) _ _), ((hR2.box m10 _ _).box (m20.other (by omega) _ _) _ _), (below_set (below_set gb2 (by omega) _ _) (by omega) _ _)⟩
    · go_wp2_with fail; go_meet; exact ⟨_, _, _, _, _, _, _, _, _, _, rfl, rfl, ((m10.set _ _).other (by omega) _ _), ((m11.other (by omega) _ _).set _ _), ((z2.other (by omega) _ _).other (by omega) _ _), by first | omega | (simp; omega), by first | omega | (simp; omega), by first | omega | (simp; omega), by first | omega | (simp; omega), by first | omega | (simp; omega), ((hR1.box m10 _ _).box (m11.other (by omega) _ _) _ _), ((hR2.box m10 _ _).box (m11.other (by omega) _ _) _ _), (below_set (below_set gb2 (by omega) _ _) (by omega) _ _)⟩
    · go_wp2_with fail; go_meet; exact ⟨_, _, _, _, _, _, _, _, _, _, rfl, rfl, (Box.new _ _ _ (by first | rfl | (simp; done))), ((m10.set _ _).alloc _), ((z2.other (by omega) _ _).alloc _), by first | omega | (simp; omega), by first | omega | (simp; omega), by first | omega | (simp; omega), by first | omega | (simp; omega), by first | omega | (simp; omega), ((hR1.box m10 _ _).alloc _), ((hR2.box m10 _ _).alloc _), (Below.alloc (below_set gb2 (by omega) _ _) (by first | omega | (simp; omega) | (simp; done)) _)⟩
    · go_wp2_with fail; go_meet; exact ⟨_, _, _, _, _, _, _, _, _, _, rfl, rfl, ((m20.set _ _).other (by omega) _ _), ((m10.other (by omega) _ _).set _ _), ((z2.other (by omega) _ _).other (by omega) _ _), by first | omega | (simp; omega), by first | omega | (simp; omega), by first | omega | (simp; omega), by first | omega | (simp; omega), by first | omega | (simp; omega), ((hR1.box m20 _ _).box (m10.other (by omega) _ _) _ _), ((hR2.box m20 _ _).box (m10.other (by omega) _ _) _ _), (below_set (below_set gb2 (by omega) _ _) (by omega) _ _)⟩
    · go_wp2_with fail; go_meet; exact ⟨_, _, _, _, _, _, _, _, _, _, rfl, rfl, ((m11.set _ _).other (by omega) _ _), ((m10.other (by omega) _ _).set _ _), ((z2.other (by omega) _ _).other (by omega) _ _), by first | omega | (simp; omega), by first | omega | (simp; omega), by first | omega | (simp; omega), by first | omega | (simp; omega), by first | omega | (simp; omega), ((hR1.box m11 _ _).box (m10.other (by omega) _ _) _ _), ((hR2.box m11 _ _).box (m10.other (by omega) _ _) _ _), (below_set (below_set gb2 (by omega) _ _) (by omega) _ _)⟩
  case rest =>
    obtain ⟨P, Q, sb, so, sn, sc, tb, to_, tn, tc, rfl, rfl, p5, p6, p4, gP, gQ, hPQ, n1, n2, hR, hS, hbw⟩ := hcut
    obtain ⟨f, f1, f2, f3, f4, f5⟩ := hR.ex
    obtain ⟨g, g1, g2, g3, g4, g5⟩ := hS.ex
    have FA := Lib.hid (f4.few f3 f1 f2 hx (by omega)); have GA := Lib.hid (g4.few g3 g1 g2 hy (by omega))
    have fv := Lib.hid f4.val; have gv := Lib.hid g4.val
    have xs : Hid (x = sgn sb x.natAbs) := Lib.hid (by rw [f5]; exact (sgn_self x).symm)
    have ys : Hid (y = sgn tb y.natAbs) := Lib.hid (by rw [g5]; exact (sgn_self y).symm)
    have b5 := Lib.hid p5; have b6 := Lib.hid p6; have b4 := Lib.hid p4; have hbw' := Lib.hid hbw
    clear hR hS f3 f4 f5 g3 g4 g5 hbw x0 x1 x2 hb0 f1 f2 g1 g2
    have c50 := p5.c0; have c60 := p6.c0
    clear p4
    by_cases hst : sb = tb
    · subst hst
      clear p5 p6
      go_wp2_with fail
      have a0 := b5.out.drew; have a1 := b6.out.drew; have a2 := b4.out.drew
      go_region_held3 (fun w' => w'.cell? ⟨P, 0, none⟩ = some (.bool sb) ∧ w'.cell? ⟨P, 1, none⟩ = some (.slice so sn sc) ∧ w'.cell? ⟨Q, 1, none⟩ = some (.slice to_ tn tc))
        (first | with_reducible exact ⟨a0.c0, a0.c1, a1.c1⟩ | with_reducible exact ⟨d0.c0, d0.c1, d1.c1⟩ | with_reducible exact ⟨i0.c0, i0.c1, i1.c1⟩ | with_reducible exact ⟨(i0.other n1 _ _).c0, (i0.other n1 _ _).c1, (i1.other n2 _ _).c1⟩ | go_keep)
        (first
        | (go_at_call 78; refine (refAdd_any so to_ sn sc tn tc f g _ (FA.out.1.below (Below.refl _ _).drew) (GA.out.1.below (Below.refl _ _).drew) (by have := FA.out.2; have := GA.out.2; omega)).mono ?_; rintro e w3 ⟨ko, kn, kc, k, rfl, k1, k2, k3, k4, hb3⟩; have hb3 := (Below.refl _ _).drew.trans hb3; have d0 := b5.out.later hb3; have d1 := b6.out.later hb3; have d2 := b4.out.later hb3; have hb4 := below_then hbw'.out (Nat.le_refl _) hb3)
        | (go_at_call 69; refine (rNorm_any sb ko kn kc (x + y) _ ⟨k, k4.arg k3 k1 k2 (sum_small (k := M) (by omega) (by rw [fv.out]; exact hx) (by rw [gv.out]; exact hy)), by rw [k4.val, fv.out, gv.out, ← sgn_add, ← xs.out, ← ys.out]⟩).mono ?_; rintro e w5 ⟨vb, vo, vn, vc, rfl, hR, hb5⟩; have i0 := d0.later hb5; have i1 := d1.later hb5; have i2 := d2.later hb5; have hb6 := below_then hb4 (Nat.le_refl _) hb5; have q1 := i2.c0; have q2 := i2.c1; have q3 := i2.fr 0; have q4 := i2.fr 1))
      have z9 := i2.set (.bool vb) (.slice vo vn vc)
      have e0 := z9.c0; have e1 := z9.c1
      clear z9
      go_wp2_with fail
      refine bodyPost_ret (v := .agg #[.bool vb, .slice vo vn vc]) (by simp [results, Try.results48, go_sem, e0, e1]) rfl ?_
      exact IntPost.stored hR i2 hb6 (by omega)
    · have hst' : (sb == tb) = false := by simp [hst]
      have c51 := p5.c1; have c61 := p6.c1
      clear p5 p6
      go_wp2_with fail
      refine (refCmp_any so to_ sn sc tn tc f g _ FA.out.1 GA.out.1).mono ?_
      rw [fv.out, gv.out]
      rintro e w' ⟨rfl, rfl⟩
      rcases Nat.lt_trichotomy x.natAbs y.natAbs with hle | heq | hgt
      · rw [cmpI_lt (Int.ofNat_lt.2 hle)]
        clear c50 c60
        go_wp2_with fail
        refine (refSub_any to_ so tn tc sn sc g f _ GA.out.1 FA.out.1).mono ?_
        rw [fv.out, gv.out]
        rintro e w3 ⟨hb3, h⟩
        rcases h with ⟨h, _⟩ | ⟨_, ko, kn, kc, k, rfl, k1, k2, k3, k4⟩
        · omega
        have d := (b6.out.later hb3).c0
        have z4 := Lib.hid (b4.out.later hb3)
        have hb4 := Lib.hid (below_then hbw'.out (Nat.le_refl _) hb3)
        have hW := Lib.hid (show Whole w3 tb ko kn kc (x + y) from ⟨k, k4.arg k3 k1 k2 (Nat.lt_of_le_of_lt (Nat.sub_le _ _) (small2 (k := M) (by omega) hy)), by
          rw [k4.val, ← sgn_sub (fun e => hst e.symm) (Nat.le_of_lt hle), ← xs.out, ← ys.out, Int.add_comm]⟩)
        clear hb3 k3 k4 c51 c61
        go_wp2_with fail
        refine (rNorm_any tb ko kn kc (x + y) _ hW.out).mono ?_
        rintro e w5 ⟨vb, vo, vn, vc, rfl, hR, hb5⟩
        have z5 := z4.out.later hb5
        have q1 := z5.c0; have q2 := z5.c1; have q3 := z5.fr 0; have q4 := z5.fr 1
        have z9 := z5.set (.bool vb) (.slice vo vn vc)
        have e0 := z9.c0; have e1 := z9.c1
        have hb6 := Lib.hid (below_then hb4.out (Nat.le_refl _) hb5); have hR' := Lib.hid hR; have z5' := Lib.hid z5
        clear z9 z5 hR hb5 d
        go_wp2_with fail
        refine bodyPost_ret (v := .agg #[.bool vb, .slice vo vn vc]) (by simp [results, Try.results48, go_sem, e0, e1]) rfl ?_
        exact IntPost.stored hR'.out z5'.out hb6.out (by omega)
      · have hle : y.natAbs ≤ x.natAbs := Nat.le_of_eq heq.symm
        rw [cmpI_eq (show (x.natAbs : Int) = y.natAbs by rw [heq])]
        clear c50 c60
        go_wp2_with fail
        refine (refSub_any so to_ sn sc tn tc f g _ FA.out.1 GA.out.1).mono ?_
        rw [fv.out, gv.out]
        rintro e w3 ⟨hb3, h⟩
        rcases h with ⟨h, _⟩ | ⟨_, ko, kn, kc, k, rfl, k1, k2, k3, k4⟩
        · omega
        have d := (b5.out.later hb3).c0
        have z4 := Lib.hid (b4.out.later hb3)
        have hb4 := Lib.hid (below_then hbw'.out (Nat.le_refl _) hb3)
        have hW := Lib.hid (show Whole w3 sb ko kn kc (x + y) from ⟨k, k4.arg k3 k1 k2 (Nat.lt_of_le_of_lt (Nat.sub_le _ _) (small2 (k := M) (by omega) hx)), by
          rw [k4.val, ← sgn_sub hst hle, ← xs.out, ← ys.out]⟩)
        clear hb3 k3 k4 c51 c61
        go_wp2_with fail
        refine (rNorm_any sb ko kn kc (x + y) _ hW.out).mono ?_
        rintro e w5 ⟨vb, vo, vn, vc, rfl, hR, hb5⟩
        have z5 := z4.out.later hb5
        have q1 := z5.c0; have q2 := z5.c1; have q3 := z5.fr 0; have q4 := z5.fr 1
        have z9 := z5.set (.bool vb) (.slice vo vn vc)
        have e0 := z9.c0; have e1 := z9.c1
        have hb6 := Lib.hid (below_then hb4.out (Nat.le_refl _) hb5); have hR' := Lib.hid hR; have z5' := Lib.hid z5
        clear z9 z5 hR hb5 d
        go_wp2_with fail
        refine bodyPost_ret (v := .agg #[.bool vb, .slice vo vn vc]) (by simp [results, Try.results48, go_sem, e0, e1]) rfl ?_
        exact IntPost.stored hR'.out z5'.out hb6.out (by omega)
      · have hle : y.natAbs ≤ x.natAbs := Nat.le_of_lt hgt
        rw [cmpI_gt (Int.ofNat_lt.2 hgt)]
        clear c50 c60
        go_wp2_with fail
        refine (refSub_any so to_ sn sc tn tc f g _ FA.out.1 GA.out.1).mono ?_
        rw [fv.out, gv.out]
        rintro e w3 ⟨hb3, h⟩
        rcases h with ⟨h, _⟩ | ⟨_, ko, kn, kc, k, rfl, k1, k2, k3, k4⟩
        · omega
        have d := (b5.out.later hb3).c0
        have z4 := Lib.hid (b4.out.later hb3)
        have hb4 := Lib.hid (below_then hbw'.out (Nat.le_refl _) hb3)
        have hW := Lib.hid (show Whole w3 sb ko kn kc (x + y) from ⟨k, k4.arg k3 k1 k2 (Nat.lt_of_le_of_lt (Nat.sub_le _ _) (small2 (k := M) (by omega) hx)), by
          rw [k4.val, ← sgn_sub hst hle, ← xs.out, ← ys.out]⟩)
        clear hb3 k3 k4 c51 c61
        go_wp2_with fail
        refine (rNorm_any sb ko kn kc (x + y) _ hW.out).mono ?_
        rintro e w5 ⟨vb, vo, vn, vc, rfl, hR, hb5⟩
        have z5 := z4.out.later hb5
        have q1 := z5.c0; have q2 := z5.c1; have q3 := z5.fr 0; have q4 := z5.fr 1
        have z9 := z5.set (.bool vb) (.slice vo vn vc)
        have e0 := z9.c0; have e1 := z9.c1
        have hb6 := Lib.hid (below_then hb4.out (Nat.le_refl _) hb5); have hR' := Lib.hid hR; have z5' := Lib.hid z5
        clear z9 z5 hR hb5 d
        go_wp2_with fail
        refine bodyPost_ret (v := .agg #[.bool vb, .slice vo vn vc]) (by simp [results, Try.results48, go_sem, e0, e1]) rfl ?_
        exact IntPost.stored hR'.out z5'.out hb6.out (by omega)

end Go.Proofs.Ytnnipciifjpooaa
