/-
  scrimref04.Top, Bot, Make.
-/
import Derived.Test.YtnnipciifjpooaaQc
import Derived.Test.YtnnipciifjpooaaQg
import Derived.Test.YtnnipciifjpooaaLa
namespace Go.Proofs.Ytnnipciifjpooaa
open Go.RowKit Num

attribute [local go_sem ↓] Go.wp_at_zero Go.wp_at_succ

set_option maxHeartbeats 1000000 in
theorem rTop_any (ab : Bool) (ap aq : Option Addr) (an ac am ae : Nat) (P : Int) (w : World) (A : Whole w ab ap an ac P) :
    Calls Try.prog 39 #[.agg #[.bool ab, .slice ap an ac, .slice aq am ae]] w (IntPost P w) := by
  have A' := Lib.hid A
  clear A
  go_enter Try.func39, Try.ntmps39
  go_wp2_with fail
  refine gen_calls (fun w' => Below w.heap.size w w' ∧ Box3 w' w.heap.size (.bool ab) (.slice ap an ac) (.slice aq am ae) ∧ Box w' (w.heap.size + 1) (.bool false) (.slice none 0 0))
    ⟨(((Below.refl _ _).alloc (Nat.le_refl _) _).alloc (by first | (simp; done) | (simp; omega)) _), ((Box3.new _ _ _ _ rfl).alloc _), (Box.new _ _ _ (by first | (simp; done) | (simp; omega)))⟩ ?_
  rintro w0 ⟨hb0, x0, x1⟩
  refine (rNorm_any ab ap an ac P _ (A'.out.below hb0)).mono ?_
  rintro e w1 ⟨eb, eo, en, ec, rfl, hR, hb⟩
  have bb := Lib.hid (below_then hb0 (Nat.le_refl _) hb)
  have x1 := x1.later hb
  have x1' := Lib.hid x1; have hR' := Lib.hid hR
  have q0 := x1.c0; have q1 := x1.c1; have q2 := x1.fr 0; have q3 := x1.fr 1
  have z := x1.set (.bool eb) (.slice eo en ec)
  have e0 := z.c0; have e1 := z.c1
  clear x0 x1 hb hb0 z hR
  go_wp2_with fail
  refine bodyPost_ret (v := .agg #[.bool eb, .slice eo en ec]) (by simp [results, Try.results39, go_sem, e0, e1]) rfl ?_
  exact IntPost.stored hR'.out x1'.out bb.out (by omega)

set_option maxHeartbeats 1000000 in
theorem rBot_any (ab : Bool) (ap aq : Option Addr) (an ac am ae : Nat) (Q : Int) (w : World) (A : Whole w false aq am ae Q) :
    Calls Try.prog 40 #[.agg #[.bool ab, .slice ap an ac, .slice aq am ae]] w (IntPost Q w) := by
  have A' := Lib.hid A
  clear A
  go_enter Try.func40, Try.ntmps40
  go_wp2_with fail
  refine gen_calls (fun w' => Below w.heap.size w w' ∧ Box3 w' w.heap.size (.bool ab) (.slice ap an ac) (.slice aq am ae) ∧ Box w' (w.heap.size + 1) (.bool false) (.slice none 0 0))
    ⟨(((Below.refl _ _).alloc (Nat.le_refl _) _).alloc (by first | (simp; done) | (simp; omega)) _), ((Box3.new _ _ _ _ rfl).alloc _), (Box.new _ _ _ (by first | (simp; done) | (simp; omega)))⟩ ?_
  rintro w0 ⟨hb0, x0, x1⟩
  refine (rNorm_any false aq am ae Q _ (A'.out.below hb0)).mono ?_
  rintro e w1 ⟨eb, eo, en, ec, rfl, hR, hb⟩
  have bb := Lib.hid (below_then hb0 (Nat.le_refl _) hb)
  have x1 := x1.later hb
  have x1' := Lib.hid x1; have hR' := Lib.hid hR
  have q0 := x1.c0; have q1 := x1.c1; have q2 := x1.fr 0; have q3 := x1.fr 1
  have z := x1.set (.bool eb) (.slice eo en ec)
  have e0 := z.c0; have e1 := z.c1
  clear x0 x1 hb hb0 z hR
  go_wp2_with fail
  refine bodyPost_ret (v := .agg #[.bool eb, .slice eo en ec]) (by simp [results, Try.results40, go_sem, e0, e1]) rfl ?_
  exact IntPost.stored hR'.out x1'.out bb.out (by omega)

theorem sign_differ {p q : Int} (hp : p ≠ 0) (hq : q ≠ 0) : decide (p.sign * q.sign < 0) = !(decide (p < 0) == decide (q < 0)) := by
  rcases Int.lt_or_gt_of_ne hp with h | h <;> rcases Int.lt_or_gt_of_ne hq with k | k
  · rw [Int.sign_eq_neg_one_of_neg h, Int.sign_eq_neg_one_of_neg k]; simp [h, k]
  · rw [Int.sign_eq_neg_one_of_neg h, Int.sign_eq_one_of_pos k]; simp [h, Int.not_lt.2 (Int.le_of_lt k)]
  · rw [Int.sign_eq_one_of_pos h, Int.sign_eq_neg_one_of_neg k]; simp [k, Int.not_lt.2 (Int.le_of_lt h)]
  · rw [Int.sign_eq_one_of_pos h, Int.sign_eq_one_of_pos k]; simp [Int.not_lt.2 (Int.le_of_lt h), Int.not_lt.2 (Int.le_of_lt k)]

set_option maxRecDepth 20000 in
set_option maxHeartbeats 4000000 in
theorem rMake_any (b c : Bool) (ao bo : Option Addr) (n nc m mc : Nat) (p q : Int) (w : World) (A : Whole w b ao n nc p) (B : Whole w c bo m mc q) (L : Nat) (hL : L ≤ 1000) (hp : p.natAbs < pw L) (hq : q.natAbs < pw L) :
    Calls Try.prog 38 #[.agg #[.bool b, .slice ao n nc], .agg #[.bool c, .slice bo m mc]] w (MakePost p q w) := by
  have A' := Lib.hid A; have B' := Lib.hid B; have hL' := Lib.hid hL; have hp' := Lib.hid hp; have hq' := Lib.hid hq
  clear A B hL hp hq
  go_enter Try.func38, Try.ntmps38
  go_wp2_with fail
  refine gen_wp (fun w' => Below w.heap.size w w' ∧ Box w' w.heap.size (.bool b) (.slice ao n nc) ∧ Box w' (w.heap.size + 1) (.bool c) (.slice bo m mc) ∧ Box3 w' (w.heap.size + 2) (.bool false) (.slice none 0 0) (.slice none 0 0))
    ⟨((((Below.refl _ _).alloc (Nat.le_refl _) _).alloc (by first | (simp; done) | (simp; omega)) _).alloc (by first | (simp; done) | (simp; omega)) _), (((Box.new _ _ _ rfl).alloc _).alloc _), ((Box.new _ _ _ (by first | (simp; done) | (simp; omega))).alloc _), (Box3.new _ _ _ _ (by first | (simp; done) | (simp; omega)))⟩ ?_
  rintro u0 ⟨bb, x0, x1, x2⟩
  have A := A'.out.below bb; have B := B'.out.below bb
  clear A' B'
  go_cut [6, 7] from 19 to 67 (fun s t wx => ∃ Y Z eb eo en ec fb fo fn fc, s = .pointer (some ⟨Y, 0, none⟩) ∧ t = .pointer (some ⟨Z, 0, none⟩) ∧ Box wx Y (.bool eb) (.slice eo en ec) ∧ Box wx Z (.bool fb) (.slice fo fn fc) ∧ Box3 wx (w.heap.size + 2) (.bool false) (.slice none 0 0) (.slice none 0 0) ∧ Right wx eb eo en ec p ∧ Right wx fb fo fn fc q ∧ Below w.heap.size w wx)
  case first =>
    have lx0 := x0.lt
    have lx1 := x1.lt
    have lx2 := x2.lt
    have bs := bb.size
    have sa0 := True.intro
    go_region_held3 (fun w' => w'.cell? ⟨w.heap.size, 0, none⟩ = some (.bool b) ∧ w'.cell? ⟨w.heap.size, 1, none⟩ = some (.slice ao n nc) ∧ w'.cell? ⟨(w.heap.size + 1), 0, none⟩ = some (.bool c) ∧ w'.cell? ⟨(w.heap.size + 1), 1, none⟩ = some (.slice bo m mc))
      (first | with_reducible exact ⟨(x0.drew).c0, (x0.drew).c1, (x1.drew).c0, (x1.drew).c1⟩ | with_reducible exact ⟨((x0.alloc _).drew).c0, ((x0.alloc _).drew).c1, ((x1.alloc _).drew).c0, ((x1.alloc _).drew).c1⟩ | with_reducible exact ⟨(((x0.alloc _).alloc _).drew).c0, (((x0.alloc _).alloc _).drew).c1, (((x1.alloc _).alloc _).drew).c0, (((x1.alloc _).alloc _).drew).c1⟩ | with_reducible exact ⟨x0.c0, x0.c1, x1.c0, x1.c1⟩ | with_reducible exact ⟨(x0.alloc _).c0, (x0.alloc _).c1, (x1.alloc _).c0, (x1.alloc _).c1⟩ | with_reducible exact ⟨((x0.alloc _).alloc _).c0, ((x0.alloc _).alloc _).c1, ((x1.alloc _).alloc _).c0, ((x1.alloc _).alloc _).c1⟩ | with_reducible exact ⟨(x0.other (by omega) _ _).c0, (x0.other (by omega) _ _).c1, (x1.other (by omega) _ _).c0, (x1.other (by omega) _ _).c1⟩ | with_reducible exact ⟨((x0.other (by omega) _ _).alloc _).c0, ((x0.other (by omega) _ _).alloc _).c1, ((x1.other (by omega) _ _).alloc _).c0, ((x1.other (by omega) _ _).alloc _).c1⟩ | with_reducible exact ⟨((x0.other (by omega) _ _).other (by omega) _ _).c0, ((x0.other (by omega) _ _).other (by omega) _ _).c1, ((x1.other (by omega) _ _).other (by omega) _ _).c0, ((x1.other (by omega) _ _).other (by omega) _ _).c1⟩ | go_keep)
      (first
      | (go_at_call 69; clear sa0; refine (rNorm_any b ao n nc p _ ?_).mono ?_; (first | with_reducible exact (A.drew) | with_reducible exact ((A.alloc _).drew) | with_reducible exact (((A.alloc _).alloc _).drew)); rintro e u1 ⟨eb, eo, en, ec, rfl, h1, hb⟩; have hc : Below u0.heap.size u0 u1 := (by first | exact (Below.refl _ _).drew.trans hb | exact ((Below.refl _ _).alloc (by first | exact Nat.le_refl _ | (simp; done) | (simp; omega)) _).drew.trans (hb.mono (by first | (simp; done) | (simp; omega))) | exact (((Below.refl _ _).alloc (by first | exact Nat.le_refl _ | (simp; done) | (simp; omega)) _).alloc (by first | exact Nat.le_refl _ | (simp; done) | (simp; omega)) _).drew.trans (hb.mono (by first | (simp; done) | (simp; omega)))); have hz0 := hc.size; have x0 := x0.later hc; have x1 := x1.later hc; have x2 := x2.later hc; have A := A.below hc; have B := B.below hc; have bb := below_then bb (Nat.le_refl _) hc; (first | (with_reducible have mm := made2' hb; obtain ⟨m10, m11⟩ := mm) | (with_reducible have m10 := made1' hb) | skip); (try have k10 := m10.lt); (try have k11 := m11.lt); clear hb hc; have sa1 := True.intro)
      | (go_at_call 69; clear sa1; refine (rNorm_any c bo m mc q _ ?_).mono ?_; (first | with_reducible exact B | with_reducible exact (B.alloc _) | with_reducible exact ((B.alloc _).alloc _)); rintro e u2 ⟨fb, fo, fn, fc, rfl, h2, hb⟩; have hc : Below u1.heap.size u1 u2 := (by first | with_reducible exact hb | exact ((Below.refl _ _).alloc (by first | exact Nat.le_refl _ | (simp; done) | (simp; omega)) _).trans (hb.mono (by first | (simp; done) | (simp; omega))) | exact (((Below.refl _ _).alloc (by first | exact Nat.le_refl _ | (simp; done) | (simp; omega)) _).alloc (by first | exact Nat.le_refl _ | (simp; done) | (simp; omega)) _).trans (hb.mono (by first | (simp; done) | (simp; omega)))); have hz1 := hc.size; have x0 := x0.later hc; have x1 := x1.later hc; have x2 := x2.later hc; have A := A.below hc; have B := B.below hc; have h1 := h1.below hc; have bb := below_then bb (Nat.le_refl _) hc; (try have m10 := m10.later hc); (try have m11 := m11.later hc); (first | (with_reducible have mm := made2 hb; obtain ⟨m20, m21⟩ := mm) | (with_reducible have m20 := made1 hb) | skip); (try have k10 := m10.lt); (try have k11 := m11.lt); (try have k20 := m20.lt); (try have k21 := m21.lt); (try (have f100 := m10.c0; have f101 := m10.c1; have f102 := m10.fr 0; have f103 := m10.fr 1)); (try (have f110 := m11.c0; have f111 := m11.c1; have f112 := m11.fr 0; have f113 := m11.fr 1)); (try (have f200 := m20.c0; have f201 := m20.c1; have f202 := m20.fr 0; have f203 := m20.fr 1)); (try (have f210 := m21.c0; have f211 := m21.c1; have f212 := m21.fr 0; have f213 := m21.fr 1)); clear hb hc; have sa2 := True.intro))
    · go_wp2_with fail; go_meet; exact ⟨_, _, eb, eo, en, ec, fb, fo, fn, fc, rfl, rfl, ((Box.new _ _ _ (by first | (simp; done) | rfl)).alloc _), (Box.new _ _ _ (by first | (simp; done) | rfl)), ((x2.alloc _).alloc _), ((h1.alloc _).alloc _), ((h2.alloc _).alloc _), (Below.alloc (Below.alloc bb (by first | omega | (simp; omega) | (simp; done)) _) (by first | omega | (simp; omega) | (simp; done)) _)⟩
    · go_wp2_with fail; go_meet; exact ⟨_, _, eb, eo, en, ec, fb, fo, fn, fc, rfl, rfl, (Box.new _ _ _ (by first | (simp; done) | rfl)), ((Box.new _ _ _ (by first | (simp; done) | rfl)).alloc _), ((x2.alloc _).alloc _), ((h1.alloc _).alloc _), ((h2.alloc _).alloc _), (Below.alloc (Below.alloc bb (by first | omega | (simp; omega) | (simp; done)) _) (by first | omega | (simp; omega) | (simp; done)) _)⟩
    · go_wp2_with fail; go_meet; exact ⟨_, _, eb, eo, en, ec, fb, fo, fn, fc, rfl, rfl, ((m20.set _ _).alloc _), (Box.new _ _ _ (by first | (simp; done) | rfl)), ((x2.other (by omega) _ _).alloc _), ((h1.box m20 _ _).alloc _), ((h2.box m20 _ _).alloc _), (Below.alloc (below_set bb (by omega) _ _) (by first | omega | (simp; omega) | (simp; done)) _)⟩
    · go_wp2_with fail; go_meet; exact ⟨_, _, eb, eo, en, ec, fb, fo, fn, fc, rfl, rfl, ((m20.set _ _).other (by omega) _ _), ((m21.other (by omega) _ _).set _ _), ((x2.other (by omega) _ _).other (by omega) _ _), ((h1.box m20 _ _).box (m21.other (by omega) _ _) _ _), ((h2.box m20 _ _).box (m21.other (by omega) _ _) _ _), (below_set (below_set bb (by omega) _ _) (by omega) _ _)⟩
    · go_wp2_with fail; go_meet; exact ⟨_, _, eb, eo, en, ec, fb, fo, fn, fc, rfl, rfl, (Box.new _ _ _ (by first | (simp; done) | rfl)), ((m20.set _ _).alloc _), ((x2.other (by omega) _ _).alloc _), ((h1.box m20 _ _).alloc _), ((h2.box m20 _ _).alloc _), (Below.alloc (below_set bb (by omega) _ _) (by first | omega | (simp; omega) | (simp; done)) _)⟩
    · go_wp2_with fail; go_meet; exact ⟨_, _, eb, eo, en, ec, fb, fo, fn, fc, rfl, rfl, ((m21.set _ _).other (by omega) _ _), ((m20.other (by omega) _ _).set _ _), ((x2.other (by omega) _ _).other (by omega) _ _), ((h1.box m21 _ _).box (m20.other (by omega) _ _) _ _), ((h2.box m21 _ _).box (m20.other (by omega) _ _) _ _), (below_set (below_set bb (by omega) _ _) (by omega) _ _)⟩
    · go_wp2_with fail; go_meet; exact ⟨_, _, eb, eo, en, ec, fb, fo, fn, fc, rfl, rfl, ((m10.set _ _).alloc _), (Box.new _ _ _ (by first | (simp; done) | rfl)), ((x2.other (by omega) _ _).alloc _), ((h1.box m10 _ _).alloc _), ((h2.box m10 _ _).alloc _), (Below.alloc (below_set bb (by omega) _ _) (by first | omega | (simp; omega) | (simp; done)) _)⟩
    · go_wp2_with fail; go_meet; exact ⟨_, _, eb, eo, en, ec, fb, fo, fn, fc, rfl, rfl, ((m10.set _ _).other (by omega) _ _), ((m20.other (by omega) _ _).set _ _), ((x2.other (by omega) _ _).other (by omega) _ _), ((h1.box m10 _ _).box (m20.other (by omega) _ _) _ _), ((h2.box m10 _ _).box (m20.other (by omega) _ _) _ _), (below_set (below_set bb (by omega) _ _) (by omega) _ _)⟩
    · go_wp2_with fail; go_meet; exact ⟨_, _, eb, eo, en, ec, fb, fo, fn, fc, rfl, rfl, ((m10.set _ _).other (by omega) _ _), ((m11.other (by omega) _ _).set _ _), ((x2.other (by omega) _ _).other (by omega) _ _), ((h1.box m10 _ _).box (m11.other (by omega) _ _) _ _), ((h2.box m10 _ _).box (m11.other (by omega) _ _) _ _), (below_set (below_set bb (by omega) _ _) (by omega) _ _)⟩
    · go_wp2_with fail; go_meet; exact ⟨_, _, eb, eo, en, ec, fb, fo, fn, fc, rfl, rfl, (Box.new _ _ _ (by first | (simp; done) | rfl)), ((m10.set _ _).alloc _), ((x2.other (by omega) _ _).alloc _), ((h1.box m10 _ _).alloc _), ((h2.box m10 _ _).alloc _), (Below.alloc (below_set bb (by omega) _ _) (by first | omega | (simp; omega) | (simp; done)) _)⟩
    · go_wp2_with fail; go_meet; exact ⟨_, _, eb, eo, en, ec, fb, fo, fn, fc, rfl, rfl, ((m20.set _ _).other (by omega) _ _), ((m10.other (by omega) _ _).set _ _), ((x2.other (by omega) _ _).other (by omega) _ _), ((h1.box m20 _ _).box (m10.other (by omega) _ _) _ _), ((h2.box m20 _ _).box (m10.other (by omega) _ _) _ _), (below_set (below_set bb (by omega) _ _) (by omega) _ _)⟩
    · go_wp2_with fail; go_meet; exact ⟨_, _, eb, eo, en, ec, fb, fo, fn, fc, rfl, rfl, ((m11.set _ _).other (by omega) _ _), ((m10.other (by omega) _ _).set _ _), ((x2.other (by omega) _ _).other (by omega) _ _), ((h1.box m11 _ _).box (m10.other (by omega) _ _) _ _), ((h2.box m11 _ _).box (m10.other (by omega) _ _) _ _), (below_set (below_set bb (by omega) _ _) (by omega) _ _)⟩
  case rest =>
    obtain ⟨Y, Z, eb, eo, en, ec, fb, fo, fn, fc, rfl, rfl, y, z, x2, h1, h2, bb⟩ := hcut
    have hq0 : q = 0 ↔ fn = 0 := by
      obtain ⟨g, _, _, _, cg, _⟩ := h2.ex
      rw [cg.ne_zero]; omega
    have p0 := z.c1
    have y := Lib.hid y
    by_cases h0 : fn = 0
    · have hE := Lib.hid (mkE_three (p := p) (hq0.2 h0))
      subst h0
      clear hq0 h1 h2 z
      have q0 := x2.c0; have q1 := x2.c1; have q2 := x2.c2; have q3 := x2.fr 0; have q4 := x2.fr 1; have q5 := x2.fr 2
      have z := x2.set (.bool false) (.slice none 0 0) (.slice none 0 0)
      have e0 := z.c0; have e1 := z.c1; have e2 := z.c2
      have x2' := Lib.hid x2; have bb' := Lib.hid bb
      clear z x2 bb 
      go_wp2_with fail
      refine bodyPost_ret (v := .tuple #[.agg #[.bool false, .slice none 0 0, .slice none 0 0], .int .i64 (3)]) (by simp [results, Try.results38, go_sem, e0, e1, e2]) rfl ?_
      exact make_bad hE.out (by decide) (ResPost.stored (rt_zero _) x2'.out bb'.out (by omega))
    have hqz : Hid (q ≠ 0) := Lib.hid (fun e => h0 (hq0.1 e))
    obtain ⟨f, f1, f2, f3, cf, hfb⟩ := h1.ex
    obtain ⟨g, g1, g2, g3, cg, hgb⟩ := h2.ex
    have cf := Lib.hid cf; have cg := Lib.hid cg; replace hfb := Lib.hid hfb; replace hgb := Lib.hid hgb
    have Ff := Lib.hid (cf.out.few f3 f1 f2 hp'.out (Nat.le_trans hL'.out (by decide))); have Fg := Lib.hid (cg.out.few g3 g1 g2 hq'.out (Nat.le_trans hL'.out (by decide)))
    have p1 := y.out.c1
    have z := Lib.hid z; have x2 := Lib.hid x2; have bb := Lib.hid bb
    clear hq0 h1 h2 f3 g3
    go_wp2_with fail
    clear p0 p1
    refine (refGcdL_any eo fo en ec fn fc f g _ Ff.out.1 Fg.out.1 L hL'.out Ff.out.2 Fg.out.2).mono ?_
    rw [cf.out.val, cg.out.val]
    rintro e w2 ⟨go, gn, gc, gf, rfl, k1, k2, k3, k4, hb⟩
    have k4 : Hid (Canon (mkG p q) gn gf) := Lib.hid k4
    have hGL : Hid (mkG p q < pw L) := Lib.hid (Nat.lt_of_le_of_lt (Nat.le_of_dvd (by have := hqz.out; omega) (Nat.gcd_dvd_right _ _)) hq'.out)
    have FG := Lib.hid (k4.out.few k3 k1 k2 hGL.out (Nat.le_trans hL'.out (by decide)))
    have bb := Lib.hid (below_then bb.out (Nat.le_refl _) hb)
    have y := Lib.hid (y.out.later hb); have z := Lib.hid (z.out.later hb); have x2 := Lib.hid (x2.out.later hb)
    have Ff := Lib.hid (And.intro (Ff.out.1.below hb) Ff.out.2); have Fg := Lib.hid (And.intro (Fg.out.1.below hb) Fg.out.2)
    have p1 := y.out.c1
    clear hb k3
    go_wp2_with fail
    clear p1
    refine (refDivMod_any eo go en ec gn gc f gf _ Ff.out.1 FG.out.1 (Nat.le_trans Ff.out.2 hL'.out) (Nat.le_trans FG.out.2 hL'.out)).mono ?_
    rw [cf.out.val, k4.out.val]
    rintro e w3 ⟨hb, h⟩
    have hg0 : Hid (mkG p q ≠ 0) := Lib.hid (Nat.pos_iff_ne_zero.1 (mkG_pos hqz.out))
    rcases h with ⟨h, _⟩ | ⟨_, to_, tn, tc, tf, ro, rn, rc, rf, rfl, t1, t2, _, _, t3, t4, _, _⟩
    · exact absurd h hg0.out
    have t3 := Lib.hid t3; have t4 := Lib.hid t4
    have bb := Lib.hid (below_then bb.out (Nat.le_refl _) hb)
    have y := Lib.hid (y.out.later hb); have z := Lib.hid (z.out.later hb); have x2 := Lib.hid (x2.out.later hb)
    have Fg := Lib.hid (And.intro (Fg.out.1.below hb) Fg.out.2); have FG := Lib.hid (And.intro (FG.out.1.below hb) FG.out.2)
    have p1 := z.out.c1
    clear hb
    go_wp2_with fail
    clear p1
    refine (refDivMod_any fo go fn fc gn gc g gf _ Fg.out.1 FG.out.1 (Nat.le_trans Fg.out.2 hL'.out) (Nat.le_trans FG.out.2 hL'.out)).mono ?_
    rw [cg.out.val, k4.out.val]
    rintro e w4 ⟨hb, h⟩
    rcases h with ⟨h, _⟩ | ⟨_, uo, un, uc, uf, ro', rn', rc', rf', rfl, u1, u2, _, _, u3, u4, _, _⟩
    · exact absurd h hg0.out
    have u3 := Lib.hid u3; have u4 := Lib.hid u4; have t3 := Lib.hid (t3.out.below hb)
    have bb := below_then bb.out (Nat.le_refl _) hb
    have y := Lib.hid (y.out.later hb); have z := Lib.hid (z.out.later hb); have x2 := x2.out.later hb
    clear hb
    by_cases ht : 32 < tn
    · have hE := Lib.hid (mkE_seven hqz.out (.inl (canon_long t4.out ht)))
      have hd : decide ((32 : Int) < (tn : Int)) = true := by rw [decide_eq_true_iff]; omega
      clear ht h0 f1 f2 g1 g2 t1 t2 u1 u2 k1 k2
      have q0 := x2.c0; have q1 := x2.c1; have q2 := x2.c2; have q3 := x2.fr 0; have q4 := x2.fr 1; have q5 := x2.fr 2
      have z := x2.set (.bool false) (.slice none 0 0) (.slice none 0 0)
      have e0 := z.c0; have e1 := z.c1; have e2 := z.c2
      have x2' := Lib.hid x2; have bb' := Lib.hid bb
      clear z x2 bb 
      go_wp2_with fail
      refine bodyPost_ret (v := .tuple #[.agg #[.bool false, .slice none 0 0, .slice none 0 0], .int .i64 (7)]) (by simp [results, Try.results38, go_sem, e0, e1, e2]) rfl ?_
      exact make_bad hE.out (by decide) (ResPost.stored (rt_zero _) x2'.out bb'.out (by omega))
    have hd : decide ((32 : Int) < (tn : Int)) = false := by rw [decide_eq_false_iff_not]; omega
    have ht' := Lib.hid ht
    clear ht
    by_cases hu : 32 < un
    · have hE := Lib.hid (mkE_seven hqz.out (.inr (canon_long u4.out hu)))
      have hd2 : decide ((32 : Int) < (un : Int)) = true := by rw [decide_eq_true_iff]; omega
      clear hu h0 f1 f2 g1 g2 t1 t2 u1 u2 k1 k2
      have q0 := x2.c0; have q1 := x2.c1; have q2 := x2.c2; have q3 := x2.fr 0; have q4 := x2.fr 1; have q5 := x2.fr 2
      have z := x2.set (.bool false) (.slice none 0 0) (.slice none 0 0)
      have e0 := z.c0; have e1 := z.c1; have e2 := z.c2
      have x2' := Lib.hid x2; have bb' := Lib.hid bb
      clear z x2 bb 
      go_wp2_with fail
      refine bodyPost_ret (v := .tuple #[.agg #[.bool false, .slice none 0 0, .slice none 0 0], .int .i64 (7)]) (by simp [results, Try.results38, go_sem, e0, e1, e2]) rfl ?_
      exact make_bad hE.out (by decide) (ResPost.stored (rt_zero _) x2'.out bb'.out (by omega))
    have hd2 : decide ((32 : Int) < (un : Int)) = false := by rw [decide_eq_false_iff_not]; omega
    have hE : Hid (mkE p q = 0) := Lib.hid (mkE_ok.2 ⟨hqz.out, canon_short t4.out (Nat.le_of_not_lt ht'.out), canon_short u4.out (Nat.le_of_not_lt hu)⟩)
    clear hu
    by_cases ht0 : tn = 0
    · have hR : Hid (Rt w4 false to_ 0 tc uo un uc (mkT p q) (mkB p q)) := Lib.hid ⟨by
        rw [mkT_ok hE.out]
        have e := t4.out.ne_zero.1 ht0
        have t3 := t3.out
        have t4 := t4.out
        rw [e, ht0] at t4
        rw [e]
        have := canon_right (b := false) (Nat.zero_le tc) t2 (.inl rfl : Sl w4 to_ 0 tf) t4 (.inr rfl)
        have e0 : ∀ s, sgn s 0 = 0 := fun s => by cases s <;> rfl
        rw [e0] at this ⊢; exact this, by
        rw [mkB_ok hE.out]
        exact canon_right (b := false) u1 u2 u3.out u4.out (.inr rfl)⟩
      subst ht0
      clear t1 h0 f1 f2 g1 g2 t2 u1 u2 k1 k2

      have q0 := x2.c0; have q1 := x2.c1; have q2 := x2.c2; have q3 := x2.fr 0; have q4 := x2.fr 1; have q5 := x2.fr 2
      have zz := x2.set (.bool (false)) (.slice to_ 0 tc) (.slice uo un uc)
      have e0 := zz.c0; have e1 := zz.c1; have e2 := zz.c2
      have x2' := Lib.hid x2; have bb' := Lib.hid bb
      have v0 := y.out.c0; have v1 := z.out.c0
      clear zz x2 bb
      go_wp2_with fail
      refine bodyPost_ret (v := .tuple #[.agg #[.bool (false), .slice to_ 0 tc, .slice uo un uc], .int .i64 0]) (by simp [results, Try.results38, go_sem, e0, e1, e2]) rfl ?_
      exact make_good hE.out (ResPost.stored (E := 0) hR.out x2'.out bb'.out (Nat.le_add_right _ 2))
    · have hR : Hid (Rt w4 (!(eb == fb)) to_ tn tc uo un uc (mkT p q) (mkB p q)) := Lib.hid ⟨by
        rw [mkT_ok hE.out]
        have hpz : p ≠ 0 := by
          intro e
          refine ht0 (t4.out.ne_zero.2 ?_)
          rw [e]; simp
        rw [hfb.out, hgb.out, ← sign_differ hpz hqz.out]
        exact canon_right t1 t2 t3.out t4.out (.inl (Nat.pos_of_ne_zero ht0)), by
        rw [mkB_ok hE.out]
        exact canon_right (b := false) u1 u2 u3.out u4.out (.inr rfl)⟩
      have hd3 := Nat.pos_of_ne_zero ht0
      clear t1 h0 f1 f2 g1 g2 t2 u1 u2 k1 k2 ht0

      have q0 := x2.c0; have q1 := x2.c1; have q2 := x2.c2; have q3 := x2.fr 0; have q4 := x2.fr 1; have q5 := x2.fr 2
      have zz := x2.set (.bool (!(eb == fb))) (.slice to_ tn tc) (.slice uo un uc)
      have e0 := zz.c0; have e1 := zz.c1; have e2 := zz.c2
      have x2' := Lib.hid x2; have bb' := Lib.hid bb
      have v0 := y.out.c0; have v1 := z.out.c0
      clear zz x2 bb
      go_wp2_with fail
      refine bodyPost_ret (v := .tuple #[.agg #[.bool (!(eb == fb)), .slice to_ tn tc, .slice uo un uc], .int .i64 0]) (by simp [results, Try.results38, go_sem, e0, e1, e2]) rfl ?_
      exact make_good hE.out (ResPost.stored (E := 0) hR.out x2'.out bb'.out (Nat.le_add_right _ 2))

end Go.Proofs.Ytnnipciifjpooaa
