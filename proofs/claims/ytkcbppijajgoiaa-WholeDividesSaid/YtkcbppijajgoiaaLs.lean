/-
  scrimlaw03.WholeSums, walked.
-/
import Derived.Test.YtkcbppijajgoiaaLa
import Derived.Test.YtkcbppijajgoiaaWa
namespace Go.Proofs.Ytkcbppijajgoiaa
open Go.RowKit Num

attribute [local go_sem ↓] Go.wp_at_zero Go.wp_at_succ

theorem whole_abs36 {w : World} {b : Bool} {ao : Option Addr} {n nc : Nat} {x : Int} (h : Whole w b ao n nc x) (hn : n ≤ 36) : x.natAbs < pw 36 := by
  obtain ⟨f, A, rfl⟩ := h.ex
  rw [sgn_abs]
  exact Nat.lt_of_lt_of_le (val_lt A.lim) (pw_le hn)

set_option maxHeartbeats 8000000 in
theorem sums3_walk (b c : Bool) (ao bo : Option Addr) (n nc m mc : Nat) (w : World) (hn : n ≤ nc) (hnc : nc ≤ 9223372036854775807) (hm : m ≤ mc) (hmc : mc ≤ 9223372036854775807) (x y : Int) (A : Whole w b ao (min n 36) nc x) (B : Whole w c bo (min m 36) mc y) :
    Calls Try.prog 3 #[.agg #[.bool b, .slice ao n nc], .agg #[.bool c, .slice bo m mc]] w (Says (.bool true) w) := by
  obtain ⟨l, hl⟩ : ∃ l, l = min n 36 := ⟨_, rfl⟩
  obtain ⟨r, hr⟩ : ∃ r, r = min m 36 := ⟨_, rfl⟩
  rw [← hl] at A
  rw [← hr] at B
  have hl' := Lib.hid hl; have hr' := Lib.hid hr
  have hx : Hid (x.natAbs < pw 36) := Lib.hid (whole_abs36 A (by omega)); have hy : Hid (y.natAbs < pw 36) := Lib.hid (whole_abs36 B (by omega))
  have A' := Lib.hid A; have B' := Lib.hid B
  clear A B hl hr
  go_enter Try.func3, Try.ntmps3
  go_wp2_with fail
  refine gen_calls (fun w' => Below w.heap.size w w' ∧ Box w' w.heap.size (.bool b) (.slice ao n nc) ∧ Box w' (w.heap.size + 1) (.bool c) (.slice bo m mc))
    ⟨(((Below.refl _ w).alloc (Nat.le_refl _) _).alloc (by first | (simp; done) | (simp; omega)) _), ((Box.new _ _ _ rfl).alloc _), (Box.new _ _ _ (by first | (simp; done) | (simp; omega)))⟩ ?_
  rintro w0 ⟨hb0, x0, x1⟩
  refine (few3_any b ao n nc _ hn hnc).mono ?_
  rw [← hl'.out]
  rintro e w1 ⟨rfl, hb⟩
  have y0 := x0.later hb; have y1 := x1.later hb
  have hb1 := below_then hb0 (Nat.le_refl _) hb
  have A1 := Lib.hid ((A'.out.below hb1).box y0 (.bool b) (.slice ao l nc)); have B1 := Lib.hid ((B'.out.below hb1).box y0 (.bool b) (.slice ao l nc))
  have hB1 := Lib.hid (below_set hb1 (Nat.le_refl _) (.bool b) (.slice ao l nc))
  have z0 := Lib.hid (y0.set (.bool b) (.slice ao l nc)); have z1 := Lib.hid (y1.other (C := w.heap.size) (by omega) (.bool b) (.slice ao l nc))
  have q1 := y0.c0; have q2 := y0.c1; have q3 := y0.fr 0; have q4 := y0.fr 1; have q5 := y1.c0; have q6 := y1.c1
  clear hb0 hb x0 x1 y0 y1 hb1 A' B'
  go_wp2_with fail
  refine gen_calls (fun w' => Below w.heap.size w w' ∧ Box w' w.heap.size (.bool b) (.slice ao l nc) ∧ Box w' (w.heap.size + 1) (.bool c) (.slice bo m mc) ∧ Whole w' b ao l nc x ∧ Whole w' c bo r mc y) ⟨hB1.out, z0.out, z1.out, A1.out, B1.out⟩ ?_
  rintro w2 ⟨bb, p, q, A, B⟩
  clear q1 q2 q3 q4 q5 q6 hB1 z0 z1 A1 B1
  refine (few3_any c bo m mc _ hm hmc).mono ?_
  rw [← hr'.out]
  rintro e w3 ⟨rfl, hb⟩
  have bb := below_then bb (Nat.le_refl _) hb; have p := p.later hb; have q := q.later hb; have A := A.below hb; have B := B.below hb
  have A1 := Lib.hid (A.box q (.bool c) (.slice bo r mc)); have B1 := Lib.hid (B.box q (.bool c) (.slice bo r mc))
  have hB1 := Lib.hid (below_set bb (Nat.le_succ _) (.bool c) (.slice bo r mc))
  have z0 := Lib.hid (p.other (C := w.heap.size + 1) (by omega) (.bool c) (.slice bo r mc)); have z1 := Lib.hid (q.set (.bool c) (.slice bo r mc))
  have q1 := q.c0; have q2 := q.c1; have q3 := q.fr 0; have q4 := q.fr 1; have q5 := p.c0; have q6 := p.c1
  clear hb bb p q A B
  go_upto_region 3 with fail
  refine gen_wp (fun w' => Below w.heap.size w w' ∧ Box w' w.heap.size (.bool b) (.slice ao l nc) ∧ Box w' (w.heap.size + 1) (.bool c) (.slice bo r mc) ∧ Whole w' b ao l nc x ∧ Whole w' c bo r mc y) ⟨hB1.out, z0.out, z1.out, A1.out, B1.out⟩ ?_
  rintro w0 ⟨hb0, x0, x1, A0, B0⟩
  clear q1 q2 q3 q4 q5 q6 hB1 z0 z1 A1 B1
  go_cut [5, 6] from 11 to 14 (fun s t wx => ∃ P Q, s = .pointer (some ⟨P, 0, none⟩) ∧ t = .pointer (some ⟨Q, 0, none⟩) ∧ Box wx P (.bool b) (.slice ao l nc) ∧ Box wx Q (.bool c) (.slice bo r mc) ∧ Box wx w.heap.size (.bool b) (.slice ao l nc) ∧ Box wx (w.heap.size + 1) (.bool c) (.slice bo r mc) ∧
    Whole wx b ao l nc x ∧ Whole wx c bo r mc y ∧ Below w.heap.size w wx)
  case first =>
    have l0 := x0.lt; have l1 := x1.lt; have gs0 := hb0.size
    have gb0 := hb0
    go_region_held3 (fun w' => w'.cell? ⟨w.heap.size, 0, none⟩ = some (.bool b) ∧ w'.cell? ⟨w.heap.size, 1, none⟩ = some (.slice ao l nc) ∧ w'.cell? ⟨w.heap.size + 1, 0, none⟩ = some (.bool c) ∧ w'.cell? ⟨w.heap.size + 1, 1, none⟩ = some (.slice bo r mc))
      (first | with_reducible exact ⟨x0.drew.c0, x0.drew.c1, x1.drew.c0, x1.drew.c1⟩ | with_reducible exact ⟨(x0.alloc _).drew.c0, (x0.alloc _).drew.c1, (x1.alloc _).drew.c0, (x1.alloc _).drew.c1⟩ | with_reducible exact ⟨((x0.alloc _).alloc _).drew.c0, ((x0.alloc _).alloc _).drew.c1, ((x1.alloc _).alloc _).drew.c0, ((x1.alloc _).alloc _).drew.c1⟩ | with_reducible exact ⟨y0.c0, y0.c1, y1.c0, y1.c1⟩ | with_reducible exact ⟨(y0.alloc _).c0, (y0.alloc _).c1, (y1.alloc _).c0, (y1.alloc _).c1⟩ | with_reducible exact ⟨((y0.alloc _).alloc _).c0, ((y0.alloc _).alloc _).c1, ((y1.alloc _).alloc _).c0, ((y1.alloc _).alloc _).c1⟩ | with_reducible exact ⟨z0.c0, z0.c1, z1.c0, z1.c1⟩ | with_reducible exact ⟨(z0.alloc _).c0, (z0.alloc _).c1, (z1.alloc _).c0, (z1.alloc _).c1⟩ | with_reducible exact ⟨((z0.alloc _).alloc _).c0, ((z0.alloc _).alloc _).c1, ((z1.alloc _).alloc _).c0, ((z1.alloc _).alloc _).c1⟩ | with_reducible exact ⟨(z0.other (by omega) _ _).c0, (z0.other (by omega) _ _).c1, (z1.other (by omega) _ _).c0, (z1.other (by omega) _ _).c1⟩ | with_reducible exact ⟨((z0.other (by omega) _ _).alloc _).c0, ((z0.other (by omega) _ _).alloc _).c1, ((z1.other (by omega) _ _).alloc _).c0, ((z1.other (by omega) _ _).alloc _).c1⟩ | with_reducible exact ⟨((z0.other (by omega) _ _).other (by omega) _ _).c0, ((z0.other (by omega) _ _).other (by omega) _ _).c1, ((z1.other (by omega) _ _).other (by omega) _ _).c0, ((z1.other (by omega) _ _).other (by omega) _ _).c1⟩ | go_keep)
      (first
      | (go_at_call_of 9 nc; refine (mine_any b ao l nc _).mono ?_; rintro e w1 ⟨rfl, hb1⟩; have hc1 : Below w0.heap.size w0 w1 := (by (first | exact (Below.refl _ _).drew.trans hb1 | exact ((Below.refl _ _).alloc (by first | exact Nat.le_refl _ | (simp; done) | (simp; omega)) _).drew.trans (hb1.mono (by first | (simp; done) | (simp; omega))) | exact (((Below.refl _ _).alloc (by first | exact Nat.le_refl _ | (simp; done) | (simp; omega)) _).alloc (by first | exact Nat.le_refl _ | (simp; done) | (simp; omega)) _).drew.trans (hb1.mono (by first | (simp; done) | (simp; omega))))); have hz1 := hc1.size; have y0 := x0.later hc1; have ly0 := y0.lt; have y1 := x1.later hc1; have ly1 := y1.lt; have A1 := A0.below hc1; have B1 := B0.below hc1; have gb1 := below_then gb0 (Nat.le_refl _) hc1; have gs1 := gb1.size; (first | (with_reducible have mm := made2' hb1; obtain ⟨m10, m11⟩ := mm) | (with_reducible have m10 := made1' hb1) | skip); (try have k10 := m10.lt); (try have k11 := m11.lt))
      | (go_at_call_of 9 mc; refine (mine_any c bo r mc _).mono ?_; rintro e w2 ⟨rfl, hb2⟩; have hc2 : Below w1.heap.size w1 w2 := (by (first | with_reducible exact hb2 | exact ((Below.refl _ _).alloc (by first | exact Nat.le_refl _ | (simp; done) | (simp; omega)) _).trans (hb2.mono (by first | (simp; done) | (simp; omega))) | exact (((Below.refl _ _).alloc (by first | exact Nat.le_refl _ | (simp; done) | (simp; omega)) _).alloc (by first | exact Nat.le_refl _ | (simp; done) | (simp; omega)) _).trans (hb2.mono (by first | (simp; done) | (simp; omega))))); have hz2 := hc2.size; have z0 := y0.later hc2; have lz0 := z0.lt; have z1 := y1.later hc2; have lz1 := z1.lt; have A2 := A1.below hc2; have B2 := B1.below hc2; have gb2 := below_then gb1 (Nat.le_refl _) hc2; have gs2 := gb2.size; (try have m10 := m10.later hc2); (try have m11 := m11.later hc2); (first | (with_reducible have mm := made2 hb2; obtain ⟨m20, m21⟩ := mm) | (with_reducible have m20 := made1 hb2) | skip); (try have k10 := m10.lt); (try have k11 := m11.lt); (try have k20 := m20.lt); (try have k21 := m21.lt); (try (have f100 := m10.c0; have f101 := m10.c1; have f102 := m10.fr 0; have f103 := m10.fr 1)); (try (have f110 := m11.c0; have f111 := m11.c1; have f112 := m11.fr 0; have f113 := m11.fr 1)); (try (have f200 := m20.c0; have f201 := m20.c1; have f202 := m20.fr 0; have f203 := m20.fr 1)); (try (have f210 := m21.c0; have f211 := m21.c1; have f212 := m21.fr 0; have f213 := m21.fr 1))))
    · go_wp2_with fail; go_meet; exact ⟨_, _, rfl, rfl, ((Box.new _ _ _ (by first | rfl | (simp; done))).alloc _), (Box.new _ _ _ (by first | rfl | (simp; done))), ((z0.alloc _).alloc _), ((z1.alloc _).alloc _), ((A2.alloc _).alloc _), ((B2.alloc _).alloc _), (Below.alloc (Below.alloc gb2 (by first | omega | (simp; omega) | (simp; done)) _) (by first | omega | (simp; omega) | (simp; done)) _)⟩
    · go_wp2_with fail; go_meet; exact ⟨_, _, rfl, rfl, (Box.new _ _ _ (by first | rfl | (simp; done))), ((Box.new _ _ _ (by first | rfl | (simp; done))).alloc _), ((z0.alloc _).alloc _), ((z1.alloc _).alloc _), ((A2.alloc _).alloc _), ((B2.alloc _).alloc _), (Below.alloc (Below.alloc gb2 (by first | omega | (simp; omega) | (simp; done)) _) (by first | omega | (simp; omega) | (simp; done)) _)⟩
    · go_wp2_with fail; go_meet; exact ⟨_, _, rfl, rfl, ((m20.set _ _).alloc _), (Box.new _ _ _ (by first | rfl | (simp; done))), ((z0.other (by omega) _ _).alloc _), ((z1.other (by omega) _ _).alloc _), ((A2.box m20 _ _).alloc _), ((B2.box m20 _ _).alloc _), (Below.alloc (below_set gb2 (by omega) _ _) (by first | omega | (simp; omega) | (simp; done)) _)⟩
    · go_wp2_with fail; go_meet; exact ⟨_, _, rfl, rfl, ((m20.set _ _).other (by omega) _ _), ((m21.other (by omega) _ _).set _ _), ((z0.other (by omega) _ _).other (by omega) _ _), ((z1.other (by omega) _ _).other (by omega) _ _), ((A2.box m20 _ _).box (m21.other (by omega) _ _) _ _), ((B2.box m20 _ _).box (m21.other (by omega) _ _) _ _), (below_set (below_set gb2 (by omega) _ _) (by omega) _ _)⟩
    · go_wp2_with fail; go_meet; exact ⟨_, _, rfl, rfl, (Box.new _ _ _ (by first | rfl | (simp; done))), ((m20.set _ _).alloc _), ((z0.other (by omega) _ _).alloc _), ((z1.other (by omega) _ _).alloc _), ((A2.box m20 _ _).alloc _), ((B2.box m20 _ _).alloc _), (Below.alloc (below_set gb2 (by omega) _ _) (by first | omega | (simp; omega) | (simp; done)) _)⟩
    · go_wp2_with fail; go_meet; exact ⟨_, _, rfl, rfl, ((m21.set _ _).other (by omega) _ _), ((m20.other (by omega) _ _).set _ _), ((z0.other (by omega) _ _).other (by omega) _ _), ((z1.other (by omega) _ _).other (by omega) _ _), ((A2.box m21 _ _).box (m20.other (by omega) _ _) _ _), ((B2.box m21 _ _).box (m20.other (by omega) _ _) _ _), (below_set (below_set gb2 (by omega) _ _) (by omega) _ _)⟩
    · go_wp2_with fail; go_meet; exact ⟨_, _, rfl, rfl, ((m10.set _ _).alloc _), (Box.new _ _ _ (by first | rfl | (simp; done))), ((z0.other (by omega) _ _).alloc _), ((z1.other (by omega) _ _).alloc _), ((A2.box m10 _ _).alloc _), ((B2.box m10 _ _).alloc _), (Below.alloc (below_set gb2 (by omega) _ _) (by first | omega | (simp; omega) | (simp; done)) _)⟩
    · go_wp2_with fail; go_meet; exact ⟨_, _, rfl, rfl, ((m10.set _ _).other (by omega) _ _), ((m20.other (by omega) _ _).set _ _), ((z0.other (by omega) _ _).other (by omega) _ _), ((z1.other (by omega) _ _).other (by omega) _ _), ((A2.box m10 _ _).box (m20.other (by omega) _ _) _ _), ((B2.box m10 _ _).box (m20.other (by omega) _ _) _ _), (below_set (below_set gb2 (by omega) _ _) (by omega) _ _)⟩
    · go_wp2_with fail; go_meet; exact ⟨_, _, rfl, rfl, ((m10.set _ _).other (by omega) _ _), ((m11.other (by omega) _ _).set _ _), ((z0.other (by omega) _ _).other (by omega) _ _), ((z1.other (by omega) _ _).other (by omega) _ _), ((A2.box m10 _ _).box (m11.other (by omega) _ _) _ _), ((B2.box m10 _ _).box (m11.other (by omega) _ _) _ _), (below_set (below_set gb2 (by omega) _ _) (by omega) _ _)⟩
    · go_wp2_with fail; go_meet; exact ⟨_, _, rfl, rfl, (Box.new _ _ _ (by first | rfl | (simp; done))), ((m10.set _ _).alloc _), ((z0.other (by omega) _ _).alloc _), ((z1.other (by omega) _ _).alloc _), ((A2.box m10 _ _).alloc _), ((B2.box m10 _ _).alloc _), (Below.alloc (below_set gb2 (by omega) _ _) (by first | omega | (simp; omega) | (simp; done)) _)⟩
    · go_wp2_with fail; go_meet; exact ⟨_, _, rfl, rfl, ((m20.set _ _).other (by omega) _ _), ((m10.other (by omega) _ _).set _ _), ((z0.other (by omega) _ _).other (by omega) _ _), ((z1.other (by omega) _ _).other (by omega) _ _), ((A2.box m20 _ _).box (m10.other (by omega) _ _) _ _), ((B2.box m20 _ _).box (m10.other (by omega) _ _) _ _), (below_set (below_set gb2 (by omega) _ _) (by omega) _ _)⟩
    · go_wp2_with fail; go_meet; exact ⟨_, _, rfl, rfl, ((m11.set _ _).other (by omega) _ _), ((m10.other (by omega) _ _).set _ _), ((z0.other (by omega) _ _).other (by omega) _ _), ((z1.other (by omega) _ _).other (by omega) _ _), ((A2.box m11 _ _).box (m10.other (by omega) _ _) _ _), ((B2.box m11 _ _).box (m10.other (by omega) _ _) _ _), (below_set (below_set gb2 (by omega) _ _) (by omega) _ _)⟩
  case rest =>
    obtain ⟨P, Q, rfl, rfl, p, q, s, t, A, B, bb⟩ := hcut
    clear x0 x1 hb0 A0 B0
    go_wp2_with fail
    have bb := bb.drew; have p := p.drew; have q := q.drew; have s := s.drew; have t := t.drew; have A := A.drew; have B := B.drew
    have sa0 := True.intro
    go_region_held3 (fun w' => w'.cell? ⟨P, 0, none⟩ = some (.bool b) ∧ w'.cell? ⟨P, 1, none⟩ = some (.slice ao l nc) ∧ w'.cell? ⟨Q, 0, none⟩ = some (.bool c) ∧ w'.cell? ⟨Q, 1, none⟩ = some (.slice bo r mc) ∧ w'.cell? ⟨w.heap.size, 0, none⟩ = some (.bool b) ∧ w'.cell? ⟨w.heap.size, 1, none⟩ = some (.slice ao l nc) ∧ w'.cell? ⟨(w.heap.size + 1), 0, none⟩ = some (.bool c) ∧ w'.cell? ⟨(w.heap.size + 1), 1, none⟩ = some (.slice bo r mc))
      (first | with_reducible exact ⟨p.c0, p.c1, q.c0, q.c1, s.c0, s.c1, t.c0, t.c1⟩ | go_keep)
      (first
      | (go_at_call 11; clear sa0; refine (wAdd_any b c ao bo l nc r mc x y _ A B).mono ?_; rintro e w' ⟨eb, eo, en, ec, rfl, h1, hb⟩; have bb := below_then bb (Nat.le_refl _) hb; have p := p.later hb; have q := q.later hb; have s := s.later hb; have t := t.later hb; have A := A.below hb; have B := B.below hb; have sa1 := True.intro)
      | (go_at_call 12; clear sa1; refine (rAdd_any b c ao bo l nc r mc x y _ A B 36 (by omega) hx.out hy.out).mono ?_; rintro e w' ⟨fb, fo, fn, fc, rfl, h2, hb⟩; have bb := below_then bb (Nat.le_refl _) hb; have p := p.later hb; have q := q.later hb; have s := s.later hb; have t := t.later hb; have A := A.below hb; have B := B.below hb; have h1 := h1.below hb; have sa2 := True.intro)
      | (go_at_call 10; clear sa2; refine (same3_any eb fb eo fo en ec fn fc (x + y) _ h1 h2).mono ?_; rintro e w' ⟨rfl, hb⟩; have bb := below_then bb (Nat.le_refl _) hb; have p := p.later hb; have q := q.later hb; have s := s.later hb; have t := t.later hb; have A := A.below hb; have B := B.below hb; have h1 := h1.below hb; have h2 := h2.below hb; have sa3 := True.intro)
      | (go_at_call 13; clear sa3; refine (wSub_any b c ao bo l nc r mc x y _ A B).mono ?_; rintro e w' ⟨eb, eo, en, ec, rfl, h1, hb⟩; have bb := below_then bb (Nat.le_refl _) hb; have p := p.later hb; have q := q.later hb; have s := s.later hb; have t := t.later hb; have A := A.below hb; have B := B.below hb; have sa4 := True.intro)
      | (go_at_call 14; clear sa4; refine (rSub_any b c ao bo l nc r mc x y _ A B 36 (by omega) hx.out hy.out).mono ?_; rintro e w' ⟨fb, fo, fn, fc, rfl, h2, hb⟩; have bb := below_then bb (Nat.le_refl _) hb; have p := p.later hb; have q := q.later hb; have s := s.later hb; have t := t.later hb; have A := A.below hb; have B := B.below hb; have h1 := h1.below hb; have sa5 := True.intro)
      | (go_at_call 10; clear sa5; refine (same3_any eb fb eo fo en ec fn fc (x - y) _ h1 h2).mono ?_; rintro e w' ⟨rfl, hb⟩; have bb := below_then bb (Nat.le_refl _) hb; have p := p.later hb; have q := q.later hb; have s := s.later hb; have t := t.later hb; have A := A.below hb; have B := B.below hb; have h1 := h1.below hb; have h2 := h2.below hb; have sa6 := True.intro)
      | (go_at_call 15; clear sa6; refine (wMul_any b c ao bo l nc r mc x y _ A B).mono ?_; rintro e w' ⟨eb, eo, en, ec, rfl, h1, hb⟩; have bb := below_then bb (Nat.le_refl _) hb; have p := p.later hb; have q := q.later hb; have s := s.later hb; have t := t.later hb; have A := A.below hb; have B := B.below hb; have sa7 := True.intro)
      | (go_at_call 16; clear sa7; refine (rMul_any b c ao bo l nc r mc x y _ A B 36 (by omega) hx.out hy.out).mono ?_; rintro e w' ⟨fb, fo, fn, fc, rfl, h2, hb⟩; have bb := below_then bb (Nat.le_refl _) hb; have p := p.later hb; have q := q.later hb; have s := s.later hb; have t := t.later hb; have A := A.below hb; have B := B.below hb; have h1 := h1.below hb; have sa8 := True.intro)
      | (go_at_call 10; clear sa8; refine (same3_any eb fb eo fo en ec fn fc (x * y) _ h1 h2).mono ?_; rintro e w' ⟨rfl, hb⟩; have bb := below_then bb (Nat.le_refl _) hb; have p := p.later hb; have q := q.later hb; have s := s.later hb; have t := t.later hb; have A := A.below hb; have B := B.below hb; have h1 := h1.below hb; have h2 := h2.below hb; have sa9 := True.intro)
      | (go_at_call 17; clear sa9; refine (wCmp_any b c ao bo l nc r mc x y _ A B).mono ?_; rintro e w' ⟨rfl, hb⟩; have bb := below_then bb (Nat.le_refl _) hb; have p := p.later hb; have q := q.later hb; have s := s.later hb; have t := t.later hb; have A := A.below hb; have B := B.below hb; have sa10 := True.intro)
      | (go_at_call 18; clear sa10; refine (rCmp_any b c ao bo l nc r mc x y _ A B 36 (by omega) hx.out hy.out).mono ?_; rintro e w' ⟨rfl, hb⟩; have bb := below_then bb (Nat.le_refl _) hb; have p := p.later hb; have q := q.later hb; have s := s.later hb; have t := t.later hb; have A := A.below hb; have B := B.below hb; have sa11 := True.intro))
    go_wp2_with fail
    have bb := bb.drew; have p := p.drew; have q := q.drew; have s := s.drew; have t := t.drew; have A := A.drew; have B := B.drew
    have sb0 := True.intro
    go_region_held3 (fun w' => w'.cell? ⟨P, 0, none⟩ = some (.bool b) ∧ w'.cell? ⟨P, 1, none⟩ = some (.slice ao l nc) ∧ w'.cell? ⟨Q, 0, none⟩ = some (.bool c) ∧ w'.cell? ⟨Q, 1, none⟩ = some (.slice bo r mc) ∧ w'.cell? ⟨w.heap.size, 0, none⟩ = some (.bool b) ∧ w'.cell? ⟨w.heap.size, 1, none⟩ = some (.slice ao l nc) ∧ w'.cell? ⟨(w.heap.size + 1), 0, none⟩ = some (.bool c) ∧ w'.cell? ⟨(w.heap.size + 1), 1, none⟩ = some (.slice bo r mc))
      (first | with_reducible exact ⟨p.c0, p.c1, q.c0, q.c1, s.c0, s.c1, t.c0, t.c1⟩ | go_keep)
      (first
      | (go_at_call 19; clear sb0; refine (wSign_any b ao l nc x _ A).mono ?_; rintro e w' ⟨rfl, hb⟩; have bb := below_then bb (Nat.le_refl _) hb; have p := p.later hb; have q := q.later hb; have s := s.later hb; have t := t.later hb; have A := A.below hb; have B := B.below hb; have sb1 := True.intro)
      | (go_at_call 20; clear sb1; refine (rSign_any b ao l nc x _ A).mono ?_; rintro e w' ⟨rfl, hb⟩; have bb := below_then bb (Nat.le_refl _) hb; have p := p.later hb; have q := q.later hb; have s := s.later hb; have t := t.later hb; have A := A.below hb; have B := B.below hb; have sb2 := True.intro)
      | (go_at_call 21; clear sb2; refine (wNeg_any b ao l nc x _ A).mono ?_; rintro e w' ⟨eb, eo, en, ec, rfl, h1, hb⟩; have bb := below_then bb (Nat.le_refl _) hb; have p := p.later hb; have q := q.later hb; have s := s.later hb; have t := t.later hb; have A := A.below hb; have B := B.below hb; have sb3 := True.intro)
      | (go_at_call 22; clear sb3; refine (rNeg_any b ao l nc x _ A).mono ?_; rintro e w' ⟨fb, fo, fn, fc, rfl, h2, hb⟩; have bb := below_then bb (Nat.le_refl _) hb; have p := p.later hb; have q := q.later hb; have s := s.later hb; have t := t.later hb; have A := A.below hb; have B := B.below hb; have h1 := h1.below hb; have sb4 := True.intro)
      | (go_at_call 10; clear sb4; refine (same3_any eb fb eo fo en ec fn fc (-x) _ h1 h2).mono ?_; rintro e w' ⟨rfl, hb⟩; have bb := below_then bb (Nat.le_refl _) hb; have p := p.later hb; have q := q.later hb; have s := s.later hb; have t := t.later hb; have A := A.below hb; have B := B.below hb; have h1 := h1.below hb; have h2 := h2.below hb; have sb5 := True.intro)
      | (go_at_call 23; clear sb5; refine (wNorm_any b ao l nc x _ A).mono ?_; rintro e w' ⟨eb, eo, en, ec, rfl, h1, hb⟩; have bb := below_then bb (Nat.le_refl _) hb; have p := p.later hb; have q := q.later hb; have s := s.later hb; have t := t.later hb; have A := A.below hb; have B := B.below hb; have sb6 := True.intro)
      | (go_at_call 24; clear sb6; refine (rNorm_any b ao l nc x _ A).mono ?_; rintro e w' ⟨fb, fo, fn, fc, rfl, h2, hb⟩; have bb := below_then bb (Nat.le_refl _) hb; have p := p.later hb; have q := q.later hb; have s := s.later hb; have t := t.later hb; have A := A.below hb; have B := B.below hb; have h1 := h1.below hb; have sb7 := True.intro)
      | (go_at_call 10; clear sb7; refine (same3_any eb fb eo fo en ec fn fc (x) _ h1 h2).mono ?_; rintro e w' ⟨rfl, hb⟩; have bb := below_then bb (Nat.le_refl _) hb; have p := p.later hb; have q := q.later hb; have s := s.later hb; have t := t.later hb; have A := A.below hb; have B := B.below hb; have h1 := h1.below hb; have h2 := h2.below hb; have sb8 := True.intro)
      | (go_at_call 25; clear sb8; refine (awake3_any _).mono ?_; rintro e w' ⟨rfl, hb⟩; have bb := below_then bb (Nat.le_refl _) hb; have p := p.later hb; have q := q.later hb; have s := s.later hb; have t := t.later hb; have A := A.below hb; have B := B.below hb; have sb9 := True.intro))
    go_wp2_with fail
    go_ret
    exact ⟨rfl, bb⟩

end Go.Proofs.Ytkcbppijajgoiaa
