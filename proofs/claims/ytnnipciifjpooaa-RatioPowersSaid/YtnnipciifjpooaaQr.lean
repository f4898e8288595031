/-
  ratio.Gcd, Lcm; scrimref04.Gcd, Lcm.
-/
import Derived.Test.YtnnipciifjpooaaQq
namespace Go.Proofs.Ytnnipciifjpooaa
open Go.RowKit Num

attribute [local go_sem ↓] Go.wp_at_zero Go.wp_at_succ

def gcdRes (P : Int) (Q : Nat) (R : Int) (S : Nat) : Int × Nat × Int := if Q = 1 ∧ S = 1 then ((Nat.gcd P.natAbs R.natAbs : Int), 1, 0) else (0, 0, 3)
def GcdPost (P : Int) (Q : Nat) (R : Int) (S : Nat) := ResPost (gcdRes P Q R S).1 (gcdRes P Q R S).2.1 (gcdRes P Q R S).2.2
theorem gcd_yes {P R : Int} {Q S : Nat} {w w' : World} {e : Ending} (h : Q = 1 ∧ S = 1) : GcdPost P Q R S w e w' ↔ ResPost (Nat.gcd P.natAbs R.natAbs) 1 0 w e w' := by
  unfold GcdPost gcdRes; rw [if_pos h]
theorem gcd_no {P R : Int} {Q S : Nat} {w w' : World} {e : Ending} (h : ¬ (Q = 1 ∧ S = 1)) : GcdPost P Q R S w e w' ↔ ResPost 0 0 3 w e w' := by
  unfold GcdPost gcdRes; rw [if_neg h]
theorem gcd_32 {P R : Int} (hP : P.natAbs < pw 32) (hR : R.natAbs < pw 32) : ((Nat.gcd P.natAbs R.natAbs : Nat) : Int).natAbs < pw 32 := by
  rw [Int.natAbs_natCast]
  by_cases h : P.natAbs = 0
  · rw [h, Nat.gcd_zero_left]; exact hR
  · exact Nat.lt_of_le_of_lt (Nat.gcd_le_left _ (Nat.pos_of_ne_zero h)) hP
theorem gcd_whole {w : World} {b c : Bool} {ao bo : Option Addr} {n nc m mc : Nat} {x y : Int} (h : Whole w b ao n nc x) (k : Whole w c bo m mc y) : ∃ f g, Arg w ao n nc f ∧ Arg w bo m mc g ∧ val f n = x.natAbs ∧ val g m = y.natAbs := by
  obtain ⟨f, A, e⟩ := whole_abs h
  obtain ⟨g, B, d⟩ := whole_abs k
  exact ⟨f, g, A, B, e, d⟩
theorem nat_whole {w : World} {ao : Option Addr} {n nc v : Nat} {f : Nat → Nat} (h1 : n ≤ nc) (h2 : nc ≤ 9223372036854775807) (h3 : Sl w ao n f) (h4 : Canon v n f) (hv : (v : Int).natAbs < pw 32) : Whole w false ao n nc (v : Int) := by
  rw [Int.natAbs_natCast] at hv
  exact ⟨f, ⟨h1, h2, Nat.le_trans (h4.len_le hv) (by omega), h3, h4.lim⟩, by rw [h4.val]; rfl⟩
set_option maxRecDepth 20000 in
set_option maxHeartbeats 4000000 in
theorem gcd4_any (ab : Bool) (ap aq : Option Addr) (an ac am ae : Nat) (P : Int) (Q : Nat)  (cb : Bool) (cp cq : Option Addr) (cn cc cm ce : Nat) (R : Int) (S : Nat) (w : World) (Ra : Rt w ab ap an ac aq am ae P Q) (la : Low P Q) (Rb : Rt w cb cp cn cc cq cm ce R S) (lb : Low R S) :
    Calls Try.prog 34 #[.agg #[.bool ab, .slice ap an ac, .slice aq am ae], .agg #[.bool cb, .slice cp cn cc, .slice cq cm ce]] w (GcdPost P Q R S w) := by
  replace Ra := Lib.hid Ra; replace la := Lib.hid la; replace Rb := Lib.hid Rb; replace lb := Lib.hid lb
  go_enter Try.func34, Try.ntmps34
  go_upto_region 1 with fail
  refine gen_wp (fun w' => Below w.heap.size w w' ∧ Box3 w' w.heap.size (.bool ab) (.slice ap an ac) (.slice aq am ae) ∧ Box3 w' (w.heap.size + 1) (.bool cb) (.slice cp cn cc) (.slice cq cm ce) ∧ Box3 w' (w.heap.size + 2) (.bool false) (.slice none 0 0) (.slice none 0 0))
    ⟨((((Below.refl _ _).alloc (Nat.le_refl _) _).alloc (by first | (simp; done) | (simp; omega)) _).alloc (by first | (simp; done) | (simp; omega)) _), (((Box3.new _ _ _ _ rfl).alloc _).alloc _), ((Box3.new _ _ _ _ (by first | (simp; done) | (simp; omega))).alloc _), (Box3.new _ _ _ _ (by first | (simp; done) | (simp; omega)))⟩ ?_
  rintro w0 ⟨bb, Xa, Xb, X2⟩
  replace Ra := Ra.out.below bb; replace Rb := Rb.out.below bb
  replace bb := Lib.hid bb; replace Xa := Lib.hid Xa; replace Xb := Lib.hid Xb; replace X2 := Lib.hid X2; replace Ra := Lib.hid Ra; replace Rb := Lib.hid Rb
  have p00 := Xa.out.c0; have p01 := Xa.out.c1; have p02 := Xa.out.c2
  go_wp2_with fail
  clear p00 p01 p02
  refine (int_any ab ap aq an ac am ae P Q _ Ra.out la.out).mono ?_
  rintro e v1 ⟨db, dp, dn, dc, rfl, D, hb⟩
  replace bb := Lib.hid (below_then bb.out (Nat.le_refl _) hb); replace Xa := Lib.hid (Xa.out.later hb); replace Xb := Lib.hid (Xb.out.later hb); replace X2 := Lib.hid (X2.out.later hb); replace Ra := Lib.hid (Ra.out.below hb); replace Rb := Lib.hid (Rb.out.below hb)
  replace D := Lib.hid D
  clear hb
  go_upto_region 2 with fail
  refine gen_wp (fun w' => Below w.heap.size w w' ∧ Box3 w' w.heap.size (.bool ab) (.slice ap an ac) (.slice aq am ae) ∧ Box3 w' (w.heap.size + 1) (.bool cb) (.slice cp cn cc) (.slice cq cm ce) ∧ Box3 w' (w.heap.size + 2) (.bool false) (.slice none 0 0) (.slice none 0 0) ∧ Box w' v1.heap.size (.bool db) (.slice dp dn dc) ∧ Rt w' ab ap an ac aq am ae P Q ∧ Rt w' cb cp cn cc cq cm ce R S ∧ Right w' db dp dn dc (if Q = 1 then P else 0))
    ⟨bb.out.alloc bb.out.size _, Xa.out.alloc _, Xb.out.alloc _, X2.out.alloc _, Box.new _ _ _ rfl, Ra.out.alloc _, Rb.out.alloc _, D.out.alloc _⟩ ?_
  clear bb Xa Xb X2 Ra Rb D
  rintro x1 ⟨bb, Xa, Xb, X2, Xd, Ra, Rb, D⟩
  replace bb := Lib.hid bb; replace Xa := Lib.hid Xa; replace Xb := Lib.hid Xb; replace X2 := Lib.hid X2; replace Xd := Lib.hid Xd; replace Ra := Lib.hid Ra; replace Rb := Lib.hid Rb; replace D := Lib.hid D
  have p00 := Xb.out.c0; have p01 := Xb.out.c1; have p02 := Xb.out.c2
  go_wp2_with fail
  clear p00 p01 p02
  refine (int_any cb cp cq cn cc cm ce R S _ Rb.out lb.out).mono ?_
  rintro e v2 ⟨eb, ep, en, ec, rfl, E, hb⟩
  replace bb := Lib.hid (below_then bb.out (Nat.le_refl _) hb); replace Xa := Lib.hid (Xa.out.later hb); replace Xb := Lib.hid (Xb.out.later hb); replace X2 := Lib.hid (X2.out.later hb); replace Xd := Lib.hid (Xd.out.later hb); replace Ra := Lib.hid (Ra.out.below hb); replace Rb := Lib.hid (Rb.out.below hb); replace D := Lib.hid (D.out.below hb)
  replace E := Lib.hid E
  clear hb
  go_upto_region 3 with fail
  refine gen_wp (fun w' => Below w.heap.size w w' ∧ Box3 w' w.heap.size (.bool ab) (.slice ap an ac) (.slice aq am ae) ∧ Box3 w' (w.heap.size + 1) (.bool cb) (.slice cp cn cc) (.slice cq cm ce) ∧ Box3 w' (w.heap.size + 2) (.bool false) (.slice none 0 0) (.slice none 0 0) ∧ Box w' v1.heap.size (.bool db) (.slice dp dn dc) ∧ Box w' v2.heap.size (.bool eb) (.slice ep en ec) ∧ Rt w' ab ap an ac aq am ae P Q ∧ Rt w' cb cp cn cc cq cm ce R S ∧ Right w' db dp dn dc (if Q = 1 then P else 0) ∧ Right w' eb ep en ec (if S = 1 then R else 0))
    ⟨bb.out.alloc bb.out.size _, Xa.out.alloc _, Xb.out.alloc _, X2.out.alloc _, Xd.out.alloc _, Box.new _ _ _ rfl, Ra.out.alloc _, Rb.out.alloc _, D.out.alloc _, E.out.alloc _⟩ ?_
  clear bb Xa Xb X2 Xd Ra Rb D E
  rintro x2 ⟨bb, Xa, Xb, X2, Xd, Xe, Ra, Rb, D, E⟩
  replace bb := Lib.hid bb; replace Xa := Lib.hid Xa; replace Xb := Lib.hid Xb; replace X2 := Lib.hid X2; replace Xd := Lib.hid Xd; replace Xe := Lib.hid Xe; replace Ra := Lib.hid Ra; replace Rb := Lib.hid Rb; replace D := Lib.hid D; replace E := Lib.hid E
  by_cases hQ : Q = 1
  · subst hQ
    by_cases hS : S = 1
    · subst hS
      rw [if_pos rfl] at D E
      have pd := Xd.out.c1; have pe := Xe.out.c1
      go_wp2_with fail
      clear pd pe
      obtain ⟨f, g, hf, hg, vf, vg⟩ := gcd_whole (D.out.whole32 la.out.abs_lt) (E.out.whole32 lb.out.abs_lt)
      replace vf := Lib.hid vf; replace vg := Lib.hid vg
      refine (gcd_any dp ep dn dc en ec f g _ hf hg).mono ?_
      rw [vf.out, vg.out]
      clear hf hg
      rintro e v9 ⟨go, gn, gc, gf, rfl, k1, k2, k3, k4, hb⟩
      have G := Lib.hid (nat_whole k1 k2 k3 k4 (gcd_32 la.out.abs_lt lb.out.abs_lt))
      clear k1 k2 k3 k4
      replace bb := Lib.hid (below_then bb.out (Nat.le_refl _) hb); replace Xa := Lib.hid (Xa.out.later hb); replace Xb := Lib.hid (Xb.out.later hb); replace X2 := Lib.hid (X2.out.later hb); replace Xd := Lib.hid (Xd.out.later hb); replace Xe := Lib.hid (Xe.out.later hb); replace Ra := Lib.hid (Ra.out.below hb); replace Rb := Lib.hid (Rb.out.below hb); replace D := Lib.hid (D.out.below hb); replace E := Lib.hid (E.out.below hb)
      clear hb D E Ra Rb Xa Xb Xd Xe
      go_wp2_with fail
      refine (whole_any false go gn gc _ _ G.out (gcd_32 la.out.abs_lt lb.out.abs_lt)).mono ?_
      rintro e v10 ⟨zb, zp, zn, zc, zq, zm, ze, rfl, N, hb⟩
      replace N := Lib.hid N
      replace bb := Lib.hid (below_then bb.out (Nat.le_refl _) hb); replace X2 := Lib.hid (X2.out.later hb)
      clear hb G
      replace X2 := X2.out
      replace bb := bb.out
      have q0 := X2.c0; have q1 := X2.c1; have q2 := X2.c2; have q3 := X2.fr 0; have q4 := X2.fr 1; have q5 := X2.fr 2
      have zz := X2.set (.bool zb) (.slice zp zn zc) (.slice zq zm ze)
      have e0 := zz.c0; have e1 := zz.c1; have e2 := zz.c2
      have Y2 := Lib.hid X2; have bb' := Lib.hid bb
      clear zz X2 bb
      go_wp2_with fail
      refine bodyPost_ret (v := .tuple #[.agg #[.bool zb, .slice zp zn zc, .slice zq zm ze], .int .i64 (0)]) (by simp [results, Try.results34, go_sem, e0, e1, e2]) rfl ?_
      exact (gcd_yes ⟨rfl, rfl⟩).2 (ResPost.stored N.out Y2.out bb'.out (by omega))
    · have hd : decide (S = 1) = false := decide_eq_false hS
      have hS' := Lib.hid hS
      clear hS D E Ra Rb Xa Xb Xd Xe
      replace X2 := X2.out
      replace bb := bb.out
      have q0 := X2.c0; have q1 := X2.c1; have q2 := X2.c2; have q3 := X2.fr 0; have q4 := X2.fr 1; have q5 := X2.fr 2
      have zz := X2.set (.bool false) (.slice none 0 0) (.slice none 0 0)
      have e0 := zz.c0; have e1 := zz.c1; have e2 := zz.c2
      have Y2 := Lib.hid X2; have bb' := Lib.hid bb
      clear zz X2 bb
      go_wp2_with fail
      refine bodyPost_ret (v := .tuple #[.agg #[.bool false, .slice none 0 0, .slice none 0 0], .int .i64 (3)]) (by simp [results, Try.results34, go_sem, e0, e1, e2]) rfl ?_
      exact (gcd_no (fun h => hS'.out h.2)).2 (ResPost.stored (rt_zero _) Y2.out bb'.out (by omega))
  · have hd : decide (Q = 1) = false := decide_eq_false hQ
    have hQ' := Lib.hid hQ
    clear hQ D E Ra Rb Xa Xb Xd Xe
    replace X2 := X2.out
    replace bb := bb.out
    have q0 := X2.c0; have q1 := X2.c1; have q2 := X2.c2; have q3 := X2.fr 0; have q4 := X2.fr 1; have q5 := X2.fr 2
    have zz := X2.set (.bool false) (.slice none 0 0) (.slice none 0 0)
    have e0 := zz.c0; have e1 := zz.c1; have e2 := zz.c2
    have Y2 := Lib.hid X2; have bb' := Lib.hid bb
    clear zz X2 bb
    go_wp2_with fail
    refine bodyPost_ret (v := .tuple #[.agg #[.bool false, .slice none 0 0, .slice none 0 0], .int .i64 (3)]) (by simp [results, Try.results34, go_sem, e0, e1, e2]) rfl ?_
    exact (gcd_no (fun h => hQ'.out h.1)).2 (ResPost.stored (rt_zero _) Y2.out bb'.out (by omega))

set_option maxRecDepth 20000 in
set_option maxHeartbeats 4000000 in
theorem rGcd4_any (ab : Bool) (ap aq : Option Addr) (an ac am ae : Nat) (P : Int) (Q : Nat)  (cb : Bool) (cp cq : Option Addr) (cn cc cm ce : Nat) (R : Int) (S : Nat) (w : World) (Ra : Rt w ab ap an ac aq am ae P Q) (la : Low P Q) (Rb : Rt w cb cp cn cc cq cm ce R S) (lb : Low R S) :
    Calls Try.prog 35 #[.agg #[.bool ab, .slice ap an ac, .slice aq am ae], .agg #[.bool cb, .slice cp cn cc, .slice cq cm ce]] w (GcdPost P Q R S w) := by
  replace Ra := Lib.hid Ra; replace la := Lib.hid la; replace Rb := Lib.hid Rb; replace lb := Lib.hid lb
  go_enter Try.func35, Try.ntmps35
  go_upto_region 1 with fail
  refine gen_wp (fun w' => Below w.heap.size w w' ∧ Box3 w' w.heap.size (.bool ab) (.slice ap an ac) (.slice aq am ae) ∧ Box3 w' (w.heap.size + 1) (.bool cb) (.slice cp cn cc) (.slice cq cm ce) ∧ Box3 w' (w.heap.size + 2) (.bool false) (.slice none 0 0) (.slice none 0 0))
    ⟨((((Below.refl _ _).alloc (Nat.le_refl _) _).alloc (by first | (simp; done) | (simp; omega)) _).alloc (by first | (simp; done) | (simp; omega)) _), (((Box3.new _ _ _ _ rfl).alloc _).alloc _), ((Box3.new _ _ _ _ (by first | (simp; done) | (simp; omega))).alloc _), (Box3.new _ _ _ _ (by first | (simp; done) | (simp; omega)))⟩ ?_
  rintro w0 ⟨bb, Xa, Xb, X2⟩
  replace Ra := Ra.out.below bb; replace Rb := Rb.out.below bb
  replace bb := Lib.hid bb; replace Xa := Lib.hid Xa; replace Xb := Lib.hid Xb; replace X2 := Lib.hid X2; replace Ra := Lib.hid Ra; replace Rb := Lib.hid Rb
  by_cases hQ : Q = 1
  · subst hQ
    have p00 := Xa.out.c0; have p01 := Xa.out.c1; have p02 := Xa.out.c2
    go_wp2_with fail
    clear p00 p01 p02
    refine (isWhole_any ab ap aq an ac am ae P 1 _ Ra.out).mono ?_
    rintro e v1 ⟨rfl, hb⟩
    replace bb := Lib.hid (below_then bb.out (Nat.le_refl _) hb); replace Xa := Lib.hid (Xa.out.later hb); replace Xb := Lib.hid (Xb.out.later hb); replace X2 := Lib.hid (X2.out.later hb); replace Ra := Lib.hid (Ra.out.below hb); replace Rb := Lib.hid (Rb.out.below hb)
    clear hb
    by_cases hS : S = 1
    · subst hS
      have p00 := Xb.out.c0; have p01 := Xb.out.c1; have p02 := Xb.out.c2
      go_wp2_with fail
      clear p00 p01 p02
      refine (isWhole_any cb cp cq cn cc cm ce R 1 _ Rb.out).mono ?_
      rintro e v2 ⟨rfl, hb⟩
      replace bb := Lib.hid (below_then bb.out (Nat.le_refl _) hb); replace Xa := Lib.hid (Xa.out.later hb); replace Xb := Lib.hid (Xb.out.later hb); replace X2 := Lib.hid (X2.out.later hb); replace Ra := Lib.hid (Ra.out.below hb); replace Rb := Lib.hid (Rb.out.below hb)
      clear hb
      have pd := Xa.out.c1; have pe := Xb.out.c1
      go_wp2_with fail
      clear pd pe
      obtain ⟨f, g, hf, hg, vf, vg⟩ := gcd_whole (Ra.out.upper la.out) (Rb.out.upper lb.out)
      replace vf := Lib.hid vf; replace vg := Lib.hid vg
      refine (refGcdL_any ap cp an ac cn cc f g _ hf hg 32 (by omega) (Ra.out.top.le_len la.out.abs_lt) (Rb.out.top.le_len lb.out.abs_lt)).mono ?_
      rw [vf.out, vg.out]
      clear hf hg
      rintro e v9 ⟨go, gn, gc, gf, rfl, k1, k2, k3, k4, hb⟩
      have G := Lib.hid (nat_whole k1 k2 k3 k4 (gcd_32 la.out.abs_lt lb.out.abs_lt))
      clear k1 k2 k3 k4
      replace bb := Lib.hid (below_then bb.out (Nat.le_refl _) hb); replace Xa := Lib.hid (Xa.out.later hb); replace Xb := Lib.hid (Xb.out.later hb); replace X2 := Lib.hid (X2.out.later hb); replace Ra := Lib.hid (Ra.out.below hb); replace Rb := Lib.hid (Rb.out.below hb)
      clear hb Ra Rb Xa Xb
      go_wp2_with fail
      refine (rWhole_any false go gn gc _ _ G.out).mono ?_
      rintro e v10 ⟨zb, zp, zn, zc, zq, zm, ze, rfl, N, hb⟩
      replace N := Lib.hid N
      replace bb := Lib.hid (below_then bb.out (Nat.le_refl _) hb); replace X2 := Lib.hid (X2.out.later hb)
      clear hb G
      replace X2 := X2.out
      replace bb := bb.out
      have q0 := X2.c0; have q1 := X2.c1; have q2 := X2.c2; have q3 := X2.fr 0; have q4 := X2.fr 1; have q5 := X2.fr 2
      have zz := X2.set (.bool zb) (.slice zp zn zc) (.slice zq zm ze)
      have e0 := zz.c0; have e1 := zz.c1; have e2 := zz.c2
      have Y2 := Lib.hid X2; have bb' := Lib.hid bb
      clear zz X2 bb
      go_wp2_with fail
      refine bodyPost_ret (v := .tuple #[.agg #[.bool zb, .slice zp zn zc, .slice zq zm ze], .int .i64 (0)]) (by simp [results, Try.results35, go_sem, e0, e1, e2]) rfl ?_
      exact (gcd_yes ⟨rfl, rfl⟩).2 (ResPost.stored N.out Y2.out bb'.out (by omega))
    · have p00 := Xb.out.c0; have p01 := Xb.out.c1; have p02 := Xb.out.c2
      go_wp2_with fail
      clear p00 p01 p02
      refine (isWhole_any cb cp cq cn cc cm ce R S _ Rb.out).mono ?_
      rintro e v2 ⟨rfl, hb⟩
      replace bb := Lib.hid (below_then bb.out (Nat.le_refl _) hb); replace Xa := Lib.hid (Xa.out.later hb); replace Xb := Lib.hid (Xb.out.later hb); replace X2 := Lib.hid (X2.out.later hb); replace Ra := Lib.hid (Ra.out.below hb); replace Rb := Lib.hid (Rb.out.below hb)
      clear hb
      have hd : decide (S = 1) = false := decide_eq_false hS
      have hS' := Lib.hid hS
      clear hS Ra Rb Xa Xb
      replace X2 := X2.out
      replace bb := bb.out
      have q0 := X2.c0; have q1 := X2.c1; have q2 := X2.c2; have q3 := X2.fr 0; have q4 := X2.fr 1; have q5 := X2.fr 2
      have zz := X2.set (.bool false) (.slice none 0 0) (.slice none 0 0)
      have e0 := zz.c0; have e1 := zz.c1; have e2 := zz.c2
      have Y2 := Lib.hid X2; have bb' := Lib.hid bb
      clear zz X2 bb
      go_wp2_with fail
      refine bodyPost_ret (v := .tuple #[.agg #[.bool false, .slice none 0 0, .slice none 0 0], .int .i64 (3)]) (by simp [results, Try.results35, go_sem, e0, e1, e2]) rfl ?_
      exact (gcd_no (fun h => hS'.out h.2)).2 (ResPost.stored (rt_zero _) Y2.out bb'.out (by omega))
  · have p00 := Xa.out.c0; have p01 := Xa.out.c1; have p02 := Xa.out.c2
    go_wp2_with fail
    clear p00 p01 p02
    refine (isWhole_any ab ap aq an ac am ae P Q _ Ra.out).mono ?_
    rintro e v1 ⟨rfl, hb⟩
    replace bb := Lib.hid (below_then bb.out (Nat.le_refl _) hb); replace Xa := Lib.hid (Xa.out.later hb); replace Xb := Lib.hid (Xb.out.later hb); replace X2 := Lib.hid (X2.out.later hb); replace Ra := Lib.hid (Ra.out.below hb); replace Rb := Lib.hid (Rb.out.below hb)
    clear hb
    have hd : decide (Q = 1) = false := decide_eq_false hQ
    have hQ' := Lib.hid hQ
    clear hQ Ra Rb Xa Xb
    replace X2 := X2.out
    replace bb := bb.out
    have q0 := X2.c0; have q1 := X2.c1; have q2 := X2.c2; have q3 := X2.fr 0; have q4 := X2.fr 1; have q5 := X2.fr 2
    have zz := X2.set (.bool false) (.slice none 0 0) (.slice none 0 0)
    have e0 := zz.c0; have e1 := zz.c1; have e2 := zz.c2
    have Y2 := Lib.hid X2; have bb' := Lib.hid bb
    clear zz X2 bb
    go_wp2_with fail
    refine bodyPost_ret (v := .tuple #[.agg #[.bool false, .slice none 0 0, .slice none 0 0], .int .i64 (3)]) (by simp [results, Try.results35, go_sem, e0, e1, e2]) rfl ?_
    exact (gcd_no (fun h => hQ'.out h.1)).2 (ResPost.stored (rt_zero _) Y2.out bb'.out (by omega))

def lcmD (P R : Int) : Int := P / (Nat.gcd P.natAbs R.natAbs : Int)
def lcmRes (P : Int) (Q : Nat) (R : Int) (S : Nat) : Int × Nat × Int :=
  if Q = 1 ∧ S = 1 then (if Nat.gcd P.natAbs R.natAbs = 0 then (0, 1, 0) else (mkT (lcmD P R * R) (((1 : Nat) : Int) * ((1 : Nat) : Int)), mkB (lcmD P R * R) (((1 : Nat) : Int) * ((1 : Nat) : Int)), mkE (lcmD P R * R) (((1 : Nat) : Int) * ((1 : Nat) : Int)))) else (0, 0, 3)
def LcmPost (P : Int) (Q : Nat) (R : Int) (S : Nat) := ResPost (lcmRes P Q R S).1 (lcmRes P Q R S).2.1 (lcmRes P Q R S).2.2
theorem lcm_no {P R : Int} {Q S : Nat} {w w' : World} {e : Ending} (h : ¬ (Q = 1 ∧ S = 1)) (k : ResPost 0 0 3 w e w') : LcmPost P Q R S w e w' := by
  unfold LcmPost lcmRes; rw [if_neg h]; exact k
theorem lcm_zero {P R : Int} {w w' : World} {e : Ending} (h : Nat.gcd P.natAbs R.natAbs = 0) (k : ResPost 0 1 0 w e w') : LcmPost P 1 R 1 w e w' := by
  unfold LcmPost lcmRes; rw [if_pos ⟨rfl, rfl⟩, if_pos h]; exact k
theorem lcm_yes {P R : Int} {w w' : World} {e : Ending} (h : Nat.gcd P.natAbs R.natAbs ≠ 0) (k : MakePost (lcmD P R * R) (((1 : Nat) : Int) * ((1 : Nat) : Int)) w e w') : LcmPost P 1 R 1 w e w' := by
  unfold LcmPost lcmRes; rw [if_pos ⟨rfl, rfl⟩, if_neg h]; exact k
theorem lcm_div (P R : Int) : lcmD P R * (Nat.gcd P.natAbs R.natAbs : Int) = P := Int.ediv_mul_cancel (Int.ofNat_dvd_left.2 (Nat.gcd_dvd_left _ _))
theorem lcm_low {P R : Int} (hP : P.natAbs < pw 32) (h : Nat.gcd P.natAbs R.natAbs ≠ 0) : Low (lcmD P R) 1 := by
  refine low_one (Nat.lt_of_le_of_lt ?_ hP)
  have e := congrArg Int.natAbs (lcm_div P R)
  rw [Int.natAbs_mul, Int.natAbs_natCast] at e
  have : (lcmD P R).natAbs * 1 ≤ (lcmD P R).natAbs * Nat.gcd P.natAbs R.natAbs := Nat.mul_le_mul_left _ (Nat.pos_of_ne_zero h)
  omega
theorem lcm_part {P R : Int} : P * ((1 : Nat) : Int) * ((1 : Nat) : Int) = lcmD P R * (((1 : Nat) : Int) * (Nat.gcd P.natAbs R.natAbs : Int)) := by
  have := lcm_div P R
  grind

set_option maxRecDepth 20000 in
set_option maxHeartbeats 4000000 in
theorem lcm4_any (ab : Bool) (ap aq : Option Addr) (an ac am ae : Nat) (P : Int) (Q : Nat)  (cb : Bool) (cp cq : Option Addr) (cn cc cm ce : Nat) (R : Int) (S : Nat) (w : World) (Ra : Rt w ab ap an ac aq am ae P Q) (la : Low P Q) (Rb : Rt w cb cp cn cc cq cm ce R S) (lb : Low R S) :
    Calls Try.prog 36 #[.agg #[.bool ab, .slice ap an ac, .slice aq am ae], .agg #[.bool cb, .slice cp cn cc, .slice cq cm ce]] w (LcmPost P Q R S w) := by
  replace Ra := Lib.hid Ra; replace la := Lib.hid la; replace Rb := Lib.hid Rb; replace lb := Lib.hid lb
  go_enter Try.func36, Try.ntmps36
  go_upto_region 1 with fail
  refine gen_wp (fun w' => Below w.heap.size w w' ∧ Box3 w' w.heap.size (.bool ab) (.slice ap an ac) (.slice aq am ae) ∧ Box3 w' (w.heap.size + 1) (.bool cb) (.slice cp cn cc) (.slice cq cm ce) ∧ Box3 w' (w.heap.size + 2) (.bool false) (.slice none 0 0) (.slice none 0 0))
    ⟨((((Below.refl _ _).alloc (Nat.le_refl _) _).alloc (by first | (simp; done) | (simp; omega)) _).alloc (by first | (simp; done) | (simp; omega)) _), (((Box3.new _ _ _ _ rfl).alloc _).alloc _), ((Box3.new _ _ _ _ (by first | (simp; done) | (simp; omega))).alloc _), (Box3.new _ _ _ _ (by first | (simp; done) | (simp; omega)))⟩ ?_
  rintro w0 ⟨bb, Xa, Xb, X2⟩
  replace Ra := Ra.out.below bb; replace Rb := Rb.out.below bb
  replace bb := Lib.hid bb; replace Xa := Lib.hid Xa; replace Xb := Lib.hid Xb; replace X2 := Lib.hid X2; replace Ra := Lib.hid Ra; replace Rb := Lib.hid Rb
  by_cases hQS : Q = 1 ∧ S = 1
  · obtain ⟨hQ, hS⟩ := hQS
    subst hQ hS
    obtain ⟨G, hG⟩ : ∃ G, Hid (Nat.gcd P.natAbs R.natAbs = G) := ⟨_, Lib.hid rfl⟩
    have hlG : Hid (Low (G : Int) 1) := Lib.hid (low_one (by rw [← hG.out]; exact gcd_32 la.out.abs_lt lb.out.abs_lt))
    have p00 := Xa.out.c0; have p01 := Xa.out.c1; have p02 := Xa.out.c2; have p10 := Xb.out.c0; have p11 := Xb.out.c1; have p12 := Xb.out.c2
    go_wp2_with fail
    clear p00 p01 p02 p10 p11 p12
    refine ((gcd4_any ab ap aq an ac am ae P 1 cb cp cq cn cc cm ce R 1 _ Ra.out la.out Rb.out lb.out).mono fun _ _ => (gcd_yes ⟨rfl, rfl⟩).1).mono ?_
    rw [hG.out]
    rintro e v1 ⟨db, dp, dn, dc, dq, dm, de, rfl, D, hb⟩
    replace bb := Lib.hid (below_then bb.out (Nat.le_refl _) hb); replace Xa := Lib.hid (Xa.out.later hb); replace Xb := Lib.hid (Xb.out.later hb); replace X2 := Lib.hid (X2.out.later hb); replace Ra := Lib.hid (Ra.out.below hb); replace Rb := Lib.hid (Rb.out.below hb)
    replace D := Lib.hid D
    clear hb
    go_upto_region 2 with fail
    refine gen_wp (fun w' => Below w.heap.size w w' ∧ Box3 w' w.heap.size (.bool ab) (.slice ap an ac) (.slice aq am ae) ∧ Box3 w' (w.heap.size + 1) (.bool cb) (.slice cp cn cc) (.slice cq cm ce) ∧ Box3 w' (w.heap.size + 2) (.bool false) (.slice none 0 0) (.slice none 0 0) ∧ Box3 w' v1.heap.size (.bool db) (.slice dp dn dc) (.slice dq dm de) ∧ Rt w' ab ap an ac aq am ae P 1 ∧ Rt w' cb cp cn cc cq cm ce R 1 ∧ Rt w' db dp dn dc dq dm de ((G : Int)) (1))
      ⟨bb.out.alloc bb.out.size _, Xa.out.alloc _, Xb.out.alloc _, X2.out.alloc _, Box3.new _ _ _ _ rfl, Ra.out.alloc _, Rb.out.alloc _, D.out.alloc _⟩ ?_
    clear bb Xa Xb X2 Ra Rb D
    rintro x1 ⟨bb, Xa, Xb, X2, Xd, Ra, Rb, D⟩
    replace bb := Lib.hid bb; replace Xa := Lib.hid Xa; replace Xb := Lib.hid Xb; replace X2 := Lib.hid X2; replace Xd := Lib.hid Xd; replace Ra := Lib.hid Ra; replace Rb := Lib.hid Rb; replace D := Lib.hid D
    go_upto_region 4 with fail
    by_cases hG0 : G = 0
    · subst hG0
      have p00 := Xd.out.c0; have p01 := Xd.out.c1; have p02 := Xd.out.c2
      go_wp2_with fail
      clear p00 p01 p02
      refine (sign_any db dp dq dn dc dm de 0 1 _ D.out hlG.out).mono ?_
      rintro e v2 ⟨rfl, hb⟩
      replace bb := Lib.hid (below_then bb.out (Nat.le_refl _) hb); replace Xa := Lib.hid (Xa.out.later hb); replace Xb := Lib.hid (Xb.out.later hb); replace X2 := Lib.hid (X2.out.later hb); replace Xd := Lib.hid (Xd.out.later hb); replace Ra := Lib.hid (Ra.out.below hb); replace Rb := Lib.hid (Rb.out.below hb); replace D := Lib.hid (D.out.below hb)
      clear hb
      go_wp2_with fail
      refine (of_any 0 _ (by decide) (by decide)).mono ?_
      rintro e v10 ⟨zb, zp, zn, zc, zq, zm, ze, rfl, N, hb⟩
      replace N := Lib.hid N
      clear Xa Xb Xd Ra Rb D
      replace bb := Lib.hid (below_then bb.out (Nat.le_refl _) hb); replace X2 := Lib.hid (X2.out.later hb)
      clear hb
      replace X2 := X2.out
      replace bb := bb.out
      have q0 := X2.c0; have q1 := X2.c1; have q2 := X2.c2; have q3 := X2.fr 0; have q4 := X2.fr 1; have q5 := X2.fr 2
      have zz := X2.set (.bool zb) (.slice zp zn zc) (.slice zq zm ze)
      have e0 := zz.c0; have e1 := zz.c1; have e2 := zz.c2
      have Y2 := Lib.hid X2; have bb' := Lib.hid bb
      clear zz X2 bb
      go_wp2_with fail
      refine bodyPost_ret (v := .tuple #[.agg #[.bool zb, .slice zp zn zc, .slice zq zm ze], .int .i64 (0)]) (by simp [results, Try.results36, go_sem, e0, e1, e2]) rfl ?_
      exact lcm_zero hG.out (ResPost.stored N.out Y2.out bb'.out (by omega))
    · have hG1 : Hid (Nat.gcd P.natAbs R.natAbs ≠ 0) := Lib.hid (by rw [hG.out]; exact hG0)
      have hGz : Hid ((G : Int) ≠ 0) := Lib.hid (by omega)
      have hs : ¬ (G : Int).sign = 0 := fun e => hG0 (by have := Int.sign_eq_zero_iff_zero.1 e; omega)
      clear hG0
      have p00 := Xd.out.c0; have p01 := Xd.out.c1; have p02 := Xd.out.c2
      go_wp2_with fail
      clear p00 p01 p02
      refine (sign_any db dp dq dn dc dm de G 1 _ D.out hlG.out).mono ?_
      rintro e v2 ⟨rfl, hb⟩
      replace bb := Lib.hid (below_then bb.out (Nat.le_refl _) hb); replace Xa := Lib.hid (Xa.out.later hb); replace Xb := Lib.hid (Xb.out.later hb); replace X2 := Lib.hid (X2.out.later hb); replace Xd := Lib.hid (Xd.out.later hb); replace Ra := Lib.hid (Ra.out.below hb); replace Rb := Lib.hid (Rb.out.below hb); replace D := Lib.hid (D.out.below hb)
      clear hb
      go_upto_region 6 with fail
      clear hs
      have p00 := Xa.out.c0; have p01 := Xa.out.c1; have p02 := Xa.out.c2; have p10 := Xd.out.c0; have p11 := Xd.out.c1; have p12 := Xd.out.c2
      go_wp2_with fail
      clear p00 p01 p02 p10 p11 p12
      refine ((div4_any ab ap aq an ac am ae P 1 db dp dq dn dc dm de G 1 _ Ra.out la.out D.out hlG.out).mono fun _ _ => make_is (lcm_low la.out.abs_lt hG1.out) (Int.mul_ne_zero (by decide) hGz.out) (by rw [← hG.out]; exact lcm_part)).mono ?_
      rintro e v3 ⟨fb, fp, fn, fc, fq, fm, fe, rfl, F, hb⟩
      replace bb := Lib.hid (below_then bb.out (Nat.le_refl _) hb); replace Xa := Lib.hid (Xa.out.later hb); replace Xb := Lib.hid (Xb.out.later hb); replace X2 := Lib.hid (X2.out.later hb); replace Xd := Lib.hid (Xd.out.later hb); replace Ra := Lib.hid (Ra.out.below hb); replace Rb := Lib.hid (Rb.out.below hb); replace D := Lib.hid (D.out.below hb)
      replace F := Lib.hid F
      clear hb
      go_upto_region 7 with fail
      refine gen_wp (fun w' => Below w.heap.size w w' ∧ Box3 w' w.heap.size (.bool ab) (.slice ap an ac) (.slice aq am ae) ∧ Box3 w' (w.heap.size + 1) (.bool cb) (.slice cp cn cc) (.slice cq cm ce) ∧ Box3 w' (w.heap.size + 2) (.bool false) (.slice none 0 0) (.slice none 0 0) ∧ Box3 w' v1.heap.size (.bool db) (.slice dp dn dc) (.slice dq dm de) ∧ Box3 w' v3.heap.size (.bool fb) (.slice fp fn fc) (.slice fq fm fe) ∧ Rt w' ab ap an ac aq am ae P 1 ∧ Rt w' cb cp cn cc cq cm ce R 1 ∧ Rt w' db dp dn dc dq dm de ((G : Int)) (1) ∧ Rt w' fb fp fn fc fq fm fe (lcmD P R) (1))
        ⟨bb.out.alloc bb.out.size _, Xa.out.alloc _, Xb.out.alloc _, X2.out.alloc _, Xd.out.alloc _, Box3.new _ _ _ _ rfl, Ra.out.alloc _, Rb.out.alloc _, D.out.alloc _, F.out.alloc _⟩ ?_
      clear bb Xa Xb X2 Xd Ra Rb D F
      rintro x3 ⟨bb, Xa, Xb, X2, Xd, Xf, Ra, Rb, D, F⟩
      replace bb := Lib.hid bb; replace Xa := Lib.hid Xa; replace Xb := Lib.hid Xb; replace X2 := Lib.hid X2; replace Xd := Lib.hid Xd; replace Xf := Lib.hid Xf; replace Ra := Lib.hid Ra; replace Rb := Lib.hid Rb; replace D := Lib.hid D; replace F := Lib.hid F
      have p00 := Xf.out.c0; have p01 := Xf.out.c1; have p02 := Xf.out.c2; have p10 := Xb.out.c0; have p11 := Xb.out.c1; have p12 := Xb.out.c2
      go_wp2_with fail
      clear p00 p01 p02 p10 p11 p12
      refine (mul4_any fb fp fq fn fc fm fe (lcmD P R) 1 cb cp cq cn cc cm ce R 1 _ F.out (lcm_low la.out.abs_lt hG1.out) Rb.out lb.out).mono ?_
      rintro e v4 ⟨zb, zp, zn, zc, zq, zm, ze, rfl, N, hb⟩
      replace bb := Lib.hid (below_then bb.out (Nat.le_refl _) hb); replace Xa := Lib.hid (Xa.out.later hb); replace Xb := Lib.hid (Xb.out.later hb); replace X2 := Lib.hid (X2.out.later hb); replace Xd := Lib.hid (Xd.out.later hb); replace Xf := Lib.hid (Xf.out.later hb); replace Ra := Lib.hid (Ra.out.below hb); replace Rb := Lib.hid (Rb.out.below hb); replace D := Lib.hid (D.out.below hb); replace F := Lib.hid (F.out.below hb)
      replace N := Lib.hid N
      clear hb Xa Xb Xd Xf Ra Rb D F
      replace X2 := X2.out
      replace bb := bb.out
      have q0 := X2.c0; have q1 := X2.c1; have q2 := X2.c2; have q3 := X2.fr 0; have q4 := X2.fr 1; have q5 := X2.fr 2
      have zz := X2.set (.bool zb) (.slice zp zn zc) (.slice zq zm ze)
      have e0 := zz.c0; have e1 := zz.c1; have e2 := zz.c2
      have Y2 := Lib.hid X2; have bb' := Lib.hid bb
      clear zz X2 bb
      go_wp2_with fail
      refine bodyPost_ret (v := .tuple #[.agg #[.bool zb, .slice zp zn zc, .slice zq zm ze], .int .i64 (mkE (lcmD P R * R) (((1 : Nat) : Int) * ((1 : Nat) : Int)))]) (by simp [results, Try.results36, go_sem, e0, e1, e2]) rfl ?_
      exact lcm_yes hG1.out (ResPost.stored N.out Y2.out bb'.out (by omega))
  · replace hQS := Lib.hid hQS
    have p00 := Xa.out.c0; have p01 := Xa.out.c1; have p02 := Xa.out.c2; have p10 := Xb.out.c0; have p11 := Xb.out.c1; have p12 := Xb.out.c2
    go_wp2_with fail
    clear p00 p01 p02 p10 p11 p12
    refine ((gcd4_any ab ap aq an ac am ae P Q cb cp cq cn cc cm ce R S _ Ra.out la.out Rb.out lb.out).mono fun _ _ => (gcd_no hQS.out).1).mono ?_
    rintro e v1 ⟨db, dp, dn, dc, dq, dm, de, rfl, D, hb⟩
    replace bb := Lib.hid (below_then bb.out (Nat.le_refl _) hb); replace Xa := Lib.hid (Xa.out.later hb); replace Xb := Lib.hid (Xb.out.later hb); replace X2 := Lib.hid (X2.out.later hb); replace Ra := Lib.hid (Ra.out.below hb); replace Rb := Lib.hid (Rb.out.below hb)
    replace D := Lib.hid D
    clear hb
    go_upto_region 2 with fail
    refine gen_wp (fun w' => Below w.heap.size w w' ∧ Box3 w' w.heap.size (.bool ab) (.slice ap an ac) (.slice aq am ae) ∧ Box3 w' (w.heap.size + 1) (.bool cb) (.slice cp cn cc) (.slice cq cm ce) ∧ Box3 w' (w.heap.size + 2) (.bool false) (.slice none 0 0) (.slice none 0 0) ∧ Box3 w' v1.heap.size (.bool db) (.slice dp dn dc) (.slice dq dm de) ∧ Rt w' ab ap an ac aq am ae P Q ∧ Rt w' cb cp cn cc cq cm ce R S ∧ Rt w' db dp dn dc dq dm de (0) (0))
      ⟨bb.out.alloc bb.out.size _, Xa.out.alloc _, Xb.out.alloc _, X2.out.alloc _, Box3.new _ _ _ _ rfl, Ra.out.alloc _, Rb.out.alloc _, D.out.alloc _⟩ ?_
    clear bb Xa Xb X2 Ra Rb D
    rintro x1 ⟨bb, Xa, Xb, X2, Xd, Ra, Rb, D⟩
    replace bb := Lib.hid bb; replace Xa := Lib.hid Xa; replace Xb := Lib.hid Xb; replace X2 := Lib.hid X2; replace Xd := Lib.hid Xd; replace Ra := Lib.hid Ra; replace Rb := Lib.hid Rb; replace D := Lib.hid D
    clear Xa Xb Xd Ra Rb D
    replace X2 := X2.out
    replace bb := bb.out
    have q0 := X2.c0; have q1 := X2.c1; have q2 := X2.c2; have q3 := X2.fr 0; have q4 := X2.fr 1; have q5 := X2.fr 2
    have zz := X2.set (.bool false) (.slice none 0 0) (.slice none 0 0)
    have e0 := zz.c0; have e1 := zz.c1; have e2 := zz.c2
    have Y2 := Lib.hid X2; have bb' := Lib.hid bb
    clear zz X2 bb
    go_wp2_with fail
    refine bodyPost_ret (v := .tuple #[.agg #[.bool false, .slice none 0 0, .slice none 0 0], .int .i64 (3)]) (by simp [results, Try.results36, go_sem, e0, e1, e2]) rfl ?_
    exact lcm_no hQS.out (ResPost.stored (rt_zero _) Y2.out bb'.out (by omega))

set_option maxRecDepth 20000 in
set_option maxHeartbeats 4000000 in
theorem rLcm4_any (ab : Bool) (ap aq : Option Addr) (an ac am ae : Nat) (P : Int) (Q : Nat)  (cb : Bool) (cp cq : Option Addr) (cn cc cm ce : Nat) (R : Int) (S : Nat) (w : World) (Ra : Rt w ab ap an ac aq am ae P Q) (la : Low P Q) (Rb : Rt w cb cp cn cc cq cm ce R S) (lb : Low R S) :
    Calls Try.prog 37 #[.agg #[.bool ab, .slice ap an ac, .slice aq am ae], .agg #[.bool cb, .slice cp cn cc, .slice cq cm ce]] w (LcmPost P Q R S w) := by
  replace Ra := Lib.hid Ra; replace la := Lib.hid la; replace Rb := Lib.hid Rb; replace lb := Lib.hid lb
  go_enter Try.func37, Try.ntmps37
  go_upto_region 1 with fail
  refine gen_wp (fun w' => Below w.heap.size w w' ∧ Box3 w' w.heap.size (.bool ab) (.slice ap an ac) (.slice aq am ae) ∧ Box3 w' (w.heap.size + 1) (.bool cb) (.slice cp cn cc) (.slice cq cm ce) ∧ Box3 w' (w.heap.size + 2) (.bool false) (.slice none 0 0) (.slice none 0 0))
    ⟨((((Below.refl _ _).alloc (Nat.le_refl _) _).alloc (by first | (simp; done) | (simp; omega)) _).alloc (by first | (simp; done) | (simp; omega)) _), (((Box3.new _ _ _ _ rfl).alloc _).alloc _), ((Box3.new _ _ _ _ (by first | (simp; done) | (simp; omega))).alloc _), (Box3.new _ _ _ _ (by first | (simp; done) | (simp; omega)))⟩ ?_
  rintro w0 ⟨bb, Xa, Xb, X2⟩
  replace Ra := Ra.out.below bb; replace Rb := Rb.out.below bb
  replace bb := Lib.hid bb; replace Xa := Lib.hid Xa; replace Xb := Lib.hid Xb; replace X2 := Lib.hid X2; replace Ra := Lib.hid Ra; replace Rb := Lib.hid Rb
  by_cases hQS : Q = 1 ∧ S = 1
  · obtain ⟨hQ, hS⟩ := hQS
    subst hQ hS
    obtain ⟨G, hG⟩ : ∃ G, Hid (Nat.gcd P.natAbs R.natAbs = G) := ⟨_, Lib.hid rfl⟩
    have hlG : Hid (Low (G : Int) 1) := Lib.hid (low_one (by rw [← hG.out]; exact gcd_32 la.out.abs_lt lb.out.abs_lt))
    have p00 := Xa.out.c0; have p01 := Xa.out.c1; have p02 := Xa.out.c2; have p10 := Xb.out.c0; have p11 := Xb.out.c1; have p12 := Xb.out.c2
    go_wp2_with fail
    clear p00 p01 p02 p10 p11 p12
    refine ((rGcd4_any ab ap aq an ac am ae P 1 cb cp cq cn cc cm ce R 1 _ Ra.out la.out Rb.out lb.out).mono fun _ _ => (gcd_yes ⟨rfl, rfl⟩).1).mono ?_
    rw [hG.out]
    rintro e v1 ⟨db, dp, dn, dc, dq, dm, de, rfl, D, hb⟩
    replace bb := Lib.hid (below_then bb.out (Nat.le_refl _) hb); replace Xa := Lib.hid (Xa.out.later hb); replace Xb := Lib.hid (Xb.out.later hb); replace X2 := Lib.hid (X2.out.later hb); replace Ra := Lib.hid (Ra.out.below hb); replace Rb := Lib.hid (Rb.out.below hb)
    replace D := Lib.hid D
    clear hb
    go_upto_region 2 with fail
    refine gen_wp (fun w' => Below w.heap.size w w' ∧ Box3 w' w.heap.size (.bool ab) (.slice ap an ac) (.slice aq am ae) ∧ Box3 w' (w.heap.size + 1) (.bool cb) (.slice cp cn cc) (.slice cq cm ce) ∧ Box3 w' (w.heap.size + 2) (.bool false) (.slice none 0 0) (.slice none 0 0) ∧ Box3 w' v1.heap.size (.bool db) (.slice dp dn dc) (.slice dq dm de) ∧ Rt w' ab ap an ac aq am ae P 1 ∧ Rt w' cb cp cn cc cq cm ce R 1 ∧ Rt w' db dp dn dc dq dm de ((G : Int)) (1))
      ⟨bb.out.alloc bb.out.size _, Xa.out.alloc _, Xb.out.alloc _, X2.out.alloc _, Box3.new _ _ _ _ rfl, Ra.out.alloc _, Rb.out.alloc _, D.out.alloc _⟩ ?_
    clear bb Xa Xb X2 Ra Rb D
    rintro x1 ⟨bb, Xa, Xb, X2, Xd, Ra, Rb, D⟩
    replace bb := Lib.hid bb; replace Xa := Lib.hid Xa; replace Xb := Lib.hid Xb; replace X2 := Lib.hid X2; replace Xd := Lib.hid Xd; replace Ra := Lib.hid Ra; replace Rb := Lib.hid Rb; replace D := Lib.hid D
    go_upto_region 4 with fail
    by_cases hG0 : G = 0
    · subst hG0
      have hdn : Hid (dn = 0) := Lib.hid (D.out.top.len_zero.2 rfl)
      obtain rfl := hdn.out
      clear hdn
      have p00 := Xd.out.c0; have p01 := Xd.out.c1; have p02 := Xd.out.c2
      clear Xa Xb Xd Ra Rb
      replace X2 := X2.out
      replace bb := bb.out
      have q0 := X2.c0; have q1 := X2.c1; have q2 := X2.c2; have q3 := X2.fr 0; have q4 := X2.fr 1; have q5 := X2.fr 2
      have zz := X2.set (.bool db) (.slice dp 0 dc) (.slice dq dm de)
      have e0 := zz.c0; have e1 := zz.c1; have e2 := zz.c2
      have Y2 := Lib.hid X2; have bb' := Lib.hid bb
      clear zz X2 bb
      go_wp2_with fail
      refine bodyPost_ret (v := .tuple #[.agg #[.bool db, .slice dp 0 dc, .slice dq dm de], .int .i64 (0)]) (by simp [results, Try.results37, go_sem, e0, e1, e2]) rfl ?_
      exact lcm_zero hG.out (ResPost.stored D.out Y2.out bb'.out (by omega))
    · have hG1 : Hid (Nat.gcd P.natAbs R.natAbs ≠ 0) := Lib.hid (by rw [hG.out]; exact hG0)
      have hGz : Hid ((G : Int) ≠ 0) := Lib.hid (by omega)
      have hdn : ((dn : Int) == 0) = false := by rw [beq_eq_false_iff_ne]; intro e; exact hGz.out (D.out.top.len_zero.1 (by omega))
      clear hG0
      have p00 := Xd.out.c0; have p01 := Xd.out.c1; have p02 := Xd.out.c2
      go_upto_region 6 with fail
      clear p00 p01 p02
      clear hdn
      have p00 := Xa.out.c0; have p01 := Xa.out.c1; have p02 := Xa.out.c2; have p10 := Xd.out.c0; have p11 := Xd.out.c1; have p12 := Xd.out.c2
      go_wp2_with fail
      clear p00 p01 p02 p10 p11 p12
      refine ((rDiv4_any ab ap aq an ac am ae P 1 db dp dq dn dc dm de G 1 _ Ra.out la.out D.out hlG.out).mono fun _ _ => make_is (lcm_low la.out.abs_lt hG1.out) (Int.mul_ne_zero (by decide) hGz.out) (by rw [← hG.out]; exact lcm_part)).mono ?_
      rintro e v2 ⟨fb, fp, fn, fc, fq, fm, fe, rfl, F, hb⟩
      replace bb := Lib.hid (below_then bb.out (Nat.le_refl _) hb); replace Xa := Lib.hid (Xa.out.later hb); replace Xb := Lib.hid (Xb.out.later hb); replace X2 := Lib.hid (X2.out.later hb); replace Xd := Lib.hid (Xd.out.later hb); replace Ra := Lib.hid (Ra.out.below hb); replace Rb := Lib.hid (Rb.out.below hb); replace D := Lib.hid (D.out.below hb)
      replace F := Lib.hid F
      clear hb
      go_upto_region 7 with fail
      refine gen_wp (fun w' => Below w.heap.size w w' ∧ Box3 w' w.heap.size (.bool ab) (.slice ap an ac) (.slice aq am ae) ∧ Box3 w' (w.heap.size + 1) (.bool cb) (.slice cp cn cc) (.slice cq cm ce) ∧ Box3 w' (w.heap.size + 2) (.bool false) (.slice none 0 0) (.slice none 0 0) ∧ Box3 w' v1.heap.size (.bool db) (.slice dp dn dc) (.slice dq dm de) ∧ Box3 w' v2.heap.size (.bool fb) (.slice fp fn fc) (.slice fq fm fe) ∧ Rt w' ab ap an ac aq am ae P 1 ∧ Rt w' cb cp cn cc cq cm ce R 1 ∧ Rt w' db dp dn dc dq dm de ((G : Int)) (1) ∧ Rt w' fb fp fn fc fq fm fe (lcmD P R) (1))
        ⟨bb.out.alloc bb.out.size _, Xa.out.alloc _, Xb.out.alloc _, X2.out.alloc _, Xd.out.alloc _, Box3.new _ _ _ _ rfl, Ra.out.alloc _, Rb.out.alloc _, D.out.alloc _, F.out.alloc _⟩ ?_
      clear bb Xa Xb X2 Xd Ra Rb D F
      rintro x2 ⟨bb, Xa, Xb, X2, Xd, Xf, Ra, Rb, D, F⟩
      replace bb := Lib.hid bb; replace Xa := Lib.hid Xa; replace Xb := Lib.hid Xb; replace X2 := Lib.hid X2; replace Xd := Lib.hid Xd; replace Xf := Lib.hid Xf; replace Ra := Lib.hid Ra; replace Rb := Lib.hid Rb; replace D := Lib.hid D; replace F := Lib.hid F
      go_upto_region 9 with fail
      have p00 := Xf.out.c0; have p01 := Xf.out.c1; have p02 := Xf.out.c2; have p10 := Xb.out.c0; have p11 := Xb.out.c1; have p12 := Xb.out.c2
      go_wp2_with fail
      clear p00 p01 p02 p10 p11 p12
      refine (rMul4_any fb fp fq fn fc fm fe (lcmD P R) 1 cb cp cq cn cc cm ce R 1 _ F.out (lcm_low la.out.abs_lt hG1.out) Rb.out lb.out).mono ?_
      rintro e v3 ⟨zb, zp, zn, zc, zq, zm, ze, rfl, N, hb⟩
      replace bb := Lib.hid (below_then bb.out (Nat.le_refl _) hb); replace Xa := Lib.hid (Xa.out.later hb); replace Xb := Lib.hid (Xb.out.later hb); replace X2 := Lib.hid (X2.out.later hb); replace Xd := Lib.hid (Xd.out.later hb); replace Xf := Lib.hid (Xf.out.later hb); replace Ra := Lib.hid (Ra.out.below hb); replace Rb := Lib.hid (Rb.out.below hb); replace D := Lib.hid (D.out.below hb); replace F := Lib.hid (F.out.below hb)
      replace N := Lib.hid N
      clear hb Xa Xb Xd Xf Ra Rb D F
      replace X2 := X2.out
      replace bb := bb.out
      have q0 := X2.c0; have q1 := X2.c1; have q2 := X2.c2; have q3 := X2.fr 0; have q4 := X2.fr 1; have q5 := X2.fr 2
      have zz := X2.set (.bool zb) (.slice zp zn zc) (.slice zq zm ze)
      have e0 := zz.c0; have e1 := zz.c1; have e2 := zz.c2
      have Y2 := Lib.hid X2; have bb' := Lib.hid bb
      clear zz X2 bb
      go_wp2_with fail
      refine bodyPost_ret (v := .tuple #[.agg #[.bool zb, .slice zp zn zc, .slice zq zm ze], .int .i64 (mkE (lcmD P R * R) (((1 : Nat) : Int) * ((1 : Nat) : Int)))]) (by simp [results, Try.results37, go_sem, e0, e1, e2]) rfl ?_
      exact lcm_yes hG1.out (ResPost.stored N.out Y2.out bb'.out (by omega))
  · replace hQS := Lib.hid hQS
    have p00 := Xa.out.c0; have p01 := Xa.out.c1; have p02 := Xa.out.c2; have p10 := Xb.out.c0; have p11 := Xb.out.c1; have p12 := Xb.out.c2
    go_wp2_with fail
    clear p00 p01 p02 p10 p11 p12
    refine ((rGcd4_any ab ap aq an ac am ae P Q cb cp cq cn cc cm ce R S _ Ra.out la.out Rb.out lb.out).mono fun _ _ => (gcd_no hQS.out).1).mono ?_
    rintro e v1 ⟨db, dp, dn, dc, dq, dm, de, rfl, D, hb⟩
    replace bb := Lib.hid (below_then bb.out (Nat.le_refl _) hb); replace Xa := Lib.hid (Xa.out.later hb); replace Xb := Lib.hid (Xb.out.later hb); replace X2 := Lib.hid (X2.out.later hb); replace Ra := Lib.hid (Ra.out.below hb); replace Rb := Lib.hid (Rb.out.below hb)
    replace D := Lib.hid D
    clear hb
    go_upto_region 2 with fail
    refine gen_wp (fun w' => Below w.heap.size w w' ∧ Box3 w' w.heap.size (.bool ab) (.slice ap an ac) (.slice aq am ae) ∧ Box3 w' (w.heap.size + 1) (.bool cb) (.slice cp cn cc) (.slice cq cm ce) ∧ Box3 w' (w.heap.size + 2) (.bool false) (.slice none 0 0) (.slice none 0 0) ∧ Box3 w' v1.heap.size (.bool db) (.slice dp dn dc) (.slice dq dm de) ∧ Rt w' ab ap an ac aq am ae P Q ∧ Rt w' cb cp cn cc cq cm ce R S ∧ Rt w' db dp dn dc dq dm de (0) (0))
      ⟨bb.out.alloc bb.out.size _, Xa.out.alloc _, Xb.out.alloc _, X2.out.alloc _, Box3.new _ _ _ _ rfl, Ra.out.alloc _, Rb.out.alloc _, D.out.alloc _⟩ ?_
    clear bb Xa Xb X2 Ra Rb D
    rintro x1 ⟨bb, Xa, Xb, X2, Xd, Ra, Rb, D⟩
    replace bb := Lib.hid bb; replace Xa := Lib.hid Xa; replace Xb := Lib.hid Xb; replace X2 := Lib.hid X2; replace Xd := Lib.hid Xd; replace Ra := Lib.hid Ra; replace Rb := Lib.hid Rb; replace D := Lib.hid D
    clear Xa Xb Xd Ra Rb D
    replace X2 := X2.out
    replace bb := bb.out
    have q0 := X2.c0; have q1 := X2.c1; have q2 := X2.c2; have q3 := X2.fr 0; have q4 := X2.fr 1; have q5 := X2.fr 2
    have zz := X2.set (.bool false) (.slice none 0 0) (.slice none 0 0)
    have e0 := zz.c0; have e1 := zz.c1; have e2 := zz.c2
    have Y2 := Lib.hid X2; have bb' := Lib.hid bb
    clear zz X2 bb
    go_wp2_with fail
    refine bodyPost_ret (v := .tuple #[.agg #[.bool false, .slice none 0 0, .slice none 0 0], .int .i64 (3)]) (by simp [results, Try.results37, go_sem, e0, e1, e2]) rfl ?_
    exact lcm_no hQS.out (ResPost.stored (rt_zero _) Y2.out bb'.out (by omega))

end Go.Proofs.Ytnnipciifjpooaa
