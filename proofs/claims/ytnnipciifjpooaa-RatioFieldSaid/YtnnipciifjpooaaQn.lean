/-
  scrimlaw04.RatioField, walked.
-/
import Derived.Test.YtnnipciifjpooaaQl
namespace Go.Proofs.Ytnnipciifjpooaa
open Go.RowKit Num

attribute [local go_sem ↓] Go.wp_at_zero Go.wp_at_succ

theorem Right.lt_four {w : World} {b : Bool} {ao : Option Addr} {n nc : Nat} {x : Int} (h : Right w b ao n nc x) (hn : n ≤ 4) : x.natAbs < pw 4 := by
  obtain ⟨f, _, _, _, cf, _⟩ := h.ex
  exact Nat.lt_of_lt_of_le cf.lt_pw (pw_le hn)
theorem grow {v k : Nat} (h : v < pw k) (hk : k ≤ 32) : v < pw 32 := Nat.lt_of_lt_of_le h (pw_le hk)
theorem le_abs {B k : Nat} {q : Int} (h : B ≤ q.natAbs) (hq : q.natAbs < pw k) : (B : Int).natAbs < pw k := by rw [Int.natAbs_natCast]; omega
theorem add_abs' {x y : Int} {M L K : Nat} (hx : x.natAbs < pw M) (hy : y.natAbs < pw L) (hM : M ≤ K) (hL : L ≤ K) : (x + y).natAbs < pw (K + 1) := add_abs (Nat.lt_of_lt_of_le hx (pw_le hM)) (Nat.lt_of_lt_of_le hy (pw_le hL))

set_option maxRecDepth 20000 in
set_option maxHeartbeats 8000000 in
theorem field4_walk (ab : Bool) (ap aq : Option Addr) (an ac am ae : Nat) (fa ga : Nat → Nat) (cb : Bool) (cp cq : Option Addr) (cn cc cm ce : Nat) (fb gb : Nat → Nat) (rb : Bool) (rp rq : Option Addr) (rn rc rm re : Nat) (fc gc : Nat → Nat) (w : World) (Ia : In w ap an ac fa) (Ja : In w aq am ae ga) (Ib : In w cp cn cc fb) (Jb : In w cq cm ce gb) (Ic : In w rp rn rc fc) (Jc : In w rq rm re gc) :
    Calls Try.prog 7 #[.agg #[.bool ab, .slice ap an ac, .slice aq am ae], .agg #[.bool cb, .slice cp cn cc, .slice cq cm ce], .agg #[.bool rb, .slice rp rn rc, .slice rq rm re]] w (Says (.bool true) w) := by
  replace Ia := Lib.hid Ia; replace Ja := Lib.hid Ja; replace Ib := Lib.hid Ib; replace Jb := Lib.hid Jb; replace Ic := Lib.hid Ic; replace Jc := Lib.hid Jc
  go_enter Try.func7, Try.ntmps7
  go_upto_region 1 with fail
  refine gen_wp (fun w' => Below w.heap.size w w' ∧ Box3 w' w.heap.size (.bool ab) (.slice ap an ac) (.slice aq am ae) ∧ Box3 w' (w.heap.size + 1) (.bool cb) (.slice cp cn cc) (.slice cq cm ce) ∧ Box3 w' (w.heap.size + 2) (.bool rb) (.slice rp rn rc) (.slice rq rm re))
    ⟨((((Below.refl _ _).alloc (Nat.le_refl _) _).alloc (by first | (simp; done) | (simp; omega)) _).alloc (by first | (simp; done) | (simp; omega)) _), (((Box3.new _ _ _ _ rfl).alloc _).alloc _), ((Box3.new _ _ _ _ (by first | (simp; done) | (simp; omega))).alloc _), (Box3.new _ _ _ _ (by first | (simp; done) | (simp; omega)))⟩ ?_
  rintro w0 ⟨bb, Xa, Xb, Xc⟩
  replace bb := Lib.hid bb; replace Xa := Lib.hid Xa; replace Xb := Lib.hid Xb; replace Xc := Lib.hid Xc
  have p00 := Xa.out.c0; have p01 := Xa.out.c1; have p02 := Xa.out.c2
  go_wp2_with fail
  clear p00 p01 p02
  refine (right4_in ab ap aq an ac am ae fa ga _ (Ia.out.below bb.out) (Ja.out.below bb.out)).mono ?_
  rintro e v1 ⟨r, rfl, hyes, hno, hb⟩
  clear hno
  replace hyes := Lib.hid hyes
  cases r
  · replace bb := Lib.hid (below_then bb.out (Nat.le_refl _) hb)
    clear hb hyes Xa Xb Xc
    go_wp2_with fail
    refine (awake4_any _).mono ?_
    rintro e vz ⟨rfl, hb⟩
    replace bb := Lib.hid (below_then bb.out (Nat.le_refl _) hb)
    clear hb
    go_wp2_with fail
    go_ret
    exact ⟨rfl, bb.out⟩
  obtain ⟨P, Q, la, Ra⟩ := hyes.out (by first | exact rfl | trivial)
  replace la := Lib.hid la; replace Ra := Lib.hid (Ra.below hb)
  clear hyes
  replace bb := Lib.hid (below_then bb.out (Nat.le_refl _) hb); replace Xa := Lib.hid (Xa.out.later hb); replace Xb := Lib.hid (Xb.out.later hb); replace Xc := Lib.hid (Xc.out.later hb)
  clear hb
  have p00 := Xb.out.c0; have p01 := Xb.out.c1; have p02 := Xb.out.c2
  go_wp2_with fail
  clear p00 p01 p02
  refine (right4_in cb cp cq cn cc cm ce fb gb _ (Ib.out.below bb.out) (Jb.out.below bb.out)).mono ?_
  rintro e v2 ⟨r, rfl, hyes, hno, hb⟩
  clear hno
  replace hyes := Lib.hid hyes
  cases r
  · replace bb := Lib.hid (below_then bb.out (Nat.le_refl _) hb)
    clear hb hyes Xa Xb Xc Ra
    go_wp2_with fail
    refine (awake4_any _).mono ?_
    rintro e vz ⟨rfl, hb⟩
    replace bb := Lib.hid (below_then bb.out (Nat.le_refl _) hb)
    clear hb
    go_wp2_with fail
    go_ret
    exact ⟨rfl, bb.out⟩
  obtain ⟨R, S, lb, Rb⟩ := hyes.out (by first | exact rfl | trivial)
  replace lb := Lib.hid lb; replace Rb := Lib.hid (Rb.below hb)
  clear hyes
  replace bb := Lib.hid (below_then bb.out (Nat.le_refl _) hb); replace Xa := Lib.hid (Xa.out.later hb); replace Xb := Lib.hid (Xb.out.later hb); replace Xc := Lib.hid (Xc.out.later hb); replace Ra := Lib.hid (Ra.out.below hb)
  clear hb
  have p00 := Xc.out.c0; have p01 := Xc.out.c1; have p02 := Xc.out.c2
  go_wp2_with fail
  clear p00 p01 p02
  refine (right4_in rb rp rq rn rc rm re fc gc _ (Ic.out.below bb.out) (Jc.out.below bb.out)).mono ?_
  rintro e v3 ⟨r, rfl, hyes, hno, hb⟩
  clear hno
  replace hyes := Lib.hid hyes
  cases r
  · replace bb := Lib.hid (below_then bb.out (Nat.le_refl _) hb)
    clear hb hyes Xa Xb Xc Ra Rb
    go_wp2_with fail
    refine (awake4_any _).mono ?_
    rintro e vz ⟨rfl, hb⟩
    replace bb := Lib.hid (below_then bb.out (Nat.le_refl _) hb)
    clear hb
    go_wp2_with fail
    go_ret
    exact ⟨rfl, bb.out⟩
  obtain ⟨V, U, lc, Rc⟩ := hyes.out (by first | exact rfl | trivial)
  replace lc := Lib.hid lc; replace Rc := Lib.hid (Rc.below hb)
  clear hyes
  replace bb := Lib.hid (below_then bb.out (Nat.le_refl _) hb); replace Xa := Lib.hid (Xa.out.later hb); replace Xb := Lib.hid (Xb.out.later hb); replace Xc := Lib.hid (Xc.out.later hb); replace Ra := Lib.hid (Ra.out.below hb); replace Rb := Lib.hid (Rb.out.below hb)
  clear hb
  by_cases h0 : 4 < an
  · have d0 : decide ((4 : Int) < (an : Int)) = true := by rw [decide_eq_true_iff]; omega
    clear h0
    have p00 := Xa.out.c0; have p01 := Xa.out.c1; have p02 := Xa.out.c2; have p10 := Xb.out.c0; have p11 := Xb.out.c1; have p12 := Xb.out.c2; have p20 := Xc.out.c0; have p21 := Xc.out.c1; have p22 := Xc.out.c2
    go_wp2_with fail
    clear p00 p01 p02 p10 p11 p12 p20 p21 p22
    clear Xa Xb Xc Ra Rb Rc
    refine (awake4_any _).mono ?_
    rintro e vz ⟨rfl, hb⟩
    replace bb := Lib.hid (below_then bb.out (Nat.le_refl _) hb)
    clear hb
    go_wp2_with fail
    go_ret
    exact ⟨rfl, bb.out⟩
  have d0 : decide ((4 : Int) < (an : Int)) = false := by rw [decide_eq_false_iff_not]; omega
  replace h0 := Lib.hid (Nat.le_of_not_lt h0)
  by_cases h1 : 4 < cn
  · have d1 : decide ((4 : Int) < (cn : Int)) = true := by rw [decide_eq_true_iff]; omega
    clear h1
    have p00 := Xa.out.c0; have p01 := Xa.out.c1; have p02 := Xa.out.c2; have p10 := Xb.out.c0; have p11 := Xb.out.c1; have p12 := Xb.out.c2; have p20 := Xc.out.c0; have p21 := Xc.out.c1; have p22 := Xc.out.c2
    go_wp2_with fail
    clear p00 p01 p02 p10 p11 p12 p20 p21 p22
    clear Xa Xb Xc Ra Rb Rc
    refine (awake4_any _).mono ?_
    rintro e vz ⟨rfl, hb⟩
    replace bb := Lib.hid (below_then bb.out (Nat.le_refl _) hb)
    clear hb
    go_wp2_with fail
    go_ret
    exact ⟨rfl, bb.out⟩
  have d1 : decide ((4 : Int) < (cn : Int)) = false := by rw [decide_eq_false_iff_not]; omega
  replace h1 := Lib.hid (Nat.le_of_not_lt h1)
  by_cases h2 : 4 < rn
  · have d2 : decide ((4 : Int) < (rn : Int)) = true := by rw [decide_eq_true_iff]; omega
    clear h2
    have p00 := Xa.out.c0; have p01 := Xa.out.c1; have p02 := Xa.out.c2; have p10 := Xb.out.c0; have p11 := Xb.out.c1; have p12 := Xb.out.c2; have p20 := Xc.out.c0; have p21 := Xc.out.c1; have p22 := Xc.out.c2
    go_wp2_with fail
    clear p00 p01 p02 p10 p11 p12 p20 p21 p22
    clear Xa Xb Xc Ra Rb Rc
    refine (awake4_any _).mono ?_
    rintro e vz ⟨rfl, hb⟩
    replace bb := Lib.hid (below_then bb.out (Nat.le_refl _) hb)
    clear hb
    go_wp2_with fail
    go_ret
    exact ⟨rfl, bb.out⟩
  have d2 : decide ((4 : Int) < (rn : Int)) = false := by rw [decide_eq_false_iff_not]; omega
  replace h2 := Lib.hid (Nat.le_of_not_lt h2)
  by_cases h3 : 4 < am
  · have d3 : decide ((4 : Int) < (am : Int)) = true := by rw [decide_eq_true_iff]; omega
    clear h3
    have p00 := Xa.out.c0; have p01 := Xa.out.c1; have p02 := Xa.out.c2; have p10 := Xb.out.c0; have p11 := Xb.out.c1; have p12 := Xb.out.c2; have p20 := Xc.out.c0; have p21 := Xc.out.c1; have p22 := Xc.out.c2
    go_wp2_with fail
    clear p00 p01 p02 p10 p11 p12 p20 p21 p22
    clear Xa Xb Xc Ra Rb Rc
    refine (awake4_any _).mono ?_
    rintro e vz ⟨rfl, hb⟩
    replace bb := Lib.hid (below_then bb.out (Nat.le_refl _) hb)
    clear hb
    go_wp2_with fail
    go_ret
    exact ⟨rfl, bb.out⟩
  have d3 : decide ((4 : Int) < (am : Int)) = false := by rw [decide_eq_false_iff_not]; omega
  replace h3 := Lib.hid (Nat.le_of_not_lt h3)
  by_cases h4 : 4 < cm
  · have d4 : decide ((4 : Int) < (cm : Int)) = true := by rw [decide_eq_true_iff]; omega
    clear h4
    have p00 := Xa.out.c0; have p01 := Xa.out.c1; have p02 := Xa.out.c2; have p10 := Xb.out.c0; have p11 := Xb.out.c1; have p12 := Xb.out.c2; have p20 := Xc.out.c0; have p21 := Xc.out.c1; have p22 := Xc.out.c2
    go_wp2_with fail
    clear p00 p01 p02 p10 p11 p12 p20 p21 p22
    clear Xa Xb Xc Ra Rb Rc
    refine (awake4_any _).mono ?_
    rintro e vz ⟨rfl, hb⟩
    replace bb := Lib.hid (below_then bb.out (Nat.le_refl _) hb)
    clear hb
    go_wp2_with fail
    go_ret
    exact ⟨rfl, bb.out⟩
  have d4 : decide ((4 : Int) < (cm : Int)) = false := by rw [decide_eq_false_iff_not]; omega
  replace h4 := Lib.hid (Nat.le_of_not_lt h4)
  by_cases h5 : 4 < rm
  · have d5 : decide ((4 : Int) < (rm : Int)) = true := by rw [decide_eq_true_iff]; omega
    clear h5
    have p00 := Xa.out.c0; have p01 := Xa.out.c1; have p02 := Xa.out.c2; have p10 := Xb.out.c0; have p11 := Xb.out.c1; have p12 := Xb.out.c2; have p20 := Xc.out.c0; have p21 := Xc.out.c1; have p22 := Xc.out.c2
    go_wp2_with fail
    clear p00 p01 p02 p10 p11 p12 p20 p21 p22
    clear Xa Xb Xc Ra Rb Rc
    refine (awake4_any _).mono ?_
    rintro e vz ⟨rfl, hb⟩
    replace bb := Lib.hid (below_then bb.out (Nat.le_refl _) hb)
    clear hb
    go_wp2_with fail
    go_ret
    exact ⟨rfl, bb.out⟩
  have d5 : decide ((4 : Int) < (rm : Int)) = false := by rw [decide_eq_false_iff_not]; omega
  replace h5 := Lib.hid (Nat.le_of_not_lt h5)
  have p00 := Xa.out.c0; have p01 := Xa.out.c1; have p02 := Xa.out.c2; have p10 := Xb.out.c0; have p11 := Xb.out.c1; have p12 := Xb.out.c2; have p20 := Xc.out.c0; have p21 := Xc.out.c1; have p22 := Xc.out.c2
  go_upto_region 3 with fail
  clear p00 p01 p02 p10 p11 p12 p20 p21 p22
  clear d0 d1 d2 d3 d4 d5
  have ta : Hid (P.natAbs < pw 4) := Lib.hid (Ra.out.top.lt_four h0.out); have ua : Hid ((Q : Int).natAbs < pw 4) := Lib.hid (Ra.out.bot.lt_four h3.out)
  have tb : Hid (R.natAbs < pw 4) := Lib.hid (Rb.out.top.lt_four h1.out); have ub : Hid ((S : Int).natAbs < pw 4) := Lib.hid (Rb.out.bot.lt_four h4.out)
  have tc : Hid (V.natAbs < pw 4) := Lib.hid (Rc.out.top.lt_four h2.out); have uc : Hid ((U : Int).natAbs < pw 4) := Lib.hid (Rc.out.bot.lt_four h5.out)
  have E1 : Hid (mkE (P * S + R * Q) ((Q : Int) * S) = 0) := Lib.hid (mkE_small (nz_mul la.out.1 lb.out.1) (grow (k := 9) (add_abs' (K := 8) (mul_abs ta.out ub.out) (mul_abs tb.out ua.out) (by omega) (by omega)) (by omega)) (grow (k := 8) (mul_abs ua.out ub.out) (by omega)))
  have p00 := Xa.out.c0; have p01 := Xa.out.c1; have p02 := Xa.out.c2; have p10 := Xb.out.c0; have p11 := Xb.out.c1; have p12 := Xb.out.c2
  go_wp2_with fail
  clear p00 p01 p02 p10 p11 p12
  refine ((add4_any ab ap aq an ac am ae P Q cb cp cq cn cc cm ce R S _ Ra.out la.out Rb.out lb.out).mono fun _ _ => make_goes E1.out).mono ?_
  rintro e v4 ⟨T1, B1, l1, c1, n1, m1, z1b, z1p, z1n, z1c, z1q, z1m, z1e, rfl, N1, hb⟩
  replace bb := Lib.hid (below_then bb.out (Nat.le_refl _) hb); replace Xa := Lib.hid (Xa.out.later hb); replace Xb := Lib.hid (Xb.out.later hb); replace Xc := Lib.hid (Xc.out.later hb); replace Ra := Lib.hid (Ra.out.below hb); replace Rb := Lib.hid (Rb.out.below hb); replace Rc := Lib.hid (Rc.out.below hb)
  replace l1 := Lib.hid l1; replace c1 := Lib.hid c1
  have t1 : Hid (T1.natAbs < pw 9) := Lib.hid (Nat.lt_of_le_of_lt n1 (add_abs' (K := 8) (mul_abs ta.out ub.out) (mul_abs tb.out ua.out) (by omega) (by omega))); have u1 : Hid ((B1 : Int).natAbs < pw 8) := Lib.hid (le_abs m1 (mul_abs ua.out ub.out))
  clear n1 m1
  replace N1 := Lib.hid N1
  clear hb
  go_upto_region 4 with fail
  refine gen_wp (fun w' => Below w.heap.size w w' ∧ Box3 w' w.heap.size (.bool ab) (.slice ap an ac) (.slice aq am ae) ∧ Box3 w' (w.heap.size + 1) (.bool cb) (.slice cp cn cc) (.slice cq cm ce) ∧ Box3 w' (w.heap.size + 2) (.bool rb) (.slice rp rn rc) (.slice rq rm re) ∧ Box3 w' v4.heap.size (.bool z1b) (.slice z1p z1n z1c) (.slice z1q z1m z1e) ∧ Rt w' ab ap an ac aq am ae P Q ∧ Rt w' cb cp cn cc cq cm ce R S ∧ Rt w' rb rp rn rc rq rm re V U ∧ Rt w' z1b z1p z1n z1c z1q z1m z1e (T1) (B1))
    ⟨bb.out.alloc bb.out.size _, Xa.out.alloc _, Xb.out.alloc _, Xc.out.alloc _, Box3.new _ _ _ _ rfl, Ra.out.alloc _, Rb.out.alloc _, Rc.out.alloc _, N1.out.alloc _⟩ ?_
  clear bb Xa Xb Xc Ra Rb Rc N1
  rintro x4 ⟨bb, Xa, Xb, Xc, X1, Ra, Rb, Rc, N1⟩
  replace bb := Lib.hid bb; replace Xa := Lib.hid Xa; replace Xb := Lib.hid Xb; replace Xc := Lib.hid Xc; replace X1 := Lib.hid X1; replace Ra := Lib.hid Ra; replace Rb := Lib.hid Rb; replace Rc := Lib.hid Rc; replace N1 := Lib.hid N1
  have E2 : Hid (mkE (R * U + V * S) ((S : Int) * U) = 0) := Lib.hid (mkE_small (nz_mul lb.out.1 lc.out.1) (grow (k := 9) (add_abs' (K := 8) (mul_abs tb.out uc.out) (mul_abs tc.out ub.out) (by omega) (by omega)) (by omega)) (grow (k := 8) (mul_abs ub.out uc.out) (by omega)))
  have p00 := Xb.out.c0; have p01 := Xb.out.c1; have p02 := Xb.out.c2; have p10 := Xc.out.c0; have p11 := Xc.out.c1; have p12 := Xc.out.c2
  go_wp2_with fail
  clear p00 p01 p02 p10 p11 p12
  refine ((add4_any cb cp cq cn cc cm ce R S rb rp rq rn rc rm re V U _ Rb.out lb.out Rc.out lc.out).mono fun _ _ => make_goes E2.out).mono ?_
  rintro e v5 ⟨T2, B2, l2, c2, n2, m2, z2b, z2p, z2n, z2c, z2q, z2m, z2e, rfl, N2, hb⟩
  replace bb := Lib.hid (below_then bb.out (Nat.le_refl _) hb); replace Xa := Lib.hid (Xa.out.later hb); replace Xb := Lib.hid (Xb.out.later hb); replace Xc := Lib.hid (Xc.out.later hb); replace X1 := Lib.hid (X1.out.later hb); replace Ra := Lib.hid (Ra.out.below hb); replace Rb := Lib.hid (Rb.out.below hb); replace Rc := Lib.hid (Rc.out.below hb); replace N1 := Lib.hid (N1.out.below hb)
  replace l2 := Lib.hid l2; replace c2 := Lib.hid c2
  have t2 : Hid (T2.natAbs < pw 9) := Lib.hid (Nat.lt_of_le_of_lt n2 (add_abs' (K := 8) (mul_abs tb.out uc.out) (mul_abs tc.out ub.out) (by omega) (by omega))); have u2 : Hid ((B2 : Int).natAbs < pw 8) := Lib.hid (le_abs m2 (mul_abs ub.out uc.out))
  clear n2 m2
  replace N2 := Lib.hid N2
  clear hb
  go_upto_region 5 with fail
  refine gen_wp (fun w' => Below w.heap.size w w' ∧ Box3 w' w.heap.size (.bool ab) (.slice ap an ac) (.slice aq am ae) ∧ Box3 w' (w.heap.size + 1) (.bool cb) (.slice cp cn cc) (.slice cq cm ce) ∧ Box3 w' (w.heap.size + 2) (.bool rb) (.slice rp rn rc) (.slice rq rm re) ∧ Box3 w' v4.heap.size (.bool z1b) (.slice z1p z1n z1c) (.slice z1q z1m z1e) ∧ Box3 w' v5.heap.size (.bool z2b) (.slice z2p z2n z2c) (.slice z2q z2m z2e) ∧ Rt w' ab ap an ac aq am ae P Q ∧ Rt w' cb cp cn cc cq cm ce R S ∧ Rt w' rb rp rn rc rq rm re V U ∧ Rt w' z1b z1p z1n z1c z1q z1m z1e (T1) (B1) ∧ Rt w' z2b z2p z2n z2c z2q z2m z2e (T2) (B2))
    ⟨bb.out.alloc bb.out.size _, Xa.out.alloc _, Xb.out.alloc _, Xc.out.alloc _, X1.out.alloc _, Box3.new _ _ _ _ rfl, Ra.out.alloc _, Rb.out.alloc _, Rc.out.alloc _, N1.out.alloc _, N2.out.alloc _⟩ ?_
  clear bb Xa Xb Xc X1 Ra Rb Rc N1 N2
  rintro x5 ⟨bb, Xa, Xb, Xc, X1, X2, Ra, Rb, Rc, N1, N2⟩
  replace bb := Lib.hid bb; replace Xa := Lib.hid Xa; replace Xb := Lib.hid Xb; replace Xc := Lib.hid Xc; replace X1 := Lib.hid X1; replace X2 := Lib.hid X2; replace Ra := Lib.hid Ra; replace Rb := Lib.hid Rb; replace Rc := Lib.hid Rc; replace N1 := Lib.hid N1; replace N2 := Lib.hid N2
  have E3 : Hid (mkE (T1 * U + V * B1) ((B1 : Int) * U) = 0) := Lib.hid (mkE_small (nz_mul l1.out.1 lc.out.1) (grow (k := 14) (add_abs' (K := 13) (mul_abs t1.out uc.out) (mul_abs tc.out u1.out) (by omega) (by omega)) (by omega)) (grow (k := 12) (mul_abs u1.out uc.out) (by omega)))
  have p00 := X1.out.c0; have p01 := X1.out.c1; have p02 := X1.out.c2; have p10 := Xc.out.c0; have p11 := Xc.out.c1; have p12 := Xc.out.c2
  go_wp2_with fail
  clear p00 p01 p02 p10 p11 p12
  refine ((add4_any z1b z1p z1q z1n z1c z1m z1e T1 B1 rb rp rq rn rc rm re V U _ N1.out l1.out Rc.out lc.out).mono fun _ _ => make_goes E3.out).mono ?_
  rintro e v6 ⟨T3, B3, l3, c3, n3, m3, z3b, z3p, z3n, z3c, z3q, z3m, z3e, rfl, N3, hb⟩
  replace bb := Lib.hid (below_then bb.out (Nat.le_refl _) hb); replace Xa := Lib.hid (Xa.out.later hb); replace Xb := Lib.hid (Xb.out.later hb); replace Xc := Lib.hid (Xc.out.later hb); replace X1 := Lib.hid (X1.out.later hb); replace X2 := Lib.hid (X2.out.later hb); replace Ra := Lib.hid (Ra.out.below hb); replace Rb := Lib.hid (Rb.out.below hb); replace Rc := Lib.hid (Rc.out.below hb); replace N1 := Lib.hid (N1.out.below hb); replace N2 := Lib.hid (N2.out.below hb)
  replace l3 := Lib.hid l3; replace c3 := Lib.hid c3
  have t3 : Hid (T3.natAbs < pw 14) := Lib.hid (Nat.lt_of_le_of_lt n3 (add_abs' (K := 13) (mul_abs t1.out uc.out) (mul_abs tc.out u1.out) (by omega) (by omega))); have u3 : Hid ((B3 : Int).natAbs < pw 12) := Lib.hid (le_abs m3 (mul_abs u1.out uc.out))
  clear n3 m3
  replace N3 := Lib.hid N3
  clear hb
  go_upto_region 6 with fail
  refine gen_wp (fun w' => Below w.heap.size w w' ∧ Box3 w' w.heap.size (.bool ab) (.slice ap an ac) (.slice aq am ae) ∧ Box3 w' (w.heap.size + 1) (.bool cb) (.slice cp cn cc) (.slice cq cm ce) ∧ Box3 w' (w.heap.size + 2) (.bool rb) (.slice rp rn rc) (.slice rq rm re) ∧ Box3 w' v4.heap.size (.bool z1b) (.slice z1p z1n z1c) (.slice z1q z1m z1e) ∧ Box3 w' v5.heap.size (.bool z2b) (.slice z2p z2n z2c) (.slice z2q z2m z2e) ∧ Box3 w' v6.heap.size (.bool z3b) (.slice z3p z3n z3c) (.slice z3q z3m z3e) ∧ Rt w' ab ap an ac aq am ae P Q ∧ Rt w' cb cp cn cc cq cm ce R S ∧ Rt w' rb rp rn rc rq rm re V U ∧ Rt w' z1b z1p z1n z1c z1q z1m z1e (T1) (B1) ∧ Rt w' z2b z2p z2n z2c z2q z2m z2e (T2) (B2) ∧ Rt w' z3b z3p z3n z3c z3q z3m z3e (T3) (B3))
    ⟨bb.out.alloc bb.out.size _, Xa.out.alloc _, Xb.out.alloc _, Xc.out.alloc _, X1.out.alloc _, X2.out.alloc _, Box3.new _ _ _ _ rfl, Ra.out.alloc _, Rb.out.alloc _, Rc.out.alloc _, N1.out.alloc _, N2.out.alloc _, N3.out.alloc _⟩ ?_
  clear bb Xa Xb Xc X1 X2 Ra Rb Rc N1 N2 N3
  rintro x6 ⟨bb, Xa, Xb, Xc, X1, X2, X3, Ra, Rb, Rc, N1, N2, N3⟩
  replace bb := Lib.hid bb; replace Xa := Lib.hid Xa; replace Xb := Lib.hid Xb; replace Xc := Lib.hid Xc; replace X1 := Lib.hid X1; replace X2 := Lib.hid X2; replace X3 := Lib.hid X3; replace Ra := Lib.hid Ra; replace Rb := Lib.hid Rb; replace Rc := Lib.hid Rc; replace N1 := Lib.hid N1; replace N2 := Lib.hid N2; replace N3 := Lib.hid N3
  have E4 : Hid (mkE (P * B2 + T2 * Q) ((Q : Int) * B2) = 0) := Lib.hid (mkE_small (nz_mul la.out.1 l2.out.1) (grow (k := 14) (add_abs' (K := 13) (mul_abs ta.out u2.out) (mul_abs t2.out ua.out) (by omega) (by omega)) (by omega)) (grow (k := 12) (mul_abs ua.out u2.out) (by omega)))
  have p00 := Xa.out.c0; have p01 := Xa.out.c1; have p02 := Xa.out.c2; have p10 := X2.out.c0; have p11 := X2.out.c1; have p12 := X2.out.c2
  go_wp2_with fail
  clear p00 p01 p02 p10 p11 p12
  refine ((add4_any ab ap aq an ac am ae P Q z2b z2p z2q z2n z2c z2m z2e T2 B2 _ Ra.out la.out N2.out l2.out).mono fun _ _ => make_goes E4.out).mono ?_
  rintro e v7 ⟨T4, B4, l4, c4, n4, m4, z4b, z4p, z4n, z4c, z4q, z4m, z4e, rfl, N4, hb⟩
  replace bb := Lib.hid (below_then bb.out (Nat.le_refl _) hb); replace Xa := Lib.hid (Xa.out.later hb); replace Xb := Lib.hid (Xb.out.later hb); replace Xc := Lib.hid (Xc.out.later hb); replace X1 := Lib.hid (X1.out.later hb); replace X2 := Lib.hid (X2.out.later hb); replace X3 := Lib.hid (X3.out.later hb); replace Ra := Lib.hid (Ra.out.below hb); replace Rb := Lib.hid (Rb.out.below hb); replace Rc := Lib.hid (Rc.out.below hb); replace N1 := Lib.hid (N1.out.below hb); replace N2 := Lib.hid (N2.out.below hb); replace N3 := Lib.hid (N3.out.below hb)
  replace l4 := Lib.hid l4; replace c4 := Lib.hid c4
  have t4 : Hid (T4.natAbs < pw 14) := Lib.hid (Nat.lt_of_le_of_lt n4 (add_abs' (K := 13) (mul_abs ta.out u2.out) (mul_abs t2.out ua.out) (by omega) (by omega))); have u4 : Hid ((B4 : Int).natAbs < pw 12) := Lib.hid (le_abs m4 (mul_abs ua.out u2.out))
  clear n4 m4
  replace N4 := Lib.hid N4
  clear hb
  go_upto_region 7 with fail
  refine gen_wp (fun w' => Below w.heap.size w w' ∧ Box3 w' w.heap.size (.bool ab) (.slice ap an ac) (.slice aq am ae) ∧ Box3 w' (w.heap.size + 1) (.bool cb) (.slice cp cn cc) (.slice cq cm ce) ∧ Box3 w' (w.heap.size + 2) (.bool rb) (.slice rp rn rc) (.slice rq rm re) ∧ Box3 w' v4.heap.size (.bool z1b) (.slice z1p z1n z1c) (.slice z1q z1m z1e) ∧ Box3 w' v5.heap.size (.bool z2b) (.slice z2p z2n z2c) (.slice z2q z2m z2e) ∧ Box3 w' v6.heap.size (.bool z3b) (.slice z3p z3n z3c) (.slice z3q z3m z3e) ∧ Box3 w' v7.heap.size (.bool z4b) (.slice z4p z4n z4c) (.slice z4q z4m z4e) ∧ Rt w' ab ap an ac aq am ae P Q ∧ Rt w' cb cp cn cc cq cm ce R S ∧ Rt w' rb rp rn rc rq rm re V U ∧ Rt w' z1b z1p z1n z1c z1q z1m z1e (T1) (B1) ∧ Rt w' z2b z2p z2n z2c z2q z2m z2e (T2) (B2) ∧ Rt w' z3b z3p z3n z3c z3q z3m z3e (T3) (B3) ∧ Rt w' z4b z4p z4n z4c z4q z4m z4e (T4) (B4))
    ⟨bb.out.alloc bb.out.size _, Xa.out.alloc _, Xb.out.alloc _, Xc.out.alloc _, X1.out.alloc _, X2.out.alloc _, X3.out.alloc _, Box3.new _ _ _ _ rfl, Ra.out.alloc _, Rb.out.alloc _, Rc.out.alloc _, N1.out.alloc _, N2.out.alloc _, N3.out.alloc _, N4.out.alloc _⟩ ?_
  clear bb Xa Xb Xc X1 X2 X3 Ra Rb Rc N1 N2 N3 N4
  rintro x7 ⟨bb, Xa, Xb, Xc, X1, X2, X3, X4, Ra, Rb, Rc, N1, N2, N3, N4⟩
  replace bb := Lib.hid bb; replace Xa := Lib.hid Xa; replace Xb := Lib.hid Xb; replace Xc := Lib.hid Xc; replace X1 := Lib.hid X1; replace X2 := Lib.hid X2; replace X3 := Lib.hid X3; replace X4 := Lib.hid X4; replace Ra := Lib.hid Ra; replace Rb := Lib.hid Rb; replace Rc := Lib.hid Rc; replace N1 := Lib.hid N1; replace N2 := Lib.hid N2; replace N3 := Lib.hid N3; replace N4 := Lib.hid N4
  have E5 : Hid (mkE (P * T2) ((Q : Int) * B2) = 0) := Lib.hid (mkE_small (nz_mul la.out.1 l2.out.1) (grow (k := 13) (mul_abs ta.out t2.out) (by omega)) (grow (k := 12) (mul_abs ua.out u2.out) (by omega)))
  have p00 := Xa.out.c0; have p01 := Xa.out.c1; have p02 := Xa.out.c2; have p10 := X2.out.c0; have p11 := X2.out.c1; have p12 := X2.out.c2
  go_wp2_with fail
  clear p00 p01 p02 p10 p11 p12
  refine ((mul4_any ab ap aq an ac am ae P Q z2b z2p z2q z2n z2c z2m z2e T2 B2 _ Ra.out la.out N2.out l2.out).mono fun _ _ => make_goes E5.out).mono ?_
  rintro e v8 ⟨T5, B5, l5, c5, n5, m5, z5b, z5p, z5n, z5c, z5q, z5m, z5e, rfl, N5, hb⟩
  replace bb := Lib.hid (below_then bb.out (Nat.le_refl _) hb); replace Xa := Lib.hid (Xa.out.later hb); replace Xb := Lib.hid (Xb.out.later hb); replace Xc := Lib.hid (Xc.out.later hb); replace X1 := Lib.hid (X1.out.later hb); replace X2 := Lib.hid (X2.out.later hb); replace X3 := Lib.hid (X3.out.later hb); replace X4 := Lib.hid (X4.out.later hb); replace Ra := Lib.hid (Ra.out.below hb); replace Rb := Lib.hid (Rb.out.below hb); replace Rc := Lib.hid (Rc.out.below hb); replace N1 := Lib.hid (N1.out.below hb); replace N2 := Lib.hid (N2.out.below hb); replace N3 := Lib.hid (N3.out.below hb); replace N4 := Lib.hid (N4.out.below hb)
  replace l5 := Lib.hid l5; replace c5 := Lib.hid c5
  have t5 : Hid (T5.natAbs < pw 13) := Lib.hid (Nat.lt_of_le_of_lt n5 (mul_abs ta.out t2.out)); have u5 : Hid ((B5 : Int).natAbs < pw 12) := Lib.hid (le_abs m5 (mul_abs ua.out u2.out))
  clear n5 m5
  replace N5 := Lib.hid N5
  clear hb
  go_upto_region 8 with fail
  refine gen_wp (fun w' => Below w.heap.size w w' ∧ Box3 w' w.heap.size (.bool ab) (.slice ap an ac) (.slice aq am ae) ∧ Box3 w' (w.heap.size + 1) (.bool cb) (.slice cp cn cc) (.slice cq cm ce) ∧ Box3 w' (w.heap.size + 2) (.bool rb) (.slice rp rn rc) (.slice rq rm re) ∧ Box3 w' v4.heap.size (.bool z1b) (.slice z1p z1n z1c) (.slice z1q z1m z1e) ∧ Box3 w' v5.heap.size (.bool z2b) (.slice z2p z2n z2c) (.slice z2q z2m z2e) ∧ Box3 w' v6.heap.size (.bool z3b) (.slice z3p z3n z3c) (.slice z3q z3m z3e) ∧ Box3 w' v7.heap.size (.bool z4b) (.slice z4p z4n z4c) (.slice z4q z4m z4e) ∧ Box3 w' v8.heap.size (.bool z5b) (.slice z5p z5n z5c) (.slice z5q z5m z5e) ∧ Rt w' ab ap an ac aq am ae P Q ∧ Rt w' cb cp cn cc cq cm ce R S ∧ Rt w' rb rp rn rc rq rm re V U ∧ Rt w' z1b z1p z1n z1c z1q z1m z1e (T1) (B1) ∧ Rt w' z2b z2p z2n z2c z2q z2m z2e (T2) (B2) ∧ Rt w' z3b z3p z3n z3c z3q z3m z3e (T3) (B3) ∧ Rt w' z4b z4p z4n z4c z4q z4m z4e (T4) (B4) ∧ Rt w' z5b z5p z5n z5c z5q z5m z5e (T5) (B5))
    ⟨bb.out.alloc bb.out.size _, Xa.out.alloc _, Xb.out.alloc _, Xc.out.alloc _, X1.out.alloc _, X2.out.alloc _, X3.out.alloc _, X4.out.alloc _, Box3.new _ _ _ _ rfl, Ra.out.alloc _, Rb.out.alloc _, Rc.out.alloc _, N1.out.alloc _, N2.out.alloc _, N3.out.alloc _, N4.out.alloc _, N5.out.alloc _⟩ ?_
  clear bb Xa Xb Xc X1 X2 X3 X4 Ra Rb Rc N1 N2 N3 N4 N5
  rintro x8 ⟨bb, Xa, Xb, Xc, X1, X2, X3, X4, X5, Ra, Rb, Rc, N1, N2, N3, N4, N5⟩
  replace bb := Lib.hid bb; replace Xa := Lib.hid Xa; replace Xb := Lib.hid Xb; replace Xc := Lib.hid Xc; replace X1 := Lib.hid X1; replace X2 := Lib.hid X2; replace X3 := Lib.hid X3; replace X4 := Lib.hid X4; replace X5 := Lib.hid X5; replace Ra := Lib.hid Ra; replace Rb := Lib.hid Rb; replace Rc := Lib.hid Rc; replace N1 := Lib.hid N1; replace N2 := Lib.hid N2; replace N3 := Lib.hid N3; replace N4 := Lib.hid N4; replace N5 := Lib.hid N5
  have E6 : Hid (mkE (P * R) ((Q : Int) * S) = 0) := Lib.hid (mkE_small (nz_mul la.out.1 lb.out.1) (grow (k := 8) (mul_abs ta.out tb.out) (by omega)) (grow (k := 8) (mul_abs ua.out ub.out) (by omega)))
  have p00 := Xa.out.c0; have p01 := Xa.out.c1; have p02 := Xa.out.c2; have p10 := Xb.out.c0; have p11 := Xb.out.c1; have p12 := Xb.out.c2
  go_wp2_with fail
  clear p00 p01 p02 p10 p11 p12
  refine ((mul4_any ab ap aq an ac am ae P Q cb cp cq cn cc cm ce R S _ Ra.out la.out Rb.out lb.out).mono fun _ _ => make_goes E6.out).mono ?_
  rintro e v9 ⟨T6, B6, l6, c6, n6, m6, z6b, z6p, z6n, z6c, z6q, z6m, z6e, rfl, N6, hb⟩
  replace bb := Lib.hid (below_then bb.out (Nat.le_refl _) hb); replace Xa := Lib.hid (Xa.out.later hb); replace Xb := Lib.hid (Xb.out.later hb); replace Xc := Lib.hid (Xc.out.later hb); replace X1 := Lib.hid (X1.out.later hb); replace X2 := Lib.hid (X2.out.later hb); replace X3 := Lib.hid (X3.out.later hb); replace X4 := Lib.hid (X4.out.later hb); replace X5 := Lib.hid (X5.out.later hb); replace Ra := Lib.hid (Ra.out.below hb); replace Rb := Lib.hid (Rb.out.below hb); replace Rc := Lib.hid (Rc.out.below hb); replace N1 := Lib.hid (N1.out.below hb); replace N2 := Lib.hid (N2.out.below hb); replace N3 := Lib.hid (N3.out.below hb); replace N4 := Lib.hid (N4.out.below hb); replace N5 := Lib.hid (N5.out.below hb)
  replace l6 := Lib.hid l6; replace c6 := Lib.hid c6
  have t6 : Hid (T6.natAbs < pw 8) := Lib.hid (Nat.lt_of_le_of_lt n6 (mul_abs ta.out tb.out)); have u6 : Hid ((B6 : Int).natAbs < pw 8) := Lib.hid (le_abs m6 (mul_abs ua.out ub.out))
  clear n6 m6
  replace N6 := Lib.hid N6
  clear hb
  go_upto_region 9 with fail
  refine gen_wp (fun w' => Below w.heap.size w w' ∧ Box3 w' w.heap.size (.bool ab) (.slice ap an ac) (.slice aq am ae) ∧ Box3 w' (w.heap.size + 1) (.bool cb) (.slice cp cn cc) (.slice cq cm ce) ∧ Box3 w' (w.heap.size + 2) (.bool rb) (.slice rp rn rc) (.slice rq rm re) ∧ Box3 w' v4.heap.size (.bool z1b) (.slice z1p z1n z1c) (.slice z1q z1m z1e) ∧ Box3 w' v5.heap.size (.bool z2b) (.slice z2p z2n z2c) (.slice z2q z2m z2e) ∧ Box3 w' v6.heap.size (.bool z3b) (.slice z3p z3n z3c) (.slice z3q z3m z3e) ∧ Box3 w' v7.heap.size (.bool z4b) (.slice z4p z4n z4c) (.slice z4q z4m z4e) ∧ Box3 w' v8.heap.size (.bool z5b) (.slice z5p z5n z5c) (.slice z5q z5m z5e) ∧ Box3 w' v9.heap.size (.bool z6b) (.slice z6p z6n z6c) (.slice z6q z6m z6e) ∧ Rt w' ab ap an ac aq am ae P Q ∧ Rt w' cb cp cn cc cq cm ce R S ∧ Rt w' rb rp rn rc rq rm re V U ∧ Rt w' z1b z1p z1n z1c z1q z1m z1e (T1) (B1) ∧ Rt w' z2b z2p z2n z2c z2q z2m z2e (T2) (B2) ∧ Rt w' z3b z3p z3n z3c z3q z3m z3e (T3) (B3) ∧ Rt w' z4b z4p z4n z4c z4q z4m z4e (T4) (B4) ∧ Rt w' z5b z5p z5n z5c z5q z5m z5e (T5) (B5) ∧ Rt w' z6b z6p z6n z6c z6q z6m z6e (T6) (B6))
    ⟨bb.out.alloc bb.out.size _, Xa.out.alloc _, Xb.out.alloc _, Xc.out.alloc _, X1.out.alloc _, X2.out.alloc _, X3.out.alloc _, X4.out.alloc _, X5.out.alloc _, Box3.new _ _ _ _ rfl, Ra.out.alloc _, Rb.out.alloc _, Rc.out.alloc _, N1.out.alloc _, N2.out.alloc _, N3.out.alloc _, N4.out.alloc _, N5.out.alloc _, N6.out.alloc _⟩ ?_
  clear bb Xa Xb Xc X1 X2 X3 X4 X5 Ra Rb Rc N1 N2 N3 N4 N5 N6
  rintro x9 ⟨bb, Xa, Xb, Xc, X1, X2, X3, X4, X5, X6, Ra, Rb, Rc, N1, N2, N3, N4, N5, N6⟩
  replace bb := Lib.hid bb; replace Xa := Lib.hid Xa; replace Xb := Lib.hid Xb; replace Xc := Lib.hid Xc; replace X1 := Lib.hid X1; replace X2 := Lib.hid X2; replace X3 := Lib.hid X3; replace X4 := Lib.hid X4; replace X5 := Lib.hid X5; replace X6 := Lib.hid X6; replace Ra := Lib.hid Ra; replace Rb := Lib.hid Rb; replace Rc := Lib.hid Rc; replace N1 := Lib.hid N1; replace N2 := Lib.hid N2; replace N3 := Lib.hid N3; replace N4 := Lib.hid N4; replace N5 := Lib.hid N5; replace N6 := Lib.hid N6
  have E7 : Hid (mkE (P * V) ((Q : Int) * U) = 0) := Lib.hid (mkE_small (nz_mul la.out.1 lc.out.1) (grow (k := 8) (mul_abs ta.out tc.out) (by omega)) (grow (k := 8) (mul_abs ua.out uc.out) (by omega)))
  have p00 := Xa.out.c0; have p01 := Xa.out.c1; have p02 := Xa.out.c2; have p10 := Xc.out.c0; have p11 := Xc.out.c1; have p12 := Xc.out.c2
  go_wp2_with fail
  clear p00 p01 p02 p10 p11 p12
  refine ((mul4_any ab ap aq an ac am ae P Q rb rp rq rn rc rm re V U _ Ra.out la.out Rc.out lc.out).mono fun _ _ => make_goes E7.out).mono ?_
  rintro e v10 ⟨T7, B7, l7, c7, n7, m7, z7b, z7p, z7n, z7c, z7q, z7m, z7e, rfl, N7, hb⟩
  replace bb := Lib.hid (below_then bb.out (Nat.le_refl _) hb); replace Xa := Lib.hid (Xa.out.later hb); replace Xb := Lib.hid (Xb.out.later hb); replace Xc := Lib.hid (Xc.out.later hb); replace X1 := Lib.hid (X1.out.later hb); replace X2 := Lib.hid (X2.out.later hb); replace X3 := Lib.hid (X3.out.later hb); replace X4 := Lib.hid (X4.out.later hb); replace X5 := Lib.hid (X5.out.later hb); replace X6 := Lib.hid (X6.out.later hb); replace Ra := Lib.hid (Ra.out.below hb); replace Rb := Lib.hid (Rb.out.below hb); replace Rc := Lib.hid (Rc.out.below hb); replace N1 := Lib.hid (N1.out.below hb); replace N2 := Lib.hid (N2.out.below hb); replace N3 := Lib.hid (N3.out.below hb); replace N4 := Lib.hid (N4.out.below hb); replace N5 := Lib.hid (N5.out.below hb); replace N6 := Lib.hid (N6.out.below hb)
  replace l7 := Lib.hid l7; replace c7 := Lib.hid c7
  have t7 : Hid (T7.natAbs < pw 8) := Lib.hid (Nat.lt_of_le_of_lt n7 (mul_abs ta.out tc.out)); have u7 : Hid ((B7 : Int).natAbs < pw 8) := Lib.hid (le_abs m7 (mul_abs ua.out uc.out))
  clear n7 m7
  replace N7 := Lib.hid N7
  clear hb
  go_upto_region 10 with fail
  refine gen_wp (fun w' => Below w.heap.size w w' ∧ Box3 w' w.heap.size (.bool ab) (.slice ap an ac) (.slice aq am ae) ∧ Box3 w' (w.heap.size + 1) (.bool cb) (.slice cp cn cc) (.slice cq cm ce) ∧ Box3 w' (w.heap.size + 2) (.bool rb) (.slice rp rn rc) (.slice rq rm re) ∧ Box3 w' v4.heap.size (.bool z1b) (.slice z1p z1n z1c) (.slice z1q z1m z1e) ∧ Box3 w' v5.heap.size (.bool z2b) (.slice z2p z2n z2c) (.slice z2q z2m z2e) ∧ Box3 w' v6.heap.size (.bool z3b) (.slice z3p z3n z3c) (.slice z3q z3m z3e) ∧ Box3 w' v7.heap.size (.bool z4b) (.slice z4p z4n z4c) (.slice z4q z4m z4e) ∧ Box3 w' v8.heap.size (.bool z5b) (.slice z5p z5n z5c) (.slice z5q z5m z5e) ∧ Box3 w' v9.heap.size (.bool z6b) (.slice z6p z6n z6c) (.slice z6q z6m z6e) ∧ Box3 w' v10.heap.size (.bool z7b) (.slice z7p z7n z7c) (.slice z7q z7m z7e) ∧ Rt w' ab ap an ac aq am ae P Q ∧ Rt w' cb cp cn cc cq cm ce R S ∧ Rt w' rb rp rn rc rq rm re V U ∧ Rt w' z1b z1p z1n z1c z1q z1m z1e (T1) (B1) ∧ Rt w' z2b z2p z2n z2c z2q z2m z2e (T2) (B2) ∧ Rt w' z3b z3p z3n z3c z3q z3m z3e (T3) (B3) ∧ Rt w' z4b z4p z4n z4c z4q z4m z4e (T4) (B4) ∧ Rt w' z5b z5p z5n z5c z5q z5m z5e (T5) (B5) ∧ Rt w' z6b z6p z6n z6c z6q z6m z6e (T6) (B6) ∧ Rt w' z7b z7p z7n z7c z7q z7m z7e (T7) (B7))
    ⟨bb.out.alloc bb.out.size _, Xa.out.alloc _, Xb.out.alloc _, Xc.out.alloc _, X1.out.alloc _, X2.out.alloc _, X3.out.alloc _, X4.out.alloc _, X5.out.alloc _, X6.out.alloc _, Box3.new _ _ _ _ rfl, Ra.out.alloc _, Rb.out.alloc _, Rc.out.alloc _, N1.out.alloc _, N2.out.alloc _, N3.out.alloc _, N4.out.alloc _, N5.out.alloc _, N6.out.alloc _, N7.out.alloc _⟩ ?_
  clear bb Xa Xb Xc X1 X2 X3 X4 X5 X6 Ra Rb Rc N1 N2 N3 N4 N5 N6 N7
  rintro x10 ⟨bb, Xa, Xb, Xc, X1, X2, X3, X4, X5, X6, X7, Ra, Rb, Rc, N1, N2, N3, N4, N5, N6, N7⟩
  replace bb := Lib.hid bb; replace Xa := Lib.hid Xa; replace Xb := Lib.hid Xb; replace Xc := Lib.hid Xc; replace X1 := Lib.hid X1; replace X2 := Lib.hid X2; replace X3 := Lib.hid X3; replace X4 := Lib.hid X4; replace X5 := Lib.hid X5; replace X6 := Lib.hid X6; replace X7 := Lib.hid X7; replace Ra := Lib.hid Ra; replace Rb := Lib.hid Rb; replace Rc := Lib.hid Rc; replace N1 := Lib.hid N1; replace N2 := Lib.hid N2; replace N3 := Lib.hid N3; replace N4 := Lib.hid N4; replace N5 := Lib.hid N5; replace N6 := Lib.hid N6; replace N7 := Lib.hid N7
  have E8 : Hid (mkE (T6 * B7 + T7 * B6) ((B6 : Int) * B7) = 0) := Lib.hid (mkE_small (nz_mul l6.out.1 l7.out.1) (grow (k := 17) (add_abs' (K := 16) (mul_abs t6.out u7.out) (mul_abs t7.out u6.out) (by omega) (by omega)) (by omega)) (grow (k := 16) (mul_abs u6.out u7.out) (by omega)))
  have p00 := X6.out.c0; have p01 := X6.out.c1; have p02 := X6.out.c2; have p10 := X7.out.c0; have p11 := X7.out.c1; have p12 := X7.out.c2
  go_wp2_with fail
  clear p00 p01 p02 p10 p11 p12
  refine ((add4_any z6b z6p z6q z6n z6c z6m z6e T6 B6 z7b z7p z7q z7n z7c z7m z7e T7 B7 _ N6.out l6.out N7.out l7.out).mono fun _ _ => make_goes E8.out).mono ?_
  rintro e v11 ⟨T8, B8, l8, c8, n8, m8, z8b, z8p, z8n, z8c, z8q, z8m, z8e, rfl, N8, hb⟩
  replace bb := Lib.hid (below_then bb.out (Nat.le_refl _) hb); replace Xa := Lib.hid (Xa.out.later hb); replace Xb := Lib.hid (Xb.out.later hb); replace Xc := Lib.hid (Xc.out.later hb); replace X1 := Lib.hid (X1.out.later hb); replace X2 := Lib.hid (X2.out.later hb); replace X3 := Lib.hid (X3.out.later hb); replace X4 := Lib.hid (X4.out.later hb); replace X5 := Lib.hid (X5.out.later hb); replace X6 := Lib.hid (X6.out.later hb); replace X7 := Lib.hid (X7.out.later hb); replace Ra := Lib.hid (Ra.out.below hb); replace Rb := Lib.hid (Rb.out.below hb); replace Rc := Lib.hid (Rc.out.below hb); replace N1 := Lib.hid (N1.out.below hb); replace N2 := Lib.hid (N2.out.below hb); replace N3 := Lib.hid (N3.out.below hb); replace N4 := Lib.hid (N4.out.below hb); replace N5 := Lib.hid (N5.out.below hb); replace N6 := Lib.hid (N6.out.below hb); replace N7 := Lib.hid (N7.out.below hb)
  replace l8 := Lib.hid l8; replace c8 := Lib.hid c8
  have t8 : Hid (T8.natAbs < pw 17) := Lib.hid (Nat.lt_of_le_of_lt n8 (add_abs' (K := 16) (mul_abs t6.out u7.out) (mul_abs t7.out u6.out) (by omega) (by omega))); have u8 : Hid ((B8 : Int).natAbs < pw 16) := Lib.hid (le_abs m8 (mul_abs u6.out u7.out))
  clear n8 m8
  replace N8 := Lib.hid N8
  clear hb
  go_upto_region 11 with fail
  refine gen_wp (fun w' => Below w.heap.size w w' ∧ Box3 w' w.heap.size (.bool ab) (.slice ap an ac) (.slice aq am ae) ∧ Box3 w' (w.heap.size + 1) (.bool cb) (.slice cp cn cc) (.slice cq cm ce) ∧ Box3 w' (w.heap.size + 2) (.bool rb) (.slice rp rn rc) (.slice rq rm re) ∧ Box3 w' v4.heap.size (.bool z1b) (.slice z1p z1n z1c) (.slice z1q z1m z1e) ∧ Box3 w' v5.heap.size (.bool z2b) (.slice z2p z2n z2c) (.slice z2q z2m z2e) ∧ Box3 w' v6.heap.size (.bool z3b) (.slice z3p z3n z3c) (.slice z3q z3m z3e) ∧ Box3 w' v7.heap.size (.bool z4b) (.slice z4p z4n z4c) (.slice z4q z4m z4e) ∧ Box3 w' v8.heap.size (.bool z5b) (.slice z5p z5n z5c) (.slice z5q z5m z5e) ∧ Box3 w' v9.heap.size (.bool z6b) (.slice z6p z6n z6c) (.slice z6q z6m z6e) ∧ Box3 w' v10.heap.size (.bool z7b) (.slice z7p z7n z7c) (.slice z7q z7m z7e) ∧ Box3 w' v11.heap.size (.bool z8b) (.slice z8p z8n z8c) (.slice z8q z8m z8e) ∧ Rt w' ab ap an ac aq am ae P Q ∧ Rt w' cb cp cn cc cq cm ce R S ∧ Rt w' rb rp rn rc rq rm re V U ∧ Rt w' z1b z1p z1n z1c z1q z1m z1e (T1) (B1) ∧ Rt w' z2b z2p z2n z2c z2q z2m z2e (T2) (B2) ∧ Rt w' z3b z3p z3n z3c z3q z3m z3e (T3) (B3) ∧ Rt w' z4b z4p z4n z4c z4q z4m z4e (T4) (B4) ∧ Rt w' z5b z5p z5n z5c z5q z5m z5e (T5) (B5) ∧ Rt w' z6b z6p z6n z6c z6q z6m z6e (T6) (B6) ∧ Rt w' z7b z7p z7n z7c z7q z7m z7e (T7) (B7) ∧ Rt w' z8b z8p z8n z8c z8q z8m z8e (T8) (B8))
    ⟨bb.out.alloc bb.out.size _, Xa.out.alloc _, Xb.out.alloc _, Xc.out.alloc _, X1.out.alloc _, X2.out.alloc _, X3.out.alloc _, X4.out.alloc _, X5.out.alloc _, X6.out.alloc _, X7.out.alloc _, Box3.new _ _ _ _ rfl, Ra.out.alloc _, Rb.out.alloc _, Rc.out.alloc _, N1.out.alloc _, N2.out.alloc _, N3.out.alloc _, N4.out.alloc _, N5.out.alloc _, N6.out.alloc _, N7.out.alloc _, N8.out.alloc _⟩ ?_
  clear bb Xa Xb Xc X1 X2 X3 X4 X5 X6 X7 Ra Rb Rc N1 N2 N3 N4 N5 N6 N7 N8
  rintro x11 ⟨bb, Xa, Xb, Xc, X1, X2, X3, X4, X5, X6, X7, X8, Ra, Rb, Rc, N1, N2, N3, N4, N5, N6, N7, N8⟩
  replace bb := Lib.hid bb; replace Xa := Lib.hid Xa; replace Xb := Lib.hid Xb; replace Xc := Lib.hid Xc; replace X1 := Lib.hid X1; replace X2 := Lib.hid X2; replace X3 := Lib.hid X3; replace X4 := Lib.hid X4; replace X5 := Lib.hid X5; replace X6 := Lib.hid X6; replace X7 := Lib.hid X7; replace X8 := Lib.hid X8; replace Ra := Lib.hid Ra; replace Rb := Lib.hid Rb; replace Rc := Lib.hid Rc; replace N1 := Lib.hid N1; replace N2 := Lib.hid N2; replace N3 := Lib.hid N3; replace N4 := Lib.hid N4; replace N5 := Lib.hid N5; replace N6 := Lib.hid N6; replace N7 := Lib.hid N7; replace N8 := Lib.hid N8
  have q34 := ok_unique l3.out l4.out c3.out c4.out (nz_mul l1.out.1 lc.out.1) (nz_mul la.out.1 l2.out.1) (add_brackets lb.out.1 c1.out c2.out)
  have q58 := ok_unique l5.out l8.out c5.out c8.out (nz_mul la.out.1 l2.out.1) (nz_mul l6.out.1 l7.out.1) (mul_brackets lb.out.1 lc.out.1 c2.out c6.out c7.out)
  obtain ⟨q3, q4⟩ := q34
  obtain ⟨q5, q8⟩ := q58
  subst q3 q4 q5 q8
  have p00 := X3.out.c0; have p01 := X3.out.c1; have p02 := X3.out.c2; have p10 := X4.out.c0; have p11 := X4.out.c1; have p12 := X4.out.c2
  go_wp2_with fail
  clear p00 p01 p02 p10 p11 p12
  refine (same4_any z3b z3p z3q z3n z3c z3m z3e _ _ z4b z4p z4q z4n z4c z4m z4e _ N3.out N4.out).mono ?_
  rintro e v12 ⟨rfl, hb⟩
  replace bb := Lib.hid (below_then bb.out (Nat.le_refl _) hb); replace Xa := Lib.hid (Xa.out.later hb); replace Xb := Lib.hid (Xb.out.later hb); replace Xc := Lib.hid (Xc.out.later hb); replace X1 := Lib.hid (X1.out.later hb); replace X2 := Lib.hid (X2.out.later hb); replace X3 := Lib.hid (X3.out.later hb); replace X4 := Lib.hid (X4.out.later hb); replace X5 := Lib.hid (X5.out.later hb); replace X6 := Lib.hid (X6.out.later hb); replace X7 := Lib.hid (X7.out.later hb); replace X8 := Lib.hid (X8.out.later hb); replace Ra := Lib.hid (Ra.out.below hb); replace Rb := Lib.hid (Rb.out.below hb); replace Rc := Lib.hid (Rc.out.below hb); replace N1 := Lib.hid (N1.out.below hb); replace N2 := Lib.hid (N2.out.below hb); replace N3 := Lib.hid (N3.out.below hb); replace N4 := Lib.hid (N4.out.below hb); replace N5 := Lib.hid (N5.out.below hb); replace N6 := Lib.hid (N6.out.below hb); replace N7 := Lib.hid (N7.out.below hb); replace N8 := Lib.hid (N8.out.below hb)
  clear hb
  have p00 := X5.out.c0; have p01 := X5.out.c1; have p02 := X5.out.c2; have p10 := X8.out.c0; have p11 := X8.out.c1; have p12 := X8.out.c2
  go_wp2_with fail
  clear p00 p01 p02 p10 p11 p12
  refine (same4_any z5b z5p z5q z5n z5c z5m z5e _ _ z8b z8p z8q z8n z8c z8m z8e _ N5.out N8.out).mono ?_
  rintro e v13 ⟨rfl, hb⟩
  replace bb := Lib.hid (below_then bb.out (Nat.le_refl _) hb); replace Xa := Lib.hid (Xa.out.later hb); replace Xb := Lib.hid (Xb.out.later hb); replace Xc := Lib.hid (Xc.out.later hb); replace X1 := Lib.hid (X1.out.later hb); replace X2 := Lib.hid (X2.out.later hb); replace X3 := Lib.hid (X3.out.later hb); replace X4 := Lib.hid (X4.out.later hb); replace X5 := Lib.hid (X5.out.later hb); replace X6 := Lib.hid (X6.out.later hb); replace X7 := Lib.hid (X7.out.later hb); replace X8 := Lib.hid (X8.out.later hb); replace Ra := Lib.hid (Ra.out.below hb); replace Rb := Lib.hid (Rb.out.below hb); replace Rc := Lib.hid (Rc.out.below hb); replace N1 := Lib.hid (N1.out.below hb); replace N2 := Lib.hid (N2.out.below hb); replace N3 := Lib.hid (N3.out.below hb); replace N4 := Lib.hid (N4.out.below hb); replace N5 := Lib.hid (N5.out.below hb); replace N6 := Lib.hid (N6.out.below hb); replace N7 := Lib.hid (N7.out.below hb); replace N8 := Lib.hid (N8.out.below hb)
  clear hb
  clear Xa Xb Xc X1 X2 X3 X4 X5 X6 X7 X8 Ra Rb Rc N1 N2 N3 N4 N5 N6 N7 N8
  go_wp2_with fail
  refine (awake4_any _).mono ?_
  rintro e vz ⟨rfl, hb⟩
  replace bb := Lib.hid (below_then bb.out (Nat.le_refl _) hb)
  clear hb
  go_wp2_with fail
  go_ret
  exact ⟨rfl, bb.out⟩

end Go.Proofs.Ytnnipciifjpooaa
