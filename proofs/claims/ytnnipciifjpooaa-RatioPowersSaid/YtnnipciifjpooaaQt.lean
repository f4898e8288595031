/-
  scrimlaw04.RatioPowers, walked.
-/
import Derived.Test.YtnnipciifjpooaaQs
namespace Go.Proofs.Ytnnipciifjpooaa
open Go.RowKit Num

attribute [local go_sem ↓] Go.wp_at_zero Go.wp_at_succ

set_option maxRecDepth 20000 in
set_option maxHeartbeats 8000000 in
theorem powers4_walk (ab : Bool) (ap aq : Option Addr) (an ac am ae : Nat) (fa ga : Nat → Nat) (cb : Bool) (cp cq : Option Addr) (cn cc cm ce : Nat) (fb gb : Nat → Nat) (k : Int) (w : World) (Ia : In w ap an ac fa) (Ja : In w aq am ae ga) (Ib : In w cp cn cc fb) (Jb : In w cq cm ce gb) (k0 : -9223372036854775808 ≤ k) (k1 : k ≤ 9223372036854775807) :
    Calls Try.prog 5 #[.agg #[.bool ab, .slice ap an ac, .slice aq am ae], .agg #[.bool cb, .slice cp cn cc, .slice cq cm ce], .int .i64 k] w (Says (.bool true) w) := by
  replace k0 := Lib.hid k0; replace k1 := Lib.hid k1
  replace Ia := Lib.hid Ia; replace Ja := Lib.hid Ja; replace Ib := Lib.hid Ib; replace Jb := Lib.hid Jb
  go_enter Try.func5, Try.ntmps5
  go_upto_region 1 with fail
  refine gen_wp (fun w' => Below w.heap.size w w' ∧ Box3 w' w.heap.size (.bool ab) (.slice ap an ac) (.slice aq am ae) ∧ Box3 w' (w.heap.size + 1) (.bool cb) (.slice cp cn cc) (.slice cq cm ce))
    ⟨(((Below.refl _ _).alloc (Nat.le_refl _) _).alloc (by first | (simp; done) | (simp; omega)) _), ((Box3.new _ _ _ _ rfl).alloc _), (Box3.new _ _ _ _ (by first | (simp; done) | (simp; omega)))⟩ ?_
  rintro w0 ⟨bb, Xa, Xb⟩
  replace bb := Lib.hid bb; replace Xa := Lib.hid Xa; replace Xb := Lib.hid Xb
  have p00 := Xa.out.c0; have p01 := Xa.out.c1; have p02 := Xa.out.c2
  go_wp2_with fail
  clear p00 p01 p02
  refine (right4_in ab ap aq an ac am ae fa ga _ (Ia.out.below bb.out) (Ja.out.below bb.out)).mono ?_
  rintro e v1 ⟨r, rfl, hyes, hno, hb⟩
  clear hno
  replace hyes := Lib.hid hyes
  cases r
  · replace bb := Lib.hid (below_then bb.out (Nat.le_refl _) hb)
    clear hb hyes Xa Xb
    go_wp2_with fail
    refine (awake4_any _).mono ?_
    rintro e vz ⟨rfl, hb⟩
    replace bb := Lib.hid (below_then bb.out (Nat.le_refl _) hb)
    clear hb
    go_wp2_with fail
    go_ret
    exact ⟨rfl, bb.out⟩
  obtain ⟨P, Q, la, Ra⟩ := hyes.out (by first | exact rfl | trivial)
  replace la := Lib.hid la; replace Ra := Lib.hid (Ra.below hb)
  clear hyes
  replace bb := Lib.hid (below_then bb.out (Nat.le_refl _) hb); replace Xa := Lib.hid (Xa.out.later hb); replace Xb := Lib.hid (Xb.out.later hb)
  clear hb
  have p00 := Xb.out.c0; have p01 := Xb.out.c1; have p02 := Xb.out.c2
  go_wp2_with fail
  clear p00 p01 p02
  refine (right4_in cb cp cq cn cc cm ce fb gb _ (Ib.out.below bb.out) (Jb.out.below bb.out)).mono ?_
  rintro e v2 ⟨r, rfl, hyes, hno, hb⟩
  clear hno
  replace hyes := Lib.hid hyes
  cases r
  · replace bb := Lib.hid (below_then bb.out (Nat.le_refl _) hb)
    clear hb hyes Xa Xb Ra
    go_wp2_with fail
    refine (awake4_any _).mono ?_
    rintro e vz ⟨rfl, hb⟩
    replace bb := Lib.hid (below_then bb.out (Nat.le_refl _) hb)
    clear hb
    go_wp2_with fail
    go_ret
    exact ⟨rfl, bb.out⟩
  obtain ⟨R, S, lb, Rb⟩ := hyes.out (by first | exact rfl | trivial)
  replace lb := Lib.hid lb; replace Rb := Lib.hid (Rb.below hb)
  clear hyes
  replace bb := Lib.hid (below_then bb.out (Nat.le_refl _) hb); replace Xa := Lib.hid (Xa.out.later hb); replace Xb := Lib.hid (Xb.out.later hb); replace Ra := Lib.hid (Ra.out.below hb)
  clear hb
  by_cases hA : 3000 < k
  · have d0 : decide (3000 < k) = true := decide_eq_true hA
    clear hA
    clear Xa Xb Ra Rb
    go_wp2_with fail
    refine (awake4_any _).mono ?_
    rintro e vz ⟨rfl, hb⟩
    replace bb := Lib.hid (below_then bb.out (Nat.le_refl _) hb)
    clear hb
    go_wp2_with fail
    go_ret
    exact ⟨rfl, bb.out⟩
  have d0 : decide (3000 < k) = false := decide_eq_false hA
  clear hA
  by_cases hB : k < -3000
  · have d1 : decide (k < -3000) = true := decide_eq_true hB
    clear hB
    by_cases hC : -9223372036854775807 ≤ k
    · have d2 : decide (-9223372036854775807 ≤ k) = true := decide_eq_true hC
      clear hC
      clear Xa Xb Ra Rb
      go_wp2_with fail
      refine (awake4_any _).mono ?_
      rintro e vz ⟨rfl, hb⟩
      replace bb := Lib.hid (below_then bb.out (Nat.le_refl _) hb)
      clear hb
      go_wp2_with fail
      go_ret
      exact ⟨rfl, bb.out⟩
    · have d2 : decide (-9223372036854775807 ≤ k) = false := decide_eq_false hC
      clear hC
      go_upto_region 3 with fail
      clear d0 d1 d2
      have p00 := Xa.out.c0; have p01 := Xa.out.c1; have p02 := Xa.out.c2
      go_wp2_with fail
      clear p00 p01 p02
      refine (pow4_any ab ap aq an ac am ae P Q k _ Ra.out la.out k0.out k1.out).mono ?_
      rintro e v41 ⟨z0b, z0p, z0n, z0c, z0q, z0m, z0e, rfl, N0, hb⟩
      replace bb := Lib.hid (below_then bb.out (Nat.le_refl _) hb); replace Xa := Lib.hid (Xa.out.later hb); replace Xb := Lib.hid (Xb.out.later hb); replace Ra := Lib.hid (Ra.out.below hb); replace Rb := Lib.hid (Rb.out.below hb)
      replace N0 := Lib.hid N0
      clear hb
      go_upto_region 4 with fail
      refine gen_wp (fun w' => Below w.heap.size w w' ∧ Box3 w' w.heap.size (.bool ab) (.slice ap an ac) (.slice aq am ae) ∧ Box3 w' (w.heap.size + 1) (.bool cb) (.slice cp cn cc) (.slice cq cm ce) ∧ Box3 w' v41.heap.size (.bool z0b) (.slice z0p z0n z0c) (.slice z0q z0m z0e) ∧ Rt w' ab ap an ac aq am ae P Q ∧ Rt w' cb cp cn cc cq cm ce R S ∧ Rt w' z0b z0p z0n z0c z0q z0m z0e ((powRes P Q k).1) ((powRes P Q k).2.1))
        ⟨bb.out.alloc bb.out.size _, Xa.out.alloc _, Xb.out.alloc _, Box3.new _ _ _ _ rfl, Ra.out.alloc _, Rb.out.alloc _, N0.out.alloc _⟩ ?_
      clear bb Xa Xb Ra Rb N0
      rintro x41 ⟨bb, Xa, Xb, X0, Ra, Rb, N0⟩
      replace bb := Lib.hid bb; replace Xa := Lib.hid Xa; replace Xb := Lib.hid Xb; replace X0 := Lib.hid X0; replace Ra := Lib.hid Ra; replace Rb := Lib.hid Rb; replace N0 := Lib.hid N0
      have p00 := Xa.out.c0; have p01 := Xa.out.c1; have p02 := Xa.out.c2
      go_wp2_with fail
      clear p00 p01 p02
      refine (rPow4_any ab ap aq an ac am ae P Q k _ Ra.out la.out k0.out k1.out).mono ?_
      rintro e v42 ⟨z1b, z1p, z1n, z1c, z1q, z1m, z1e, rfl, N1, hb⟩
      replace bb := Lib.hid (below_then bb.out (Nat.le_refl _) hb); replace Xa := Lib.hid (Xa.out.later hb); replace Xb := Lib.hid (Xb.out.later hb); replace X0 := Lib.hid (X0.out.later hb); replace Ra := Lib.hid (Ra.out.below hb); replace Rb := Lib.hid (Rb.out.below hb); replace N0 := Lib.hid (N0.out.below hb)
      replace N1 := Lib.hid N1
      clear hb
      go_upto_region 5 with fail
      refine gen_wp (fun w' => Below w.heap.size w w' ∧ Box3 w' w.heap.size (.bool ab) (.slice ap an ac) (.slice aq am ae) ∧ Box3 w' (w.heap.size + 1) (.bool cb) (.slice cp cn cc) (.slice cq cm ce) ∧ Box3 w' v41.heap.size (.bool z0b) (.slice z0p z0n z0c) (.slice z0q z0m z0e) ∧ Box3 w' v42.heap.size (.bool z1b) (.slice z1p z1n z1c) (.slice z1q z1m z1e) ∧ Rt w' ab ap an ac aq am ae P Q ∧ Rt w' cb cp cn cc cq cm ce R S ∧ Rt w' z0b z0p z0n z0c z0q z0m z0e ((powRes P Q k).1) ((powRes P Q k).2.1) ∧ Rt w' z1b z1p z1n z1c z1q z1m z1e ((powRes P Q k).1) ((powRes P Q k).2.1))
        ⟨bb.out.alloc bb.out.size _, Xa.out.alloc _, Xb.out.alloc _, X0.out.alloc _, Box3.new _ _ _ _ rfl, Ra.out.alloc _, Rb.out.alloc _, N0.out.alloc _, N1.out.alloc _⟩ ?_
      clear bb Xa Xb X0 Ra Rb N0 N1
      rintro x42 ⟨bb, Xa, Xb, X0, X1, Ra, Rb, N0, N1⟩
      replace bb := Lib.hid bb; replace Xa := Lib.hid Xa; replace Xb := Lib.hid Xb; replace X0 := Lib.hid X0; replace X1 := Lib.hid X1; replace Ra := Lib.hid Ra; replace Rb := Lib.hid Rb; replace N0 := Lib.hid N0; replace N1 := Lib.hid N1
      have p00 := Xa.out.c0; have p01 := Xa.out.c1; have p02 := Xa.out.c2; have p10 := Xb.out.c0; have p11 := Xb.out.c1; have p12 := Xb.out.c2
      go_wp2_with fail
      clear p00 p01 p02 p10 p11 p12
      refine (gcd4_any ab ap aq an ac am ae P Q cb cp cq cn cc cm ce R S _ Ra.out la.out Rb.out lb.out).mono ?_
      rintro e v43 ⟨z2b, z2p, z2n, z2c, z2q, z2m, z2e, rfl, N2, hb⟩
      replace bb := Lib.hid (below_then bb.out (Nat.le_refl _) hb); replace Xa := Lib.hid (Xa.out.later hb); replace Xb := Lib.hid (Xb.out.later hb); replace X0 := Lib.hid (X0.out.later hb); replace X1 := Lib.hid (X1.out.later hb); replace Ra := Lib.hid (Ra.out.below hb); replace Rb := Lib.hid (Rb.out.below hb); replace N0 := Lib.hid (N0.out.below hb); replace N1 := Lib.hid (N1.out.below hb)
      replace N2 := Lib.hid N2
      clear hb
      go_upto_region 6 with fail
      refine gen_wp (fun w' => Below w.heap.size w w' ∧ Box3 w' w.heap.size (.bool ab) (.slice ap an ac) (.slice aq am ae) ∧ Box3 w' (w.heap.size + 1) (.bool cb) (.slice cp cn cc) (.slice cq cm ce) ∧ Box3 w' v41.heap.size (.bool z0b) (.slice z0p z0n z0c) (.slice z0q z0m z0e) ∧ Box3 w' v42.heap.size (.bool z1b) (.slice z1p z1n z1c) (.slice z1q z1m z1e) ∧ Box3 w' v43.heap.size (.bool z2b) (.slice z2p z2n z2c) (.slice z2q z2m z2e) ∧ Rt w' ab ap an ac aq am ae P Q ∧ Rt w' cb cp cn cc cq cm ce R S ∧ Rt w' z0b z0p z0n z0c z0q z0m z0e ((powRes P Q k).1) ((powRes P Q k).2.1) ∧ Rt w' z1b z1p z1n z1c z1q z1m z1e ((powRes P Q k).1) ((powRes P Q k).2.1) ∧ Rt w' z2b z2p z2n z2c z2q z2m z2e ((gcdRes P Q R S).1) ((gcdRes P Q R S).2.1))
        ⟨bb.out.alloc bb.out.size _, Xa.out.alloc _, Xb.out.alloc _, X0.out.alloc _, X1.out.alloc _, Box3.new _ _ _ _ rfl, Ra.out.alloc _, Rb.out.alloc _, N0.out.alloc _, N1.out.alloc _, N2.out.alloc _⟩ ?_
      clear bb Xa Xb X0 X1 Ra Rb N0 N1 N2
      rintro x43 ⟨bb, Xa, Xb, X0, X1, X2, Ra, Rb, N0, N1, N2⟩
      replace bb := Lib.hid bb; replace Xa := Lib.hid Xa; replace Xb := Lib.hid Xb; replace X0 := Lib.hid X0; replace X1 := Lib.hid X1; replace X2 := Lib.hid X2; replace Ra := Lib.hid Ra; replace Rb := Lib.hid Rb; replace N0 := Lib.hid N0; replace N1 := Lib.hid N1; replace N2 := Lib.hid N2
      have p00 := Xa.out.c0; have p01 := Xa.out.c1; have p02 := Xa.out.c2; have p10 := Xb.out.c0; have p11 := Xb.out.c1; have p12 := Xb.out.c2
      go_wp2_with fail
      clear p00 p01 p02 p10 p11 p12
      refine (rGcd4_any ab ap aq an ac am ae P Q cb cp cq cn cc cm ce R S _ Ra.out la.out Rb.out lb.out).mono ?_
      rintro e v44 ⟨z3b, z3p, z3n, z3c, z3q, z3m, z3e, rfl, N3, hb⟩
      replace bb := Lib.hid (below_then bb.out (Nat.le_refl _) hb); replace Xa := Lib.hid (Xa.out.later hb); replace Xb := Lib.hid (Xb.out.later hb); replace X0 := Lib.hid (X0.out.later hb); replace X1 := Lib.hid (X1.out.later hb); replace X2 := Lib.hid (X2.out.later hb); replace Ra := Lib.hid (Ra.out.below hb); replace Rb := Lib.hid (Rb.out.below hb); replace N0 := Lib.hid (N0.out.below hb); replace N1 := Lib.hid (N1.out.below hb); replace N2 := Lib.hid (N2.out.below hb)
      replace N3 := Lib.hid N3
      clear hb
      go_upto_region 7 with fail
      refine gen_wp (fun w' => Below w.heap.size w w' ∧ Box3 w' w.heap.size (.bool ab) (.slice ap an ac) (.slice aq am ae) ∧ Box3 w' (w.heap.size + 1) (.bool cb) (.slice cp cn cc) (.slice cq cm ce) ∧ Box3 w' v41.heap.size (.bool z0b) (.slice z0p z0n z0c) (.slice z0q z0m z0e) ∧ Box3 w' v42.heap.size (.bool z1b) (.slice z1p z1n z1c) (.slice z1q z1m z1e) ∧ Box3 w' v43.heap.size (.bool z2b) (.slice z2p z2n z2c) (.slice z2q z2m z2e) ∧ Box3 w' v44.heap.size (.bool z3b) (.slice z3p z3n z3c) (.slice z3q z3m z3e) ∧ Rt w' ab ap an ac aq am ae P Q ∧ Rt w' cb cp cn cc cq cm ce R S ∧ Rt w' z0b z0p z0n z0c z0q z0m z0e ((powRes P Q k).1) ((powRes P Q k).2.1) ∧ Rt w' z1b z1p z1n z1c z1q z1m z1e ((powRes P Q k).1) ((powRes P Q k).2.1) ∧ Rt w' z2b z2p z2n z2c z2q z2m z2e ((gcdRes P Q R S).1) ((gcdRes P Q R S).2.1) ∧ Rt w' z3b z3p z3n z3c z3q z3m z3e ((gcdRes P Q R S).1) ((gcdRes P Q R S).2.1))
        ⟨bb.out.alloc bb.out.size _, Xa.out.alloc _, Xb.out.alloc _, X0.out.alloc _, X1.out.alloc _, X2.out.alloc _, Box3.new _ _ _ _ rfl, Ra.out.alloc _, Rb.out.alloc _, N0.out.alloc _, N1.out.alloc _, N2.out.alloc _, N3.out.alloc _⟩ ?_
      clear bb Xa Xb X0 X1 X2 Ra Rb N0 N1 N2 N3
      rintro x44 ⟨bb, Xa, Xb, X0, X1, X2, X3, Ra, Rb, N0, N1, N2, N3⟩
      replace bb := Lib.hid bb; replace Xa := Lib.hid Xa; replace Xb := Lib.hid Xb; replace X0 := Lib.hid X0; replace X1 := Lib.hid X1; replace X2 := Lib.hid X2; replace X3 := Lib.hid X3; replace Ra := Lib.hid Ra; replace Rb := Lib.hid Rb; replace N0 := Lib.hid N0; replace N1 := Lib.hid N1; replace N2 := Lib.hid N2; replace N3 := Lib.hid N3
      have p00 := Xa.out.c0; have p01 := Xa.out.c1; have p02 := Xa.out.c2; have p10 := Xb.out.c0; have p11 := Xb.out.c1; have p12 := Xb.out.c2
      go_wp2_with fail
      clear p00 p01 p02 p10 p11 p12
      refine (lcm4_any ab ap aq an ac am ae P Q cb cp cq cn cc cm ce R S _ Ra.out la.out Rb.out lb.out).mono ?_
      rintro e v45 ⟨z4b, z4p, z4n, z4c, z4q, z4m, z4e, rfl, N4, hb⟩
      replace bb := Lib.hid (below_then bb.out (Nat.le_refl _) hb); replace Xa := Lib.hid (Xa.out.later hb); replace Xb := Lib.hid (Xb.out.later hb); replace X0 := Lib.hid (X0.out.later hb); replace X1 := Lib.hid (X1.out.later hb); replace X2 := Lib.hid (X2.out.later hb); replace X3 := Lib.hid (X3.out.later hb); replace Ra := Lib.hid (Ra.out.below hb); replace Rb := Lib.hid (Rb.out.below hb); replace N0 := Lib.hid (N0.out.below hb); replace N1 := Lib.hid (N1.out.below hb); replace N2 := Lib.hid (N2.out.below hb); replace N3 := Lib.hid (N3.out.below hb)
      replace N4 := Lib.hid N4
      clear hb
      go_upto_region 8 with fail
      refine gen_wp (fun w' => Below w.heap.size w w' ∧ Box3 w' w.heap.size (.bool ab) (.slice ap an ac) (.slice aq am ae) ∧ Box3 w' (w.heap.size + 1) (.bool cb) (.slice cp cn cc) (.slice cq cm ce) ∧ Box3 w' v41.heap.size (.bool z0b) (.slice z0p z0n z0c) (.slice z0q z0m z0e) ∧ Box3 w' v42.heap.size (.bool z1b) (.slice z1p z1n z1c) (.slice z1q z1m z1e) ∧ Box3 w' v43.heap.size (.bool z2b) (.slice z2p z2n z2c) (.slice z2q z2m z2e) ∧ Box3 w' v44.heap.size (.bool z3b) (.slice z3p z3n z3c) (.slice z3q z3m z3e) ∧ Box3 w' v45.heap.size (.bool z4b) (.slice z4p z4n z4c) (.slice z4q z4m z4e) ∧ Rt w' ab ap an ac aq am ae P Q ∧ Rt w' cb cp cn cc cq cm ce R S ∧ Rt w' z0b z0p z0n z0c z0q z0m z0e ((powRes P Q k).1) ((powRes P Q k).2.1) ∧ Rt w' z1b z1p z1n z1c z1q z1m z1e ((powRes P Q k).1) ((powRes P Q k).2.1) ∧ Rt w' z2b z2p z2n z2c z2q z2m z2e ((gcdRes P Q R S).1) ((gcdRes P Q R S).2.1) ∧ Rt w' z3b z3p z3n z3c z3q z3m z3e ((gcdRes P Q R S).1) ((gcdRes P Q R S).2.1) ∧ Rt w' z4b z4p z4n z4c z4q z4m z4e ((lcmRes P Q R S).1) ((lcmRes P Q R S).2.1))
        ⟨bb.out.alloc bb.out.size _, Xa.out.alloc _, Xb.out.alloc _, X0.out.alloc _, X1.out.alloc _, X2.out.alloc _, X3.out.alloc _, Box3.new _ _ _ _ rfl, Ra.out.alloc _, Rb.out.alloc _, N0.out.alloc _, N1.out.alloc _, N2.out.alloc _, N3.out.alloc _, N4.out.alloc _⟩ ?_
      clear bb Xa Xb X0 X1 X2 X3 Ra Rb N0 N1 N2 N3 N4
      rintro x45 ⟨bb, Xa, Xb, X0, X1, X2, X3, X4, Ra, Rb, N0, N1, N2, N3, N4⟩
      replace bb := Lib.hid bb; replace Xa := Lib.hid Xa; replace Xb := Lib.hid Xb; replace X0 := Lib.hid X0; replace X1 := Lib.hid X1; replace X2 := Lib.hid X2; replace X3 := Lib.hid X3; replace X4 := Lib.hid X4; replace Ra := Lib.hid Ra; replace Rb := Lib.hid Rb; replace N0 := Lib.hid N0; replace N1 := Lib.hid N1; replace N2 := Lib.hid N2; replace N3 := Lib.hid N3; replace N4 := Lib.hid N4
      have p00 := Xa.out.c0; have p01 := Xa.out.c1; have p02 := Xa.out.c2; have p10 := Xb.out.c0; have p11 := Xb.out.c1; have p12 := Xb.out.c2
      go_wp2_with fail
      clear p00 p01 p02 p10 p11 p12
      refine (rLcm4_any ab ap aq an ac am ae P Q cb cp cq cn cc cm ce R S _ Ra.out la.out Rb.out lb.out).mono ?_
      rintro e v46 ⟨z5b, z5p, z5n, z5c, z5q, z5m, z5e, rfl, N5, hb⟩
      replace bb := Lib.hid (below_then bb.out (Nat.le_refl _) hb); replace Xa := Lib.hid (Xa.out.later hb); replace Xb := Lib.hid (Xb.out.later hb); replace X0 := Lib.hid (X0.out.later hb); replace X1 := Lib.hid (X1.out.later hb); replace X2 := Lib.hid (X2.out.later hb); replace X3 := Lib.hid (X3.out.later hb); replace X4 := Lib.hid (X4.out.later hb); replace Ra := Lib.hid (Ra.out.below hb); replace Rb := Lib.hid (Rb.out.below hb); replace N0 := Lib.hid (N0.out.below hb); replace N1 := Lib.hid (N1.out.below hb); replace N2 := Lib.hid (N2.out.below hb); replace N3 := Lib.hid (N3.out.below hb); replace N4 := Lib.hid (N4.out.below hb)
      replace N5 := Lib.hid N5
      clear hb
      go_upto_region 9 with fail
      refine gen_wp (fun w' => Below w.heap.size w w' ∧ Box3 w' w.heap.size (.bool ab) (.slice ap an ac) (.slice aq am ae) ∧ Box3 w' (w.heap.size + 1) (.bool cb) (.slice cp cn cc) (.slice cq cm ce) ∧ Box3 w' v41.heap.size (.bool z0b) (.slice z0p z0n z0c) (.slice z0q z0m z0e) ∧ Box3 w' v42.heap.size (.bool z1b) (.slice z1p z1n z1c) (.slice z1q z1m z1e) ∧ Box3 w' v43.heap.size (.bool z2b) (.slice z2p z2n z2c) (.slice z2q z2m z2e) ∧ Box3 w' v44.heap.size (.bool z3b) (.slice z3p z3n z3c) (.slice z3q z3m z3e) ∧ Box3 w' v45.heap.size (.bool z4b) (.slice z4p z4n z4c) (.slice z4q z4m z4e) ∧ Box3 w' v46.heap.size (.bool z5b) (.slice z5p z5n z5c) (.slice z5q z5m z5e) ∧ Rt w' ab ap an ac aq am ae P Q ∧ Rt w' cb cp cn cc cq cm ce R S ∧ Rt w' z0b z0p z0n z0c z0q z0m z0e ((powRes P Q k).1) ((powRes P Q k).2.1) ∧ Rt w' z1b z1p z1n z1c z1q z1m z1e ((powRes P Q k).1) ((powRes P Q k).2.1) ∧ Rt w' z2b z2p z2n z2c z2q z2m z2e ((gcdRes P Q R S).1) ((gcdRes P Q R S).2.1) ∧ Rt w' z3b z3p z3n z3c z3q z3m z3e ((gcdRes P Q R S).1) ((gcdRes P Q R S).2.1) ∧ Rt w' z4b z4p z4n z4c z4q z4m z4e ((lcmRes P Q R S).1) ((lcmRes P Q R S).2.1) ∧ Rt w' z5b z5p z5n z5c z5q z5m z5e ((lcmRes P Q R S).1) ((lcmRes P Q R S).2.1))
        ⟨bb.out.alloc bb.out.size _, Xa.out.alloc _, Xb.out.alloc _, X0.out.alloc _, X1.out.alloc _, X2.out.alloc _, X3.out.alloc _, X4.out.alloc _, Box3.new _ _ _ _ rfl, Ra.out.alloc _, Rb.out.alloc _, N0.out.alloc _, N1.out.alloc _, N2.out.alloc _, N3.out.alloc _, N4.out.alloc _, N5.out.alloc _⟩ ?_
      clear bb Xa Xb X0 X1 X2 X3 X4 Ra Rb N0 N1 N2 N3 N4 N5
      rintro x46 ⟨bb, Xa, Xb, X0, X1, X2, X3, X4, X5, Ra, Rb, N0, N1, N2, N3, N4, N5⟩
      replace bb := Lib.hid bb; replace Xa := Lib.hid Xa; replace Xb := Lib.hid Xb; replace X0 := Lib.hid X0; replace X1 := Lib.hid X1; replace X2 := Lib.hid X2; replace X3 := Lib.hid X3; replace X4 := Lib.hid X4; replace X5 := Lib.hid X5; replace Ra := Lib.hid Ra; replace Rb := Lib.hid Rb; replace N0 := Lib.hid N0; replace N1 := Lib.hid N1; replace N2 := Lib.hid N2; replace N3 := Lib.hid N3; replace N4 := Lib.hid N4; replace N5 := Lib.hid N5
      have p00 := X0.out.c0; have p01 := X0.out.c1; have p02 := X0.out.c2; have p10 := X1.out.c0; have p11 := X1.out.c1; have p12 := X1.out.c2
      go_wp2_with fail
      clear p00 p01 p02 p10 p11 p12
      refine (alike_any z0b z0p z0q z0n z0c z0m z0e _ _ z1b z1p z1q z1n z1c z1m z1e _ _ N0.out N1.out).mono ?_
      rintro e v47 ⟨rfl, hb⟩
      replace bb := Lib.hid (below_then bb.out (Nat.le_refl _) hb); replace Xa := Lib.hid (Xa.out.later hb); replace Xb := Lib.hid (Xb.out.later hb); replace X0 := Lib.hid (X0.out.later hb); replace X1 := Lib.hid (X1.out.later hb); replace X2 := Lib.hid (X2.out.later hb); replace X3 := Lib.hid (X3.out.later hb); replace X4 := Lib.hid (X4.out.later hb); replace X5 := Lib.hid (X5.out.later hb); replace Ra := Lib.hid (Ra.out.below hb); replace Rb := Lib.hid (Rb.out.below hb); replace N0 := Lib.hid (N0.out.below hb); replace N1 := Lib.hid (N1.out.below hb); replace N2 := Lib.hid (N2.out.below hb); replace N3 := Lib.hid (N3.out.below hb); replace N4 := Lib.hid (N4.out.below hb); replace N5 := Lib.hid (N5.out.below hb)
      clear hb
      have p00 := X2.out.c0; have p01 := X2.out.c1; have p02 := X2.out.c2; have p10 := X3.out.c0; have p11 := X3.out.c1; have p12 := X3.out.c2
      go_wp2_with fail
      clear p00 p01 p02 p10 p11 p12
      refine (alike_any z2b z2p z2q z2n z2c z2m z2e _ _ z3b z3p z3q z3n z3c z3m z3e _ _ N2.out N3.out).mono ?_
      rintro e v48 ⟨rfl, hb⟩
      replace bb := Lib.hid (below_then bb.out (Nat.le_refl _) hb); replace Xa := Lib.hid (Xa.out.later hb); replace Xb := Lib.hid (Xb.out.later hb); replace X0 := Lib.hid (X0.out.later hb); replace X1 := Lib.hid (X1.out.later hb); replace X2 := Lib.hid (X2.out.later hb); replace X3 := Lib.hid (X3.out.later hb); replace X4 := Lib.hid (X4.out.later hb); replace X5 := Lib.hid (X5.out.later hb); replace Ra := Lib.hid (Ra.out.below hb); replace Rb := Lib.hid (Rb.out.below hb); replace N0 := Lib.hid (N0.out.below hb); replace N1 := Lib.hid (N1.out.below hb); replace N2 := Lib.hid (N2.out.below hb); replace N3 := Lib.hid (N3.out.below hb); replace N4 := Lib.hid (N4.out.below hb); replace N5 := Lib.hid (N5.out.below hb)
      clear hb
      have p00 := X4.out.c0; have p01 := X4.out.c1; have p02 := X4.out.c2; have p10 := X5.out.c0; have p11 := X5.out.c1; have p12 := X5.out.c2
      go_wp2_with fail
      clear p00 p01 p02 p10 p11 p12
      refine (alike_any z4b z4p z4q z4n z4c z4m z4e _ _ z5b z5p z5q z5n z5c z5m z5e _ _ N4.out N5.out).mono ?_
      rintro e v49 ⟨rfl, hb⟩
      replace bb := Lib.hid (below_then bb.out (Nat.le_refl _) hb); replace Xa := Lib.hid (Xa.out.later hb); replace Xb := Lib.hid (Xb.out.later hb); replace X0 := Lib.hid (X0.out.later hb); replace X1 := Lib.hid (X1.out.later hb); replace X2 := Lib.hid (X2.out.later hb); replace X3 := Lib.hid (X3.out.later hb); replace X4 := Lib.hid (X4.out.later hb); replace X5 := Lib.hid (X5.out.later hb); replace Ra := Lib.hid (Ra.out.below hb); replace Rb := Lib.hid (Rb.out.below hb); replace N0 := Lib.hid (N0.out.below hb); replace N1 := Lib.hid (N1.out.below hb); replace N2 := Lib.hid (N2.out.below hb); replace N3 := Lib.hid (N3.out.below hb); replace N4 := Lib.hid (N4.out.below hb); replace N5 := Lib.hid (N5.out.below hb)
      clear hb
      clear Xa Xb X0 X1 X2 X3 X4 X5 Ra Rb N0 N1 N2 N3 N4 N5
      go_wp2_with fail
      refine (awake4_any _).mono ?_
      rintro e vz ⟨rfl, hb⟩
      replace bb := Lib.hid (below_then bb.out (Nat.le_refl _) hb)
      clear hb
      go_wp2_with fail
      go_ret
      exact ⟨rfl, bb.out⟩
  · have d1 : decide (k < -3000) = false := decide_eq_false hB
    clear hB
    go_upto_region 3 with fail
    clear d0 d1
    have p00 := Xa.out.c0; have p01 := Xa.out.c1; have p02 := Xa.out.c2
    go_wp2_with fail
    clear p00 p01 p02
    refine (pow4_any ab ap aq an ac am ae P Q k _ Ra.out la.out k0.out k1.out).mono ?_
    rintro e v41 ⟨z0b, z0p, z0n, z0c, z0q, z0m, z0e, rfl, N0, hb⟩
    replace bb := Lib.hid (below_then bb.out (Nat.le_refl _) hb); replace Xa := Lib.hid (Xa.out.later hb); replace Xb := Lib.hid (Xb.out.later hb); replace Ra := Lib.hid (Ra.out.below hb); replace Rb := Lib.hid (Rb.out.below hb)
    replace N0 := Lib.hid N0
    clear hb
    go_upto_region 4 with fail
    refine gen_wp (fun w' => Below w.heap.size w w' ∧ Box3 w' w.heap.size (.bool ab) (.slice ap an ac) (.slice aq am ae) ∧ Box3 w' (w.heap.size + 1) (.bool cb) (.slice cp cn cc) (.slice cq cm ce) ∧ Box3 w' v41.heap.size (.bool z0b) (.slice z0p z0n z0c) (.slice z0q z0m z0e) ∧ Rt w' ab ap an ac aq am ae P Q ∧ Rt w' cb cp cn cc cq cm ce R S ∧ Rt w' z0b z0p z0n z0c z0q z0m z0e ((powRes P Q k).1) ((powRes P Q k).2.1))
      ⟨bb.out.alloc bb.out.size _, Xa.out.alloc _, Xb.out.alloc _, Box3.new _ _ _ _ rfl, Ra.out.alloc _, Rb.out.alloc _, N0.out.alloc _⟩ ?_
    clear bb Xa Xb Ra Rb N0
    rintro x41 ⟨bb, Xa, Xb, X0, Ra, Rb, N0⟩
    replace bb := Lib.hid bb; replace Xa := Lib.hid Xa; replace Xb := Lib.hid Xb; replace X0 := Lib.hid X0; replace Ra := Lib.hid Ra; replace Rb := Lib.hid Rb; replace N0 := Lib.hid N0
    have p00 := Xa.out.c0; have p01 := Xa.out.c1; have p02 := Xa.out.c2
    go_wp2_with fail
    clear p00 p01 p02
    refine (rPow4_any ab ap aq an ac am ae P Q k _ Ra.out la.out k0.out k1.out).mono ?_
    rintro e v42 ⟨z1b, z1p, z1n, z1c, z1q, z1m, z1e, rfl, N1, hb⟩
    replace bb := Lib.hid (below_then bb.out (Nat.le_refl _) hb); replace Xa := Lib.hid (Xa.out.later hb); replace Xb := Lib.hid (Xb.out.later hb); replace X0 := Lib.hid (X0.out.later hb); replace Ra := Lib.hid (Ra.out.below hb); replace Rb := Lib.hid (Rb.out.below hb); replace N0 := Lib.hid (N0.out.below hb)
    replace N1 := Lib.hid N1
    clear hb
    go_upto_region 5 with fail
    refine gen_wp (fun w' => Below w.heap.size w w' ∧ Box3 w' w.heap.size (.bool ab) (.slice ap an ac) (.slice aq am ae) ∧ Box3 w' (w.heap.size + 1) (.bool cb) (.slice cp cn cc) (.slice cq cm ce) ∧ Box3 w' v41.heap.size (.bool z0b) (.slice z0p z0n z0c) (.slice z0q z0m z0e) ∧ Box3 w' v42.heap.size (.bool z1b) (.slice z1p z1n z1c) (.slice z1q z1m z1e) ∧ Rt w' ab ap an ac aq am ae P Q ∧ Rt w' cb cp cn cc cq cm ce R S ∧ Rt w' z0b z0p z0n z0c z0q z0m z0e ((powRes P Q k).1) ((powRes P Q k).2.1) ∧ Rt w' z1b z1p z1n z1c z1q z1m z1e ((powRes P Q k).1) ((powRes P Q k).2.1))
      ⟨bb.out.alloc bb.out.size _, Xa.out.alloc _, Xb.out.alloc _, X0.out.alloc _, Box3.new _ _ _ _ rfl, Ra.out.alloc _, Rb.out.alloc _, N0.out.alloc _, N1.out.alloc _⟩ ?_
    clear bb Xa Xb X0 Ra Rb N0 N1
    rintro x42 ⟨bb, Xa, Xb, X0, X1, Ra, Rb, N0, N1⟩
    replace bb := Lib.hid bb; replace Xa := Lib.hid Xa; replace Xb := Lib.hid Xb; replace X0 := Lib.hid X0; replace X1 := Lib.hid X1; replace Ra := Lib.hid Ra; replace Rb := Lib.hid Rb; replace N0 := Lib.hid N0; replace N1 := Lib.hid N1
    have p00 := Xa.out.c0; have p01 := Xa.out.c1; have p02 := Xa.out.c2; have p10 := Xb.out.c0; have p11 := Xb.out.c1; have p12 := Xb.out.c2
    go_wp2_with fail
    clear p00 p01 p02 p10 p11 p12
    refine (gcd4_any ab ap aq an ac am ae P Q cb cp cq cn cc cm ce R S _ Ra.out la.out Rb.out lb.out).mono ?_
    rintro e v43 ⟨z2b, z2p, z2n, z2c, z2q, z2m, z2e, rfl, N2, hb⟩
    replace bb := Lib.hid (below_then bb.out (Nat.le_refl _) hb); replace Xa := Lib.hid (Xa.out.later hb); replace Xb := Lib.hid (Xb.out.later hb); replace X0 := Lib.hid (X0.out.later hb); replace X1 := Lib.hid (X1.out.later hb); replace Ra := Lib.hid (Ra.out.below hb); replace Rb := Lib.hid (Rb.out.below hb); replace N0 := Lib.hid (N0.out.below hb); replace N1 := Lib.hid (N1.out.below hb)
    replace N2 := Lib.hid N2
    clear hb
    go_upto_region 6 with fail
    refine gen_wp (fun w' => Below w.heap.size w w' ∧ Box3 w' w.heap.size (.bool ab) (.slice ap an ac) (.slice aq am ae) ∧ Box3 w' (w.heap.size + 1) (.bool cb) (.slice cp cn cc) (.slice cq cm ce) ∧ Box3 w' v41.heap.size (.bool z0b) (.slice z0p z0n z0c) (.slice z0q z0m z0e) ∧ Box3 w' v42.heap.size (.bool z1b) (.slice z1p z1n z1c) (.slice z1q z1m z1e) ∧ Box3 w' v43.heap.size (.bool z2b) (.slice z2p z2n z2c) (.slice z2q z2m z2e) ∧ Rt w' ab ap an ac aq am ae P Q ∧ Rt w' cb cp cn cc cq cm ce R S ∧ Rt w' z0b z0p z0n z0c z0q z0m z0e ((powRes P Q k).1) ((powRes P Q k).2.1) ∧ Rt w' z1b z1p z1n z1c z1q z1m z1e ((powRes P Q k).1) ((powRes P Q k).2.1) ∧ Rt w' z2b z2p z2n z2c z2q z2m z2e ((gcdRes P Q R S).1) ((gcdRes P Q R S).2.1))
      ⟨bb.out.alloc bb.out.size _, Xa.out.alloc _, Xb.out.alloc _, X0.out.alloc _, X1.out.alloc _, Box3.new _ _ _ _ rfl, Ra.out.alloc _, Rb.out.alloc _, N0.out.alloc _, N1.out.alloc _, N2.out.alloc _⟩ ?_
    clear bb Xa Xb X0 X1 Ra Rb N0 N1 N2
    rintro x43 ⟨bb, Xa, Xb, X0, X1, X2, Ra, Rb, N0, N1, N2⟩
    replace bb := Lib.hid bb; replace Xa := Lib.hid Xa; replace Xb := Lib.hid Xb; replace X0 := Lib.hid X0; replace X1 := Lib.hid X1; replace X2 := Lib.hid X2; replace Ra := Lib.hid Ra; replace Rb := Lib.hid Rb; replace N0 := Lib.hid N0; replace N1 := Lib.hid N1; replace N2 := Lib.hid N2
    have p00 := Xa.out.c0; have p01 := Xa.out.c1; have p02 := Xa.out.c2; have p10 := Xb.out.c0; have p11 := Xb.out.c1; have p12 := Xb.out.c2
    go_wp2_with fail
    clear p00 p01 p02 p10 p11 p12
    refine (rGcd4_any ab ap aq an ac am ae P Q cb cp cq cn cc cm ce R S _ Ra.out la.out Rb.out lb.out).mono ?_
    rintro e v44 ⟨z3b, z3p, z3n, z3c, z3q, z3m, z3e, rfl, N3, hb⟩
    replace bb := Lib.hid (below_then bb.out (Nat.le_refl _) hb); replace Xa := Lib.hid (Xa.out.later hb); replace Xb := Lib.hid (Xb.out.later hb); replace X0 := Lib.hid (X0.out.later hb); replace X1 := Lib.hid (X1.out.later hb); replace X2 := Lib.hid (X2.out.later hb); replace Ra := Lib.hid (Ra.out.below hb); replace Rb := Lib.hid (Rb.out.below hb); replace N0 := Lib.hid (N0.out.below hb); replace N1 := Lib.hid (N1.out.below hb); replace N2 := Lib.hid (N2.out.below hb)
    replace N3 := Lib.hid N3
    clear hb
    go_upto_region 7 with fail
    refine gen_wp (fun w' => Below w.heap.size w w' ∧ Box3 w' w.heap.size (.bool ab) (.slice ap an ac) (.slice aq am ae) ∧ Box3 w' (w.heap.size + 1) (.bool cb) (.slice cp cn cc) (.slice cq cm ce) ∧ Box3 w' v41.heap.size (.bool z0b) (.slice z0p z0n z0c) (.slice z0q z0m z0e) ∧ Box3 w' v42.heap.size (.bool z1b) (.slice z1p z1n z1c) (.slice z1q z1m z1e) ∧ Box3 w' v43.heap.size (.bool z2b) (.slice z2p z2n z2c) (.slice z2q z2m z2e) ∧ Box3 w' v44.heap.size (.bool z3b) (.slice z3p z3n z3c) (.slice z3q z3m z3e) ∧ Rt w' ab ap an ac aq am ae P Q ∧ Rt w' cb cp cn cc cq cm ce R S ∧ Rt w' z0b z0p z0n z0c z0q z0m z0e ((powRes P Q k).1) ((powRes P Q k).2.1) ∧ Rt w' z1b z1p z1n z1c z1q z1m z1e ((powRes P Q k).1) ((powRes P Q k).2.1) ∧ Rt w' z2b z2p z2n z2c z2q z2m z2e ((gcdRes P Q R S).1) ((gcdRes P Q R S).2.1) ∧ Rt w' z3b z3p z3n z3c z3q z3m z3e ((gcdRes P Q R S).1) ((gcdRes P Q R S).2.1))
      ⟨bb.out.alloc bb.out.size _, Xa.out.alloc _, Xb.out.alloc _, X0.out.alloc _, X1.out.alloc _, X2.out.alloc _, Box3.new _ _ _ _ rfl, Ra.out.alloc _, Rb.out.alloc _, N0.out.alloc _, N1.out.alloc _, N2.out.alloc _, N3.out.alloc _⟩ ?_
    clear bb Xa Xb X0 X1 X2 Ra Rb N0 N1 N2 N3
    rintro x44 ⟨bb, Xa, Xb, X0, X1, X2, X3, Ra, Rb, N0, N1, N2, N3⟩
    replace bb := Lib.hid bb; replace Xa := Lib.hid Xa; replace Xb := Lib.hid Xb; replace X0 := Lib.hid X0; replace X1 := Lib.hid X1; replace X2 := Lib.hid X2; replace X3 := Lib.hid X3; replace Ra := Lib.hid Ra; replace Rb := Lib.hid Rb; replace N0 := Lib.hid N0; replace N1 := Lib.hid N1; replace N2 := Lib.hid N2; replace N3 := Lib.hid N3
    have p00 := Xa.out.c0; have p01 := Xa.out.c1; have p02 := Xa.out.c2; have p10 := Xb.out.c0; have p11 := Xb.out.c1; have p12 := Xb.out.c2
    go_wp2_with fail
    clear p00 p01 p02 p10 p11 p12
    refine (lcm4_any ab ap aq an ac am ae P Q cb cp cq cn cc cm ce R S _ Ra.out la.out Rb.out lb.out).mono ?_
    rintro e v45 ⟨z4b, z4p, z4n, z4c, z4q, z4m, z4e, rfl, N4, hb⟩
    replace bb := Lib.hid (below_then bb.out (Nat.le_refl _) hb); replace Xa := Lib.hid (Xa.out.later hb); replace Xb := Lib.hid (Xb.out.later hb); replace X0 := Lib.hid (X0.out.later hb); replace X1 := Lib.hid (X1.out.later hb); replace X2 := Lib.hid (X2.out.later hb); replace X3 := Lib.hid (X3.out.later hb); replace Ra := Lib.hid (Ra.out.below hb); replace Rb := Lib.hid (Rb.out.below hb); replace N0 := Lib.hid (N0.out.below hb); replace N1 := Lib.hid (N1.out.below hb); replace N2 := Lib.hid (N2.out.below hb); replace N3 := Lib.hid (N3.out.below hb)
    replace N4 := Lib.hid N4
    clear hb
    go_upto_region 8 with fail
    refine gen_wp (fun w' => Below w.heap.size w w' ∧ Box3 w' w.heap.size (.bool ab) (.slice ap an ac) (.slice aq am ae) ∧ Box3 w' (w.heap.size + 1) (.bool cb) (.slice cp cn cc) (.slice cq cm ce) ∧ Box3 w' v41.heap.size (.bool z0b) (.slice z0p z0n z0c) (.slice z0q z0m z0e) ∧ Box3 w' v42.heap.size (.bool z1b) (.slice z1p z1n z1c) (.slice z1q z1m z1e) ∧ Box3 w' v43.heap.size (.bool z2b) (.slice z2p z2n z2c) (.slice z2q z2m z2e) ∧ Box3 w' v44.heap.size (.bool z3b) (.slice z3p z3n z3c) (.slice z3q z3m z3e) ∧ Box3 w' v45.heap.size (.bool z4b) (.slice z4p z4n z4c) (.slice z4q z4m z4e) ∧ Rt w' ab ap an ac aq am ae P Q ∧ Rt w' cb cp cn cc cq cm ce R S ∧ Rt w' z0b z0p z0n z0c z0q z0m z0e ((powRes P Q k).1) ((powRes P Q k).2.1) ∧ Rt w' z1b z1p z1n z1c z1q z1m z1e ((powRes P Q k).1) ((powRes P Q k).2.1) ∧ Rt w' z2b z2p z2n z2c z2q z2m z2e ((gcdRes P Q R S).1) ((gcdRes P Q R S).2.1) ∧ Rt w' z3b z3p z3n z3c z3q z3m z3e ((gcdRes P Q R S).1) ((gcdRes P Q R S).2.1) ∧ Rt w' z4b z4p z4n z4c z4q z4m z4e ((lcmRes P Q R S).1) ((lcmRes P Q R S).2.1))
      ⟨bb.out.alloc bb.out.size _, Xa.out.alloc _, Xb.out.alloc _, X0.out.alloc _, X1.out.alloc _, X2.out.alloc _, X3.out.alloc _, Box3.new _ _ _ _ rfl, Ra.out.alloc _, Rb.out.alloc _, N0.out.alloc _, N1.out.alloc _, N2.out.alloc _, N3.out.alloc _, N4.out.alloc _⟩ ?_
    clear bb Xa Xb X0 X1 X2 X3 Ra Rb N0 N1 N2 N3 N4
    rintro x45 ⟨bb, Xa, Xb, X0, X1, X2, X3, X4, Ra, Rb, N0, N1, N2, N3, N4⟩
    replace bb := Lib.hid bb; replace Xa := Lib.hid Xa; replace Xb := Lib.hid Xb; replace X0 := Lib.hid X0; replace X1 := Lib.hid X1; replace X2 := Lib.hid X2; replace X3 := Lib.hid X3; replace X4 := Lib.hid X4; replace Ra := Lib.hid Ra; replace Rb := Lib.hid Rb; replace N0 := Lib.hid N0; replace N1 := Lib.hid N1; replace N2 := Lib.hid N2; replace N3 := Lib.hid N3; replace N4 := Lib.hid N4
    have p00 := Xa.out.c0; have p01 := Xa.out.c1; have p02 := Xa.out.c2; have p10 := Xb.out.c0; have p11 := Xb.out.c1; have p12 := Xb.out.c2
    go_wp2_with fail
    clear p00 p01 p02 p10 p11 p12
    refine (rLcm4_any ab ap aq an ac am ae P Q cb cp cq cn cc cm ce R S _ Ra.out la.out Rb.out lb.out).mono ?_
    rintro e v46 ⟨z5b, z5p, z5n, z5c, z5q, z5m, z5e, rfl, N5, hb⟩
    replace bb := Lib.hid (below_then bb.out (Nat.le_refl _) hb); replace Xa := Lib.hid (Xa.out.later hb); replace Xb := Lib.hid (Xb.out.later hb); replace X0 := Lib.hid (X0.out.later hb); replace X1 := Lib.hid (X1.out.later hb); replace X2 := Lib.hid (X2.out.later hb); replace X3 := Lib.hid (X3.out.later hb); replace X4 := Lib.hid (X4.out.later hb); replace Ra := Lib.hid (Ra.out.below hb); replace Rb := Lib.hid (Rb.out.below hb); replace N0 := Lib.hid (N0.out.below hb); replace N1 := Lib.hid (N1.out.below hb); replace N2 := Lib.hid (N2.out.below hb); replace N3 := Lib.hid (N3.out.below hb); replace N4 := Lib.hid (N4.out.below hb)
    replace N5 := Lib.hid N5
    clear hb
    go_upto_region 9 with fail
    refine gen_wp (fun w' => Below w.heap.size w w' ∧ Box3 w' w.heap.size (.bool ab) (.slice ap an ac) (.slice aq am ae) ∧ Box3 w' (w.heap.size + 1) (.bool cb) (.slice cp cn cc) (.slice cq cm ce) ∧ Box3 w' v41.heap.size (.bool z0b) (.slice z0p z0n z0c) (.slice z0q z0m z0e) ∧ Box3 w' v42.heap.size (.bool z1b) (.slice z1p z1n z1c) (.slice z1q z1m z1e) ∧ Box3 w' v43.heap.size (.bool z2b) (.slice z2p z2n z2c) (.slice z2q z2m z2e) ∧ Box3 w' v44.heap.size (.bool z3b) (.slice z3p z3n z3c) (.slice z3q z3m z3e) ∧ Box3 w' v45.heap.size (.bool z4b) (.slice z4p z4n z4c) (.slice z4q z4m z4e) ∧ Box3 w' v46.heap.size (.bool z5b) (.slice z5p z5n z5c) (.slice z5q z5m z5e) ∧ Rt w' ab ap an ac aq am ae P Q ∧ Rt w' cb cp cn cc cq cm ce R S ∧ Rt w' z0b z0p z0n z0c z0q z0m z0e ((powRes P Q k).1) ((powRes P Q k).2.1) ∧ Rt w' z1b z1p z1n z1c z1q z1m z1e ((powRes P Q k).1) ((powRes P Q k).2.1) ∧ Rt w' z2b z2p z2n z2c z2q z2m z2e ((gcdRes P Q R S).1) ((gcdRes P Q R S).2.1) ∧ Rt w' z3b z3p z3n z3c z3q z3m z3e ((gcdRes P Q R S).1) ((gcdRes P Q R S).2.1) ∧ Rt w' z4b z4p z4n z4c z4q z4m z4e ((lcmRes P Q R S).1) ((lcmRes P Q R S).2.1) ∧ Rt w' z5b z5p z5n z5c z5q z5m z5e ((lcmRes P Q R S).1) ((lcmRes P Q R S).2.1))
      ⟨bb.out.alloc bb.out.size _, Xa.out.alloc _, Xb.out.alloc _, X0.out.alloc _, X1.out.alloc _, X2.out.alloc _, X3.out.alloc _, X4.out.alloc _, Box3.new _ _ _ _ rfl, Ra.out.alloc _, Rb.out.alloc _, N0.out.alloc _, N1.out.alloc _, N2.out.alloc _, N3.out.alloc _, N4.out.alloc _, N5.out.alloc _⟩ ?_
    clear bb Xa Xb X0 X1 X2 X3 X4 Ra Rb N0 N1 N2 N3 N4 N5
    rintro x46 ⟨bb, Xa, Xb, X0, X1, X2, X3, X4, X5, Ra, Rb, N0, N1, N2, N3, N4, N5⟩
    replace bb := Lib.hid bb; replace Xa := Lib.hid Xa; replace Xb := Lib.hid Xb; replace X0 := Lib.hid X0; replace X1 := Lib.hid X1; replace X2 := Lib.hid X2; replace X3 := Lib.hid X3; replace X4 := Lib.hid X4; replace X5 := Lib.hid X5; replace Ra := Lib.hid Ra; replace Rb := Lib.hid Rb; replace N0 := Lib.hid N0; replace N1 := Lib.hid N1; replace N2 := Lib.hid N2; replace N3 := Lib.hid N3; replace N4 := Lib.hid N4; replace N5 := Lib.hid N5
    have p00 := X0.out.c0; have p01 := X0.out.c1; have p02 := X0.out.c2; have p10 := X1.out.c0; have p11 := X1.out.c1; have p12 := X1.out.c2
    go_wp2_with fail
    clear p00 p01 p02 p10 p11 p12
    refine (alike_any z0b z0p z0q z0n z0c z0m z0e _ _ z1b z1p z1q z1n z1c z1m z1e _ _ N0.out N1.out).mono ?_
    rintro e v47 ⟨rfl, hb⟩
    replace bb := Lib.hid (below_then bb.out (Nat.le_refl _) hb); replace Xa := Lib.hid (Xa.out.later hb); replace Xb := Lib.hid (Xb.out.later hb); replace X0 := Lib.hid (X0.out.later hb); replace X1 := Lib.hid (X1.out.later hb); replace X2 := Lib.hid (X2.out.later hb); replace X3 := Lib.hid (X3.out.later hb); replace X4 := Lib.hid (X4.out.later hb); replace X5 := Lib.hid (X5.out.later hb); replace Ra := Lib.hid (Ra.out.below hb); replace Rb := Lib.hid (Rb.out.below hb); replace N0 := Lib.hid (N0.out.below hb); replace N1 := Lib.hid (N1.out.below hb); replace N2 := Lib.hid (N2.out.below hb); replace N3 := Lib.hid (N3.out.below hb); replace N4 := Lib.hid (N4.out.below hb); replace N5 := Lib.hid (N5.out.below hb)
    clear hb
    have p00 := X2.out.c0; have p01 := X2.out.c1; have p02 := X2.out.c2; have p10 := X3.out.c0; have p11 := X3.out.c1; have p12 := X3.out.c2
    go_wp2_with fail
    clear p00 p01 p02 p10 p11 p12
    refine (alike_any z2b z2p z2q z2n z2c z2m z2e _ _ z3b z3p z3q z3n z3c z3m z3e _ _ N2.out N3.out).mono ?_
    rintro e v48 ⟨rfl, hb⟩
    replace bb := Lib.hid (below_then bb.out (Nat.le_refl _) hb); replace Xa := Lib.hid (Xa.out.later hb); replace Xb := Lib.hid (Xb.out.later hb); replace X0 := Lib.hid (X0.out.later hb); replace X1 := Lib.hid (X1.out.later hb); replace X2 := Lib.hid (X2.out.later hb); replace X3 := Lib.hid (X3.out.later hb); replace X4 := Lib.hid (X4.out.later hb); replace X5 := Lib.hid (X5.out.later hb); replace Ra := Lib.hid (Ra.out.below hb); replace Rb := Lib.hid (Rb.out.below hb); replace N0 := Lib.hid (N0.out.below hb); replace N1 := Lib.hid (N1.out.below hb); replace N2 := Lib.hid (N2.out.below hb); replace N3 := Lib.hid (N3.out.below hb); replace N4 := Lib.hid (N4.out.below hb); replace N5 := Lib.hid (N5.out.below hb)
    clear hb
    have p00 := X4.out.c0; have p01 := X4.out.c1; have p02 := X4.out.c2; have p10 := X5.out.c0; have p11 := X5.out.c1; have p12 := X5.out.c2
    go_wp2_with fail
    clear p00 p01 p02 p10 p11 p12
    refine (alike_any z4b z4p z4q z4n z4c z4m z4e _ _ z5b z5p z5q z5n z5c z5m z5e _ _ N4.out N5.out).mono ?_
    rintro e v49 ⟨rfl, hb⟩
    replace bb := Lib.hid (below_then bb.out (Nat.le_refl _) hb); replace Xa := Lib.hid (Xa.out.later hb); replace Xb := Lib.hid (Xb.out.later hb); replace X0 := Lib.hid (X0.out.later hb); replace X1 := Lib.hid (X1.out.later hb); replace X2 := Lib.hid (X2.out.later hb); replace X3 := Lib.hid (X3.out.later hb); replace X4 := Lib.hid (X4.out.later hb); replace X5 := Lib.hid (X5.out.later hb); replace Ra := Lib.hid (Ra.out.below hb); replace Rb := Lib.hid (Rb.out.below hb); replace N0 := Lib.hid (N0.out.below hb); replace N1 := Lib.hid (N1.out.below hb); replace N2 := Lib.hid (N2.out.below hb); replace N3 := Lib.hid (N3.out.below hb); replace N4 := Lib.hid (N4.out.below hb); replace N5 := Lib.hid (N5.out.below hb)
    clear hb
    clear Xa Xb X0 X1 X2 X3 X4 X5 Ra Rb N0 N1 N2 N3 N4 N5
    go_wp2_with fail
    refine (awake4_any _).mono ?_
    rintro e vz ⟨rfl, hb⟩
    replace bb := Lib.hid (below_then bb.out (Nat.le_refl _) hb)
    clear hb
    go_wp2_with fail
    go_ret
    exact ⟨rfl, bb.out⟩

end Go.Proofs.Ytnnipciifjpooaa
