/-
  scrimlaw04.RatioSums, walked.
-/
import Derived.Test.YtnnipciifjpooaaQl
namespace Go.Proofs.Ytnnipciifjpooaa
open Go.RowKit Num

attribute [local go_sem ↓] Go.wp_at_zero Go.wp_at_succ

set_option maxRecDepth 20000 in
set_option maxHeartbeats 8000000 in
theorem sums4_walk (ab : Bool) (ap aq : Option Addr) (an ac am ae : Nat) (fa ga : Nat → Nat) (cb : Bool) (cp cq : Option Addr) (cn cc cm ce : Nat) (fb gb : Nat → Nat) (w : World) (Ia : In w ap an ac fa) (Ja : In w aq am ae ga) (Ib : In w cp cn cc fb) (Jb : In w cq cm ce gb) :
    Calls Try.prog 3 #[.agg #[.bool ab, .slice ap an ac, .slice aq am ae], .agg #[.bool cb, .slice cp cn cc, .slice cq cm ce]] w (Says (.bool true) w) := by
  replace Ia := Lib.hid Ia; replace Ja := Lib.hid Ja; replace Ib := Lib.hid Ib; replace Jb := Lib.hid Jb
  go_enter Try.func3, Try.ntmps3
  go_upto_region 1 with fail
  refine gen_wp (fun w' => Below w.heap.size w w' ∧ Box3 w' w.heap.size (.bool ab) (.slice ap an ac) (.slice aq am ae) ∧ Box3 w' (w.heap.size + 1) (.bool cb) (.slice cp cn cc) (.slice cq cm ce))
    ⟨(((Below.refl _ _).alloc (Nat.le_refl _) _).alloc (by first | (simp; done) | (simp; omega)) _), ((Box3.new _ _ _ _ rfl).alloc _), (Box3.new _ _ _ _ (by first | (simp; done) | (simp; omega)))⟩ ?_
  rintro w0 ⟨bb, Xa, Xb⟩
  replace bb := Lib.hid bb; replace Xa := Lib.hid Xa; replace Xb := Lib.hid Xb
  have p00 := Xa.out.c0; have p01 := Xa.out.c1; have p02 := Xa.out.c2
  go_wp2_with fail
  clear p00 p01 p02
  refine (right4_in ab ap aq an ac am ae fa ga _ (Ia.out.below bb.out) (Ja.out.below bb.out)).mono ?_
  rintro e v1 ⟨r, rfl, hyes, hno, hb⟩
  clear hno
  replace hyes := Lib.hid hyes
  cases r
  · replace bb := Lib.hid (below_then bb.out (Nat.le_refl _) hb)
    clear hb hyes Xa Xb
    go_wp2_with fail
    refine (awake4_any _).mono ?_
    rintro e vz ⟨rfl, hb⟩
    replace bb := Lib.hid (below_then bb.out (Nat.le_refl _) hb)
    clear hb
    go_wp2_with fail
    go_ret
    exact ⟨rfl, bb.out⟩
  obtain ⟨P, Q, la, Ra⟩ := hyes.out (by first | exact rfl | trivial)
  replace la := Lib.hid la; replace Ra := Lib.hid (Ra.below hb)
  clear hyes
  replace bb := Lib.hid (below_then bb.out (Nat.le_refl _) hb); replace Xa := Lib.hid (Xa.out.later hb); replace Xb := Lib.hid (Xb.out.later hb)
  clear hb
  have p00 := Xb.out.c0; have p01 := Xb.out.c1; have p02 := Xb.out.c2
  go_wp2_with fail
  clear p00 p01 p02
  refine (right4_in cb cp cq cn cc cm ce fb gb _ (Ib.out.below bb.out) (Jb.out.below bb.out)).mono ?_
  rintro e v2 ⟨r, rfl, hyes, hno, hb⟩
  clear hno
  replace hyes := Lib.hid hyes
  cases r
  · replace bb := Lib.hid (below_then bb.out (Nat.le_refl _) hb)
    clear hb hyes Xa Xb Ra
    go_wp2_with fail
    refine (awake4_any _).mono ?_
    rintro e vz ⟨rfl, hb⟩
    replace bb := Lib.hid (below_then bb.out (Nat.le_refl _) hb)
    clear hb
    go_wp2_with fail
    go_ret
    exact ⟨rfl, bb.out⟩
  obtain ⟨R, S, lb, Rb⟩ := hyes.out (by first | exact rfl | trivial)
  replace lb := Lib.hid lb; replace Rb := Lib.hid (Rb.below hb)
  clear hyes
  replace bb := Lib.hid (below_then bb.out (Nat.le_refl _) hb); replace Xa := Lib.hid (Xa.out.later hb); replace Xb := Lib.hid (Xb.out.later hb); replace Ra := Lib.hid (Ra.out.below hb)
  clear hb
  go_upto_region 3 with fail
  have p00 := Xa.out.c0; have p01 := Xa.out.c1; have p02 := Xa.out.c2; have p10 := Xb.out.c0; have p11 := Xb.out.c1; have p12 := Xb.out.c2
  go_wp2_with fail
  clear p00 p01 p02 p10 p11 p12
  refine (add4_any ab ap aq an ac am ae P Q cb cp cq cn cc cm ce R S _ Ra.out la.out Rb.out lb.out).mono ?_
  rintro e v3 ⟨z0b, z0p, z0n, z0c, z0q, z0m, z0e, rfl, N0, hb⟩
  replace bb := Lib.hid (below_then bb.out (Nat.le_refl _) hb); replace Xa := Lib.hid (Xa.out.later hb); replace Xb := Lib.hid (Xb.out.later hb); replace Ra := Lib.hid (Ra.out.below hb); replace Rb := Lib.hid (Rb.out.below hb)
  replace N0 := Lib.hid N0
  clear hb
  go_upto_region 4 with fail
  refine gen_wp (fun w' => Below w.heap.size w w' ∧ Box3 w' w.heap.size (.bool ab) (.slice ap an ac) (.slice aq am ae) ∧ Box3 w' (w.heap.size + 1) (.bool cb) (.slice cp cn cc) (.slice cq cm ce) ∧ Box3 w' v3.heap.size (.bool z0b) (.slice z0p z0n z0c) (.slice z0q z0m z0e) ∧ Rt w' ab ap an ac aq am ae P Q ∧ Rt w' cb cp cn cc cq cm ce R S ∧ Rt w' z0b z0p z0n z0c z0q z0m z0e (mkT (P * S + R * Q) ((Q : Int) * S)) (mkB (P * S + R * Q) ((Q : Int) * S)))
    ⟨bb.out.alloc bb.out.size _, Xa.out.alloc _, Xb.out.alloc _, Box3.new _ _ _ _ rfl, Ra.out.alloc _, Rb.out.alloc _, N0.out.alloc _⟩ ?_
  clear bb Xa Xb Ra Rb N0
  rintro x3 ⟨bb, Xa, Xb, X0, Ra, Rb, N0⟩
  replace bb := Lib.hid bb; replace Xa := Lib.hid Xa; replace Xb := Lib.hid Xb; replace X0 := Lib.hid X0; replace Ra := Lib.hid Ra; replace Rb := Lib.hid Rb; replace N0 := Lib.hid N0
  have p00 := Xa.out.c0; have p01 := Xa.out.c1; have p02 := Xa.out.c2; have p10 := Xb.out.c0; have p11 := Xb.out.c1; have p12 := Xb.out.c2
  go_wp2_with fail
  clear p00 p01 p02 p10 p11 p12
  refine (sub4_any ab ap aq an ac am ae P Q cb cp cq cn cc cm ce R S _ Ra.out la.out Rb.out lb.out).mono ?_
  rintro e v4 ⟨z1b, z1p, z1n, z1c, z1q, z1m, z1e, rfl, N1, hb⟩
  replace bb := Lib.hid (below_then bb.out (Nat.le_refl _) hb); replace Xa := Lib.hid (Xa.out.later hb); replace Xb := Lib.hid (Xb.out.later hb); replace X0 := Lib.hid (X0.out.later hb); replace Ra := Lib.hid (Ra.out.below hb); replace Rb := Lib.hid (Rb.out.below hb); replace N0 := Lib.hid (N0.out.below hb)
  replace N1 := Lib.hid N1
  clear hb
  go_upto_region 5 with fail
  refine gen_wp (fun w' => Below w.heap.size w w' ∧ Box3 w' w.heap.size (.bool ab) (.slice ap an ac) (.slice aq am ae) ∧ Box3 w' (w.heap.size + 1) (.bool cb) (.slice cp cn cc) (.slice cq cm ce) ∧ Box3 w' v3.heap.size (.bool z0b) (.slice z0p z0n z0c) (.slice z0q z0m z0e) ∧ Box3 w' v4.heap.size (.bool z1b) (.slice z1p z1n z1c) (.slice z1q z1m z1e) ∧ Rt w' ab ap an ac aq am ae P Q ∧ Rt w' cb cp cn cc cq cm ce R S ∧ Rt w' z0b z0p z0n z0c z0q z0m z0e (mkT (P * S + R * Q) ((Q : Int) * S)) (mkB (P * S + R * Q) ((Q : Int) * S)) ∧ Rt w' z1b z1p z1n z1c z1q z1m z1e (mkT (P * S + -R * Q) ((Q : Int) * S)) (mkB (P * S + -R * Q) ((Q : Int) * S)))
    ⟨bb.out.alloc bb.out.size _, Xa.out.alloc _, Xb.out.alloc _, X0.out.alloc _, Box3.new _ _ _ _ rfl, Ra.out.alloc _, Rb.out.alloc _, N0.out.alloc _, N1.out.alloc _⟩ ?_
  clear bb Xa Xb X0 Ra Rb N0 N1
  rintro x4 ⟨bb, Xa, Xb, X0, X1, Ra, Rb, N0, N1⟩
  replace bb := Lib.hid bb; replace Xa := Lib.hid Xa; replace Xb := Lib.hid Xb; replace X0 := Lib.hid X0; replace X1 := Lib.hid X1; replace Ra := Lib.hid Ra; replace Rb := Lib.hid Rb; replace N0 := Lib.hid N0; replace N1 := Lib.hid N1
  have p00 := Xa.out.c0; have p01 := Xa.out.c1; have p02 := Xa.out.c2; have p10 := Xb.out.c0; have p11 := Xb.out.c1; have p12 := Xb.out.c2
  go_wp2_with fail
  clear p00 p01 p02 p10 p11 p12
  refine (mul4_any ab ap aq an ac am ae P Q cb cp cq cn cc cm ce R S _ Ra.out la.out Rb.out lb.out).mono ?_
  rintro e v5 ⟨z2b, z2p, z2n, z2c, z2q, z2m, z2e, rfl, N2, hb⟩
  replace bb := Lib.hid (below_then bb.out (Nat.le_refl _) hb); replace Xa := Lib.hid (Xa.out.later hb); replace Xb := Lib.hid (Xb.out.later hb); replace X0 := Lib.hid (X0.out.later hb); replace X1 := Lib.hid (X1.out.later hb); replace Ra := Lib.hid (Ra.out.below hb); replace Rb := Lib.hid (Rb.out.below hb); replace N0 := Lib.hid (N0.out.below hb); replace N1 := Lib.hid (N1.out.below hb)
  replace N2 := Lib.hid N2
  clear hb
  go_upto_region 6 with fail
  refine gen_wp (fun w' => Below w.heap.size w w' ∧ Box3 w' w.heap.size (.bool ab) (.slice ap an ac) (.slice aq am ae) ∧ Box3 w' (w.heap.size + 1) (.bool cb) (.slice cp cn cc) (.slice cq cm ce) ∧ Box3 w' v3.heap.size (.bool z0b) (.slice z0p z0n z0c) (.slice z0q z0m z0e) ∧ Box3 w' v4.heap.size (.bool z1b) (.slice z1p z1n z1c) (.slice z1q z1m z1e) ∧ Box3 w' v5.heap.size (.bool z2b) (.slice z2p z2n z2c) (.slice z2q z2m z2e) ∧ Rt w' ab ap an ac aq am ae P Q ∧ Rt w' cb cp cn cc cq cm ce R S ∧ Rt w' z0b z0p z0n z0c z0q z0m z0e (mkT (P * S + R * Q) ((Q : Int) * S)) (mkB (P * S + R * Q) ((Q : Int) * S)) ∧ Rt w' z1b z1p z1n z1c z1q z1m z1e (mkT (P * S + -R * Q) ((Q : Int) * S)) (mkB (P * S + -R * Q) ((Q : Int) * S)) ∧ Rt w' z2b z2p z2n z2c z2q z2m z2e (mkT (P * R) ((Q : Int) * S)) (mkB (P * R) ((Q : Int) * S)))
    ⟨bb.out.alloc bb.out.size _, Xa.out.alloc _, Xb.out.alloc _, X0.out.alloc _, X1.out.alloc _, Box3.new _ _ _ _ rfl, Ra.out.alloc _, Rb.out.alloc _, N0.out.alloc _, N1.out.alloc _, N2.out.alloc _⟩ ?_
  clear bb Xa Xb X0 X1 Ra Rb N0 N1 N2
  rintro x5 ⟨bb, Xa, Xb, X0, X1, X2, Ra, Rb, N0, N1, N2⟩
  replace bb := Lib.hid bb; replace Xa := Lib.hid Xa; replace Xb := Lib.hid Xb; replace X0 := Lib.hid X0; replace X1 := Lib.hid X1; replace X2 := Lib.hid X2; replace Ra := Lib.hid Ra; replace Rb := Lib.hid Rb; replace N0 := Lib.hid N0; replace N1 := Lib.hid N1; replace N2 := Lib.hid N2
  have p00 := Xa.out.c0; have p01 := Xa.out.c1; have p02 := Xa.out.c2; have p10 := Xb.out.c0; have p11 := Xb.out.c1; have p12 := Xb.out.c2
  go_wp2_with fail
  clear p00 p01 p02 p10 p11 p12
  refine (div4_any ab ap aq an ac am ae P Q cb cp cq cn cc cm ce R S _ Ra.out la.out Rb.out lb.out).mono ?_
  rintro e v6 ⟨z3b, z3p, z3n, z3c, z3q, z3m, z3e, rfl, N3, hb⟩
  replace bb := Lib.hid (below_then bb.out (Nat.le_refl _) hb); replace Xa := Lib.hid (Xa.out.later hb); replace Xb := Lib.hid (Xb.out.later hb); replace X0 := Lib.hid (X0.out.later hb); replace X1 := Lib.hid (X1.out.later hb); replace X2 := Lib.hid (X2.out.later hb); replace Ra := Lib.hid (Ra.out.below hb); replace Rb := Lib.hid (Rb.out.below hb); replace N0 := Lib.hid (N0.out.below hb); replace N1 := Lib.hid (N1.out.below hb); replace N2 := Lib.hid (N2.out.below hb)
  replace N3 := Lib.hid N3
  clear hb
  go_upto_region 7 with fail
  refine gen_wp (fun w' => Below w.heap.size w w' ∧ Box3 w' w.heap.size (.bool ab) (.slice ap an ac) (.slice aq am ae) ∧ Box3 w' (w.heap.size + 1) (.bool cb) (.slice cp cn cc) (.slice cq cm ce) ∧ Box3 w' v3.heap.size (.bool z0b) (.slice z0p z0n z0c) (.slice z0q z0m z0e) ∧ Box3 w' v4.heap.size (.bool z1b) (.slice z1p z1n z1c) (.slice z1q z1m z1e) ∧ Box3 w' v5.heap.size (.bool z2b) (.slice z2p z2n z2c) (.slice z2q z2m z2e) ∧ Box3 w' v6.heap.size (.bool z3b) (.slice z3p z3n z3c) (.slice z3q z3m z3e) ∧ Rt w' ab ap an ac aq am ae P Q ∧ Rt w' cb cp cn cc cq cm ce R S ∧ Rt w' z0b z0p z0n z0c z0q z0m z0e (mkT (P * S + R * Q) ((Q : Int) * S)) (mkB (P * S + R * Q) ((Q : Int) * S)) ∧ Rt w' z1b z1p z1n z1c z1q z1m z1e (mkT (P * S + -R * Q) ((Q : Int) * S)) (mkB (P * S + -R * Q) ((Q : Int) * S)) ∧ Rt w' z2b z2p z2n z2c z2q z2m z2e (mkT (P * R) ((Q : Int) * S)) (mkB (P * R) ((Q : Int) * S)) ∧ Rt w' z3b z3p z3n z3c z3q z3m z3e (mkT (P * S) ((Q : Int) * R)) (mkB (P * S) ((Q : Int) * R)))
    ⟨bb.out.alloc bb.out.size _, Xa.out.alloc _, Xb.out.alloc _, X0.out.alloc _, X1.out.alloc _, X2.out.alloc _, Box3.new _ _ _ _ rfl, Ra.out.alloc _, Rb.out.alloc _, N0.out.alloc _, N1.out.alloc _, N2.out.alloc _, N3.out.alloc _⟩ ?_
  clear bb Xa Xb X0 X1 X2 Ra Rb N0 N1 N2 N3
  rintro x6 ⟨bb, Xa, Xb, X0, X1, X2, X3, Ra, Rb, N0, N1, N2, N3⟩
  replace bb := Lib.hid bb; replace Xa := Lib.hid Xa; replace Xb := Lib.hid Xb; replace X0 := Lib.hid X0; replace X1 := Lib.hid X1; replace X2 := Lib.hid X2; replace X3 := Lib.hid X3; replace Ra := Lib.hid Ra; replace Rb := Lib.hid Rb; replace N0 := Lib.hid N0; replace N1 := Lib.hid N1; replace N2 := Lib.hid N2; replace N3 := Lib.hid N3
  have p00 := Xa.out.c0; have p01 := Xa.out.c1; have p02 := Xa.out.c2; have p10 := Xb.out.c0; have p11 := Xb.out.c1; have p12 := Xb.out.c2
  go_wp2_with fail
  clear p00 p01 p02 p10 p11 p12
  refine (rAdd4_any ab ap aq an ac am ae P Q cb cp cq cn cc cm ce R S _ Ra.out la.out Rb.out lb.out).mono ?_
  rintro e v7 ⟨z4b, z4p, z4n, z4c, z4q, z4m, z4e, rfl, N4, hb⟩
  replace bb := Lib.hid (below_then bb.out (Nat.le_refl _) hb); replace Xa := Lib.hid (Xa.out.later hb); replace Xb := Lib.hid (Xb.out.later hb); replace X0 := Lib.hid (X0.out.later hb); replace X1 := Lib.hid (X1.out.later hb); replace X2 := Lib.hid (X2.out.later hb); replace X3 := Lib.hid (X3.out.later hb); replace Ra := Lib.hid (Ra.out.below hb); replace Rb := Lib.hid (Rb.out.below hb); replace N0 := Lib.hid (N0.out.below hb); replace N1 := Lib.hid (N1.out.below hb); replace N2 := Lib.hid (N2.out.below hb); replace N3 := Lib.hid (N3.out.below hb)
  replace N4 := Lib.hid N4
  clear hb
  go_upto_region 8 with fail
  refine gen_wp (fun w' => Below w.heap.size w w' ∧ Box3 w' w.heap.size (.bool ab) (.slice ap an ac) (.slice aq am ae) ∧ Box3 w' (w.heap.size + 1) (.bool cb) (.slice cp cn cc) (.slice cq cm ce) ∧ Box3 w' v3.heap.size (.bool z0b) (.slice z0p z0n z0c) (.slice z0q z0m z0e) ∧ Box3 w' v4.heap.size (.bool z1b) (.slice z1p z1n z1c) (.slice z1q z1m z1e) ∧ Box3 w' v5.heap.size (.bool z2b) (.slice z2p z2n z2c) (.slice z2q z2m z2e) ∧ Box3 w' v6.heap.size (.bool z3b) (.slice z3p z3n z3c) (.slice z3q z3m z3e) ∧ Box3 w' v7.heap.size (.bool z4b) (.slice z4p z4n z4c) (.slice z4q z4m z4e) ∧ Rt w' ab ap an ac aq am ae P Q ∧ Rt w' cb cp cn cc cq cm ce R S ∧ Rt w' z0b z0p z0n z0c z0q z0m z0e (mkT (P * S + R * Q) ((Q : Int) * S)) (mkB (P * S + R * Q) ((Q : Int) * S)) ∧ Rt w' z1b z1p z1n z1c z1q z1m z1e (mkT (P * S + -R * Q) ((Q : Int) * S)) (mkB (P * S + -R * Q) ((Q : Int) * S)) ∧ Rt w' z2b z2p z2n z2c z2q z2m z2e (mkT (P * R) ((Q : Int) * S)) (mkB (P * R) ((Q : Int) * S)) ∧ Rt w' z3b z3p z3n z3c z3q z3m z3e (mkT (P * S) ((Q : Int) * R)) (mkB (P * S) ((Q : Int) * R)) ∧ Rt w' z4b z4p z4n z4c z4q z4m z4e (mkT (P * S + R * Q) ((Q : Int) * S)) (mkB (P * S + R * Q) ((Q : Int) * S)))
    ⟨bb.out.alloc bb.out.size _, Xa.out.alloc _, Xb.out.alloc _, X0.out.alloc _, X1.out.alloc _, X2.out.alloc _, X3.out.alloc _, Box3.new _ _ _ _ rfl, Ra.out.alloc _, Rb.out.alloc _, N0.out.alloc _, N1.out.alloc _, N2.out.alloc _, N3.out.alloc _, N4.out.alloc _⟩ ?_
  clear bb Xa Xb X0 X1 X2 X3 Ra Rb N0 N1 N2 N3 N4
  rintro x7 ⟨bb, Xa, Xb, X0, X1, X2, X3, X4, Ra, Rb, N0, N1, N2, N3, N4⟩
  replace bb := Lib.hid bb; replace Xa := Lib.hid Xa; replace Xb := Lib.hid Xb; replace X0 := Lib.hid X0; replace X1 := Lib.hid X1; replace X2 := Lib.hid X2; replace X3 := Lib.hid X3; replace X4 := Lib.hid X4; replace Ra := Lib.hid Ra; replace Rb := Lib.hid Rb; replace N0 := Lib.hid N0; replace N1 := Lib.hid N1; replace N2 := Lib.hid N2; replace N3 := Lib.hid N3; replace N4 := Lib.hid N4
  have p00 := Xa.out.c0; have p01 := Xa.out.c1; have p02 := Xa.out.c2; have p10 := Xb.out.c0; have p11 := Xb.out.c1; have p12 := Xb.out.c2
  go_wp2_with fail
  clear p00 p01 p02 p10 p11 p12
  refine (rSub4_any ab ap aq an ac am ae P Q cb cp cq cn cc cm ce R S _ Ra.out la.out Rb.out lb.out).mono ?_
  rintro e v8 ⟨z5b, z5p, z5n, z5c, z5q, z5m, z5e, rfl, N5, hb⟩
  replace bb := Lib.hid (below_then bb.out (Nat.le_refl _) hb); replace Xa := Lib.hid (Xa.out.later hb); replace Xb := Lib.hid (Xb.out.later hb); replace X0 := Lib.hid (X0.out.later hb); replace X1 := Lib.hid (X1.out.later hb); replace X2 := Lib.hid (X2.out.later hb); replace X3 := Lib.hid (X3.out.later hb); replace X4 := Lib.hid (X4.out.later hb); replace Ra := Lib.hid (Ra.out.below hb); replace Rb := Lib.hid (Rb.out.below hb); replace N0 := Lib.hid (N0.out.below hb); replace N1 := Lib.hid (N1.out.below hb); replace N2 := Lib.hid (N2.out.below hb); replace N3 := Lib.hid (N3.out.below hb); replace N4 := Lib.hid (N4.out.below hb)
  replace N5 := Lib.hid N5
  clear hb
  go_upto_region 9 with fail
  refine gen_wp (fun w' => Below w.heap.size w w' ∧ Box3 w' w.heap.size (.bool ab) (.slice ap an ac) (.slice aq am ae) ∧ Box3 w' (w.heap.size + 1) (.bool cb) (.slice cp cn cc) (.slice cq cm ce) ∧ Box3 w' v3.heap.size (.bool z0b) (.slice z0p z0n z0c) (.slice z0q z0m z0e) ∧ Box3 w' v4.heap.size (.bool z1b) (.slice z1p z1n z1c) (.slice z1q z1m z1e) ∧ Box3 w' v5.heap.size (.bool z2b) (.slice z2p z2n z2c) (.slice z2q z2m z2e) ∧ Box3 w' v6.heap.size (.bool z3b) (.slice z3p z3n z3c) (.slice z3q z3m z3e) ∧ Box3 w' v7.heap.size (.bool z4b) (.slice z4p z4n z4c) (.slice z4q z4m z4e) ∧ Box3 w' v8.heap.size (.bool z5b) (.slice z5p z5n z5c) (.slice z5q z5m z5e) ∧ Rt w' ab ap an ac aq am ae P Q ∧ Rt w' cb cp cn cc cq cm ce R S ∧ Rt w' z0b z0p z0n z0c z0q z0m z0e (mkT (P * S + R * Q) ((Q : Int) * S)) (mkB (P * S + R * Q) ((Q : Int) * S)) ∧ Rt w' z1b z1p z1n z1c z1q z1m z1e (mkT (P * S + -R * Q) ((Q : Int) * S)) (mkB (P * S + -R * Q) ((Q : Int) * S)) ∧ Rt w' z2b z2p z2n z2c z2q z2m z2e (mkT (P * R) ((Q : Int) * S)) (mkB (P * R) ((Q : Int) * S)) ∧ Rt w' z3b z3p z3n z3c z3q z3m z3e (mkT (P * S) ((Q : Int) * R)) (mkB (P * S) ((Q : Int) * R)) ∧ Rt w' z4b z4p z4n z4c z4q z4m z4e (mkT (P * S + R * Q) ((Q : Int) * S)) (mkB (P * S + R * Q) ((Q : Int) * S)) ∧ Rt w' z5b z5p z5n z5c z5q z5m z5e (mkT (P * S + -R * Q) ((Q : Int) * S)) (mkB (P * S + -R * Q) ((Q : Int) * S)))
    ⟨bb.out.alloc bb.out.size _, Xa.out.alloc _, Xb.out.alloc _, X0.out.alloc _, X1.out.alloc _, X2.out.alloc _, X3.out.alloc _, X4.out.alloc _, Box3.new _ _ _ _ rfl, Ra.out.alloc _, Rb.out.alloc _, N0.out.alloc _, N1.out.alloc _, N2.out.alloc _, N3.out.alloc _, N4.out.alloc _, N5.out.alloc _⟩ ?_
  clear bb Xa Xb X0 X1 X2 X3 X4 Ra Rb N0 N1 N2 N3 N4 N5
  rintro x8 ⟨bb, Xa, Xb, X0, X1, X2, X3, X4, X5, Ra, Rb, N0, N1, N2, N3, N4, N5⟩
  replace bb := Lib.hid bb; replace Xa := Lib.hid Xa; replace Xb := Lib.hid Xb; replace X0 := Lib.hid X0; replace X1 := Lib.hid X1; replace X2 := Lib.hid X2; replace X3 := Lib.hid X3; replace X4 := Lib.hid X4; replace X5 := Lib.hid X5; replace Ra := Lib.hid Ra; replace Rb := Lib.hid Rb; replace N0 := Lib.hid N0; replace N1 := Lib.hid N1; replace N2 := Lib.hid N2; replace N3 := Lib.hid N3; replace N4 := Lib.hid N4; replace N5 := Lib.hid N5
  have p00 := Xa.out.c0; have p01 := Xa.out.c1; have p02 := Xa.out.c2; have p10 := Xb.out.c0; have p11 := Xb.out.c1; have p12 := Xb.out.c2
  go_wp2_with fail
  clear p00 p01 p02 p10 p11 p12
  refine (rMul4_any ab ap aq an ac am ae P Q cb cp cq cn cc cm ce R S _ Ra.out la.out Rb.out lb.out).mono ?_
  rintro e v9 ⟨z6b, z6p, z6n, z6c, z6q, z6m, z6e, rfl, N6, hb⟩
  replace bb := Lib.hid (below_then bb.out (Nat.le_refl _) hb); replace Xa := Lib.hid (Xa.out.later hb); replace Xb := Lib.hid (Xb.out.later hb); replace X0 := Lib.hid (X0.out.later hb); replace X1 := Lib.hid (X1.out.later hb); replace X2 := Lib.hid (X2.out.later hb); replace X3 := Lib.hid (X3.out.later hb); replace X4 := Lib.hid (X4.out.later hb); replace X5 := Lib.hid (X5.out.later hb); replace Ra := Lib.hid (Ra.out.below hb); replace Rb := Lib.hid (Rb.out.below hb); replace N0 := Lib.hid (N0.out.below hb); replace N1 := Lib.hid (N1.out.below hb); replace N2 := Lib.hid (N2.out.below hb); replace N3 := Lib.hid (N3.out.below hb); replace N4 := Lib.hid (N4.out.below hb); replace N5 := Lib.hid (N5.out.below hb)
  replace N6 := Lib.hid N6
  clear hb
  go_upto_region 10 with fail
  refine gen_wp (fun w' => Below w.heap.size w w' ∧ Box3 w' w.heap.size (.bool ab) (.slice ap an ac) (.slice aq am ae) ∧ Box3 w' (w.heap.size + 1) (.bool cb) (.slice cp cn cc) (.slice cq cm ce) ∧ Box3 w' v3.heap.size (.bool z0b) (.slice z0p z0n z0c) (.slice z0q z0m z0e) ∧ Box3 w' v4.heap.size (.bool z1b) (.slice z1p z1n z1c) (.slice z1q z1m z1e) ∧ Box3 w' v5.heap.size (.bool z2b) (.slice z2p z2n z2c) (.slice z2q z2m z2e) ∧ Box3 w' v6.heap.size (.bool z3b) (.slice z3p z3n z3c) (.slice z3q z3m z3e) ∧ Box3 w' v7.heap.size (.bool z4b) (.slice z4p z4n z4c) (.slice z4q z4m z4e) ∧ Box3 w' v8.heap.size (.bool z5b) (.slice z5p z5n z5c) (.slice z5q z5m z5e) ∧ Box3 w' v9.heap.size (.bool z6b) (.slice z6p z6n z6c) (.slice z6q z6m z6e) ∧ Rt w' ab ap an ac aq am ae P Q ∧ Rt w' cb cp cn cc cq cm ce R S ∧ Rt w' z0b z0p z0n z0c z0q z0m z0e (mkT (P * S + R * Q) ((Q : Int) * S)) (mkB (P * S + R * Q) ((Q : Int) * S)) ∧ Rt w' z1b z1p z1n z1c z1q z1m z1e (mkT (P * S + -R * Q) ((Q : Int) * S)) (mkB (P * S + -R * Q) ((Q : Int) * S)) ∧ Rt w' z2b z2p z2n z2c z2q z2m z2e (mkT (P * R) ((Q : Int) * S)) (mkB (P * R) ((Q : Int) * S)) ∧ Rt w' z3b z3p z3n z3c z3q z3m z3e (mkT (P * S) ((Q : Int) * R)) (mkB (P * S) ((Q : Int) * R)) ∧ Rt w' z4b z4p z4n z4c z4q z4m z4e (mkT (P * S + R * Q) ((Q : Int) * S)) (mkB (P * S + R * Q) ((Q : Int) * S)) ∧ Rt w' z5b z5p z5n z5c z5q z5m z5e (mkT (P * S + -R * Q) ((Q : Int) * S)) (mkB (P * S + -R * Q) ((Q : Int) * S)) ∧ Rt w' z6b z6p z6n z6c z6q z6m z6e (mkT (P * R) ((Q : Int) * S)) (mkB (P * R) ((Q : Int) * S)))
    ⟨bb.out.alloc bb.out.size _, Xa.out.alloc _, Xb.out.alloc _, X0.out.alloc _, X1.out.alloc _, X2.out.alloc _, X3.out.alloc _, X4.out.alloc _, X5.out.alloc _, Box3.new _ _ _ _ rfl, Ra.out.alloc _, Rb.out.alloc _, N0.out.alloc _, N1.out.alloc _, N2.out.alloc _, N3.out.alloc _, N4.out.alloc _, N5.out.alloc _, N6.out.alloc _⟩ ?_
  clear bb Xa Xb X0 X1 X2 X3 X4 X5 Ra Rb N0 N1 N2 N3 N4 N5 N6
  rintro x9 ⟨bb, Xa, Xb, X0, X1, X2, X3, X4, X5, X6, Ra, Rb, N0, N1, N2, N3, N4, N5, N6⟩
  replace bb := Lib.hid bb; replace Xa := Lib.hid Xa; replace Xb := Lib.hid Xb; replace X0 := Lib.hid X0; replace X1 := Lib.hid X1; replace X2 := Lib.hid X2; replace X3 := Lib.hid X3; replace X4 := Lib.hid X4; replace X5 := Lib.hid X5; replace X6 := Lib.hid X6; replace Ra := Lib.hid Ra; replace Rb := Lib.hid Rb; replace N0 := Lib.hid N0; replace N1 := Lib.hid N1; replace N2 := Lib.hid N2; replace N3 := Lib.hid N3; replace N4 := Lib.hid N4; replace N5 := Lib.hid N5; replace N6 := Lib.hid N6
  have p00 := Xa.out.c0; have p01 := Xa.out.c1; have p02 := Xa.out.c2; have p10 := Xb.out.c0; have p11 := Xb.out.c1; have p12 := Xb.out.c2
  go_wp2_with fail
  clear p00 p01 p02 p10 p11 p12
  refine (rDiv4_any ab ap aq an ac am ae P Q cb cp cq cn cc cm ce R S _ Ra.out la.out Rb.out lb.out).mono ?_
  rintro e v10 ⟨z7b, z7p, z7n, z7c, z7q, z7m, z7e, rfl, N7, hb⟩
  replace bb := Lib.hid (below_then bb.out (Nat.le_refl _) hb); replace Xa := Lib.hid (Xa.out.later hb); replace Xb := Lib.hid (Xb.out.later hb); replace X0 := Lib.hid (X0.out.later hb); replace X1 := Lib.hid (X1.out.later hb); replace X2 := Lib.hid (X2.out.later hb); replace X3 := Lib.hid (X3.out.later hb); replace X4 := Lib.hid (X4.out.later hb); replace X5 := Lib.hid (X5.out.later hb); replace X6 := Lib.hid (X6.out.later hb); replace Ra := Lib.hid (Ra.out.below hb); replace Rb := Lib.hid (Rb.out.below hb); replace N0 := Lib.hid (N0.out.below hb); replace N1 := Lib.hid (N1.out.below hb); replace N2 := Lib.hid (N2.out.below hb); replace N3 := Lib.hid (N3.out.below hb); replace N4 := Lib.hid (N4.out.below hb); replace N5 := Lib.hid (N5.out.below hb); replace N6 := Lib.hid (N6.out.below hb)
  replace N7 := Lib.hid N7
  clear hb
  go_upto_region 11 with fail
  refine gen_wp (fun w' => Below w.heap.size w w' ∧ Box3 w' w.heap.size (.bool ab) (.slice ap an ac) (.slice aq am ae) ∧ Box3 w' (w.heap.size + 1) (.bool cb) (.slice cp cn cc) (.slice cq cm ce) ∧ Box3 w' v3.heap.size (.bool z0b) (.slice z0p z0n z0c) (.slice z0q z0m z0e) ∧ Box3 w' v4.heap.size (.bool z1b) (.slice z1p z1n z1c) (.slice z1q z1m z1e) ∧ Box3 w' v5.heap.size (.bool z2b) (.slice z2p z2n z2c) (.slice z2q z2m z2e) ∧ Box3 w' v6.heap.size (.bool z3b) (.slice z3p z3n z3c) (.slice z3q z3m z3e) ∧ Box3 w' v7.heap.size (.bool z4b) (.slice z4p z4n z4c) (.slice z4q z4m z4e) ∧ Box3 w' v8.heap.size (.bool z5b) (.slice z5p z5n z5c) (.slice z5q z5m z5e) ∧ Box3 w' v9.heap.size (.bool z6b) (.slice z6p z6n z6c) (.slice z6q z6m z6e) ∧ Box3 w' v10.heap.size (.bool z7b) (.slice z7p z7n z7c) (.slice z7q z7m z7e) ∧ Rt w' ab ap an ac aq am ae P Q ∧ Rt w' cb cp cn cc cq cm ce R S ∧ Rt w' z0b z0p z0n z0c z0q z0m z0e (mkT (P * S + R * Q) ((Q : Int) * S)) (mkB (P * S + R * Q) ((Q : Int) * S)) ∧ Rt w' z1b z1p z1n z1c z1q z1m z1e (mkT (P * S + -R * Q) ((Q : Int) * S)) (mkB (P * S + -R * Q) ((Q : Int) * S)) ∧ Rt w' z2b z2p z2n z2c z2q z2m z2e (mkT (P * R) ((Q : Int) * S)) (mkB (P * R) ((Q : Int) * S)) ∧ Rt w' z3b z3p z3n z3c z3q z3m z3e (mkT (P * S) ((Q : Int) * R)) (mkB (P * S) ((Q : Int) * R)) ∧ Rt w' z4b z4p z4n z4c z4q z4m z4e (mkT (P * S + R * Q) ((Q : Int) * S)) (mkB (P * S + R * Q) ((Q : Int) * S)) ∧ Rt w' z5b z5p z5n z5c z5q z5m z5e (mkT (P * S + -R * Q) ((Q : Int) * S)) (mkB (P * S + -R * Q) ((Q : Int) * S)) ∧ Rt w' z6b z6p z6n z6c z6q z6m z6e (mkT (P * R) ((Q : Int) * S)) (mkB (P * R) ((Q : Int) * S)) ∧ Rt w' z7b z7p z7n z7c z7q z7m z7e (mkT (P * S) ((Q : Int) * R)) (mkB (P * S) ((Q : Int) * R)))
    ⟨bb.out.alloc bb.out.size _, Xa.out.alloc _, Xb.out.alloc _, X0.out.alloc _, X1.out.alloc _, X2.out.alloc _, X3.out.alloc _, X4.out.alloc _, X5.out.alloc _, X6.out.alloc _, Box3.new _ _ _ _ rfl, Ra.out.alloc _, Rb.out.alloc _, N0.out.alloc _, N1.out.alloc _, N2.out.alloc _, N3.out.alloc _, N4.out.alloc _, N5.out.alloc _, N6.out.alloc _, N7.out.alloc _⟩ ?_
  clear bb Xa Xb X0 X1 X2 X3 X4 X5 X6 Ra Rb N0 N1 N2 N3 N4 N5 N6 N7
  rintro x10 ⟨bb, Xa, Xb, X0, X1, X2, X3, X4, X5, X6, X7, Ra, Rb, N0, N1, N2, N3, N4, N5, N6, N7⟩
  replace bb := Lib.hid bb; replace Xa := Lib.hid Xa; replace Xb := Lib.hid Xb; replace X0 := Lib.hid X0; replace X1 := Lib.hid X1; replace X2 := Lib.hid X2; replace X3 := Lib.hid X3; replace X4 := Lib.hid X4; replace X5 := Lib.hid X5; replace X6 := Lib.hid X6; replace X7 := Lib.hid X7; replace Ra := Lib.hid Ra; replace Rb := Lib.hid Rb; replace N0 := Lib.hid N0; replace N1 := Lib.hid N1; replace N2 := Lib.hid N2; replace N3 := Lib.hid N3; replace N4 := Lib.hid N4; replace N5 := Lib.hid N5; replace N6 := Lib.hid N6; replace N7 := Lib.hid N7
  replace bb := bb.out; replace Xa := Xa.out; replace Xb := Xb.out; replace X0 := X0.out; replace X1 := X1.out; replace X2 := X2.out; replace X3 := X3.out; replace X4 := X4.out; replace X5 := X5.out; replace X6 := X6.out; replace X7 := X7.out; replace Ra := Ra.out; replace Rb := Rb.out; replace N0 := N0.out; replace N1 := N1.out; replace N2 := N2.out; replace N3 := N3.out; replace N4 := N4.out; replace N5 := N5.out; replace N6 := N6.out; replace N7 := N7.out
  replace bb := bb.drew; replace Xa := Xa.drew; replace Xb := Xb.drew; replace X0 := X0.drew; replace X1 := X1.drew; replace X2 := X2.drew; replace X3 := X3.drew; replace X4 := X4.drew; replace X5 := X5.drew; replace X6 := X6.drew; replace X7 := X7.drew; replace Ra := Ra.drew; replace Rb := Rb.drew; replace N0 := N0.drew; replace N1 := N1.drew; replace N2 := N2.drew; replace N3 := N3.drew; replace N4 := N4.drew; replace N5 := N5.drew; replace N6 := N6.drew; replace N7 := N7.drew
  have sa0 := True.intro
  go_region_held3 (fun w' => w'.cell? ⟨w.heap.size, 0, none⟩ = some (.bool ab) ∧ w'.cell? ⟨w.heap.size, 1, none⟩ = some (.slice ap an ac) ∧ w'.cell? ⟨w.heap.size, 2, none⟩ = some (.slice aq am ae) ∧ w'.cell? ⟨(w.heap.size + 1), 0, none⟩ = some (.bool cb) ∧ w'.cell? ⟨(w.heap.size + 1), 1, none⟩ = some (.slice cp cn cc) ∧ w'.cell? ⟨(w.heap.size + 1), 2, none⟩ = some (.slice cq cm ce) ∧ w'.cell? ⟨v3.heap.size, 0, none⟩ = some (.bool z0b) ∧ w'.cell? ⟨v3.heap.size, 1, none⟩ = some (.slice z0p z0n z0c) ∧ w'.cell? ⟨v3.heap.size, 2, none⟩ = some (.slice z0q z0m z0e) ∧ w'.cell? ⟨v4.heap.size, 0, none⟩ = some (.bool z1b) ∧ w'.cell? ⟨v4.heap.size, 1, none⟩ = some (.slice z1p z1n z1c) ∧ w'.cell? ⟨v4.heap.size, 2, none⟩ = some (.slice z1q z1m z1e) ∧ w'.cell? ⟨v5.heap.size, 0, none⟩ = some (.bool z2b) ∧ w'.cell? ⟨v5.heap.size, 1, none⟩ = some (.slice z2p z2n z2c) ∧ w'.cell? ⟨v5.heap.size, 2, none⟩ = some (.slice z2q z2m z2e) ∧ w'.cell? ⟨v6.heap.size, 0, none⟩ = some (.bool z3b) ∧ w'.cell? ⟨v6.heap.size, 1, none⟩ = some (.slice z3p z3n z3c) ∧ w'.cell? ⟨v6.heap.size, 2, none⟩ = some (.slice z3q z3m z3e) ∧ w'.cell? ⟨v7.heap.size, 0, none⟩ = some (.bool z4b) ∧ w'.cell? ⟨v7.heap.size, 1, none⟩ = some (.slice z4p z4n z4c) ∧ w'.cell? ⟨v7.heap.size, 2, none⟩ = some (.slice z4q z4m z4e) ∧ w'.cell? ⟨v8.heap.size, 0, none⟩ = some (.bool z5b) ∧ w'.cell? ⟨v8.heap.size, 1, none⟩ = some (.slice z5p z5n z5c) ∧ w'.cell? ⟨v8.heap.size, 2, none⟩ = some (.slice z5q z5m z5e) ∧ w'.cell? ⟨v9.heap.size, 0, none⟩ = some (.bool z6b) ∧ w'.cell? ⟨v9.heap.size, 1, none⟩ = some (.slice z6p z6n z6c) ∧ w'.cell? ⟨v9.heap.size, 2, none⟩ = some (.slice z6q z6m z6e) ∧ w'.cell? ⟨v10.heap.size, 0, none⟩ = some (.bool z7b) ∧ w'.cell? ⟨v10.heap.size, 1, none⟩ = some (.slice z7p z7n z7c) ∧ w'.cell? ⟨v10.heap.size, 2, none⟩ = some (.slice z7q z7m z7e))
    (first | with_reducible exact ⟨Xa.c0, Xa.c1, Xa.c2, Xb.c0, Xb.c1, Xb.c2, X0.c0, X0.c1, X0.c2, X1.c0, X1.c1, X1.c2, X2.c0, X2.c1, X2.c2, X3.c0, X3.c1, X3.c2, X4.c0, X4.c1, X4.c2, X5.c0, X5.c1, X5.c2, X6.c0, X6.c1, X6.c2, X7.c0, X7.c1, X7.c2⟩ | go_keep)
    (first
    | (go_at_call 18; clear sa0; refine (alike_any z0b z0p z0q z0n z0c z0m z0e _ _ z4b z4p z4q z4n z4c z4m z4e _ _ N0 N4).mono ?_; rintro e w' ⟨rfl, hb⟩; have bb := below_then bb (Nat.le_refl _) hb; have Xa := Xa.later hb; have Xb := Xb.later hb; have X0 := X0.later hb; have X1 := X1.later hb; have X2 := X2.later hb; have X3 := X3.later hb; have X4 := X4.later hb; have X5 := X5.later hb; have X6 := X6.later hb; have X7 := X7.later hb; have Ra := Ra.below hb; have Rb := Rb.below hb; have N0 := N0.below hb; have N1 := N1.below hb; have N2 := N2.below hb; have N3 := N3.below hb; have N4 := N4.below hb; have N5 := N5.below hb; have N6 := N6.below hb; have N7 := N7.below hb; clear hb; have sa1 := True.intro)
    | (go_at_call 18; clear sa1; refine (alike_any z1b z1p z1q z1n z1c z1m z1e _ _ z5b z5p z5q z5n z5c z5m z5e _ _ N1 N5).mono ?_; rintro e w' ⟨rfl, hb⟩; have bb := below_then bb (Nat.le_refl _) hb; have Xa := Xa.later hb; have Xb := Xb.later hb; have X0 := X0.later hb; have X1 := X1.later hb; have X2 := X2.later hb; have X3 := X3.later hb; have X4 := X4.later hb; have X5 := X5.later hb; have X6 := X6.later hb; have X7 := X7.later hb; have Ra := Ra.below hb; have Rb := Rb.below hb; have N0 := N0.below hb; have N1 := N1.below hb; have N2 := N2.below hb; have N3 := N3.below hb; have N4 := N4.below hb; have N5 := N5.below hb; have N6 := N6.below hb; have N7 := N7.below hb; clear hb; have sa2 := True.intro)
    | (go_at_call 18; clear sa2; refine (alike_any z2b z2p z2q z2n z2c z2m z2e _ _ z6b z6p z6q z6n z6c z6m z6e _ _ N2 N6).mono ?_; rintro e w' ⟨rfl, hb⟩; have bb := below_then bb (Nat.le_refl _) hb; have Xa := Xa.later hb; have Xb := Xb.later hb; have X0 := X0.later hb; have X1 := X1.later hb; have X2 := X2.later hb; have X3 := X3.later hb; have X4 := X4.later hb; have X5 := X5.later hb; have X6 := X6.later hb; have X7 := X7.later hb; have Ra := Ra.below hb; have Rb := Rb.below hb; have N0 := N0.below hb; have N1 := N1.below hb; have N2 := N2.below hb; have N3 := N3.below hb; have N4 := N4.below hb; have N5 := N5.below hb; have N6 := N6.below hb; have N7 := N7.below hb; clear hb; have sa3 := True.intro)
    | (go_at_call 18; clear sa3; refine (alike_any z3b z3p z3q z3n z3c z3m z3e _ _ z7b z7p z7q z7n z7c z7m z7e _ _ N3 N7).mono ?_; rintro e w' ⟨rfl, hb⟩; have bb := below_then bb (Nat.le_refl _) hb; have Xa := Xa.later hb; have Xb := Xb.later hb; have X0 := X0.later hb; have X1 := X1.later hb; have X2 := X2.later hb; have X3 := X3.later hb; have X4 := X4.later hb; have X5 := X5.later hb; have X6 := X6.later hb; have X7 := X7.later hb; have Ra := Ra.below hb; have Rb := Rb.below hb; have N0 := N0.below hb; have N1 := N1.below hb; have N2 := N2.below hb; have N3 := N3.below hb; have N4 := N4.below hb; have N5 := N5.below hb; have N6 := N6.below hb; have N7 := N7.below hb; clear hb; have sa4 := True.intro)
    | (go_at_call 19; clear sa4; refine (cmp4_any ab ap aq an ac am ae P Q cb cp cq cn cc cm ce R S _ Ra la.out Rb lb.out).mono ?_; rintro e w' ⟨rfl, hb⟩; have bb := below_then bb (Nat.le_refl _) hb; have Xa := Xa.later hb; have Xb := Xb.later hb; have X0 := X0.later hb; have X1 := X1.later hb; have X2 := X2.later hb; have X3 := X3.later hb; have X4 := X4.later hb; have X5 := X5.later hb; have X6 := X6.later hb; have X7 := X7.later hb; have Ra := Ra.below hb; have Rb := Rb.below hb; have N0 := N0.below hb; have N1 := N1.below hb; have N2 := N2.below hb; have N3 := N3.below hb; have N4 := N4.below hb; have N5 := N5.below hb; have N6 := N6.below hb; have N7 := N7.below hb; clear hb; have sa5 := True.intro)
    | (go_at_call 20; clear sa5; refine (rCmp4_any ab ap aq an ac am ae P Q cb cp cq cn cc cm ce R S _ Ra la.out Rb lb.out).mono ?_; rintro e w' ⟨rfl, hb⟩; have bb := below_then bb (Nat.le_refl _) hb; have Xa := Xa.later hb; have Xb := Xb.later hb; have X0 := X0.later hb; have X1 := X1.later hb; have X2 := X2.later hb; have X3 := X3.later hb; have X4 := X4.later hb; have X5 := X5.later hb; have X6 := X6.later hb; have X7 := X7.later hb; have Ra := Ra.below hb; have Rb := Rb.below hb; have N0 := N0.below hb; have N1 := N1.below hb; have N2 := N2.below hb; have N3 := N3.below hb; have N4 := N4.below hb; have N5 := N5.below hb; have N6 := N6.below hb; have N7 := N7.below hb; clear hb; have sa6 := True.intro)
    | (go_at_call 21; clear sa6; refine (sign_any ab ap aq an ac am ae P Q _ Ra la.out).mono ?_; rintro e w' ⟨rfl, hb⟩; have bb := below_then bb (Nat.le_refl _) hb; have Xa := Xa.later hb; have Xb := Xb.later hb; have X0 := X0.later hb; have X1 := X1.later hb; have X2 := X2.later hb; have X3 := X3.later hb; have X4 := X4.later hb; have X5 := X5.later hb; have X6 := X6.later hb; have X7 := X7.later hb; have Ra := Ra.below hb; have Rb := Rb.below hb; have N0 := N0.below hb; have N1 := N1.below hb; have N2 := N2.below hb; have N3 := N3.below hb; have N4 := N4.below hb; have N5 := N5.below hb; have N6 := N6.below hb; have N7 := N7.below hb; clear hb; have sa7 := True.intro)
    | (go_at_call 22; clear sa7; refine (of4_any 0 _ (by decide) (by decide)).mono ?_; rintro e w' ⟨yb, yp, yn, yc, yq, ym, ye, rfl, Ny, hb⟩; have bb := below_then bb (Nat.le_refl _) hb; have Xa := Xa.later hb; have Xb := Xb.later hb; have X0 := X0.later hb; have X1 := X1.later hb; have X2 := X2.later hb; have X3 := X3.later hb; have X4 := X4.later hb; have X5 := X5.later hb; have X6 := X6.later hb; have X7 := X7.later hb; have Ra := Ra.below hb; have Rb := Rb.below hb; have N0 := N0.below hb; have N1 := N1.below hb; have N2 := N2.below hb; have N3 := N3.below hb; have N4 := N4.below hb; have N5 := N5.below hb; have N6 := N6.below hb; have N7 := N7.below hb; clear hb; have sa8 := True.intro)
    | (go_at_call 20; clear sa8; refine ((rCmp4_any ab ap aq an ac am ae P Q yb yp yq yn yc ym ye 0 1 _ Ra la.out Ny (low_one (int_32 (by decide) (by decide)))).mono fun _ _ => cmp_zero).mono ?_; rintro e w' ⟨rfl, hb⟩; have bb := below_then bb (Nat.le_refl _) hb; have Xa := Xa.later hb; have Xb := Xb.later hb; have X0 := X0.later hb; have X1 := X1.later hb; have X2 := X2.later hb; have X3 := X3.later hb; have X4 := X4.later hb; have X5 := X5.later hb; have X6 := X6.later hb; have X7 := X7.later hb; have Ra := Ra.below hb; have Rb := Rb.below hb; have N0 := N0.below hb; have N1 := N1.below hb; have N2 := N2.below hb; have N3 := N3.below hb; have N4 := N4.below hb; have N5 := N5.below hb; have N6 := N6.below hb; have N7 := N7.below hb; have Ny := Ny.below hb; clear hb; have sa9 := True.intro)
    | (go_at_call 9; clear sa9; refine (awake4_any _).mono ?_; rintro e w' ⟨rfl, hb⟩; have bb := below_then bb (Nat.le_refl _) hb; have Xa := Xa.later hb; have Xb := Xb.later hb; have X0 := X0.later hb; have X1 := X1.later hb; have X2 := X2.later hb; have X3 := X3.later hb; have X4 := X4.later hb; have X5 := X5.later hb; have X6 := X6.later hb; have X7 := X7.later hb; have Ra := Ra.below hb; have Rb := Rb.below hb; have N0 := N0.below hb; have N1 := N1.below hb; have N2 := N2.below hb; have N3 := N3.below hb; have N4 := N4.below hb; have N5 := N5.below hb; have N6 := N6.below hb; have N7 := N7.below hb; have Ny := Ny.below hb; clear hb; have sa10 := True.intro))
  clear Xa Xb X0 X1 X2 X3 X4 X5 X6 X7 Ra Rb N0 N1 N2 N3 N4 N5 N6 N7
  replace bb := Lib.hid bb
  go_wp2_with fail
  go_ret
  exact ⟨rfl, bb.out⟩

end Go.Proofs.Ytnnipciifjpooaa
