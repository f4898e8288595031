/-
  scrimlaw04.RatioRounds, walked.
-/
import Derived.Test.YtnnipciifjpooaaQl
import Derived.Test.YtnnipciifjpooaaQj
namespace Go.Proofs.Ytnnipciifjpooaa
open Go.RowKit Num

attribute [local go_sem ↓] Go.wp_at_zero Go.wp_at_succ

theorem Right.size {w : World} {b : Bool} {ao : Option Addr} {n nc : Nat} {x : Int} (h : Right w b ao n nc x) : Right w false ao n nc x.natAbs := by
  obtain ⟨f, h1, h2, h3, h4, _⟩ := h.ex
  exact ⟨f, h1, h2, h3, by rw [Int.natAbs_natCast]; exact h4, by simp⟩
theorem Rt.size {w : World} {b : Bool} {ao bo : Option Addr} {n nc m mc Q : Nat} {P : Int} (h : Rt w b ao n nc bo m mc P Q) : Rt w false ao n nc bo m mc P.natAbs Q := ⟨h.top.size, h.bot⟩

set_option maxRecDepth 20000 in
set_option maxHeartbeats 8000000 in
theorem rounds4_walk (ab : Bool) (ap aq : Option Addr) (an ac am ae : Nat) (fa ga : Nat → Nat) (cb : Bool) (cp cq : Option Addr) (cn cc cm ce : Nat) (fb gb : Nat → Nat) (w : World) (Ia : In w ap an ac fa) (Ja : In w aq am ae ga) (Ib : In w cp cn cc fb) (Jb : In w cq cm ce gb) :
    Calls Try.prog 4 #[.agg #[.bool ab, .slice ap an ac, .slice aq am ae], .agg #[.bool cb, .slice cp cn cc, .slice cq cm ce]] w (Says (.bool true) w) := by
  replace Ia := Lib.hid Ia; replace Ja := Lib.hid Ja; replace Ib := Lib.hid Ib; replace Jb := Lib.hid Jb
  go_enter Try.func4, Try.ntmps4
  go_upto_region 1 with fail
  refine gen_wp (fun w' => Below w.heap.size w w' ∧ Box3 w' w.heap.size (.bool ab) (.slice ap an ac) (.slice aq am ae) ∧ Box3 w' (w.heap.size + 1) (.bool cb) (.slice cp cn cc) (.slice cq cm ce))
    ⟨(((Below.refl _ _).alloc (Nat.le_refl _) _).alloc (by first | (simp; done) | (simp; omega)) _), ((Box3.new _ _ _ _ rfl).alloc _), (Box3.new _ _ _ _ (by first | (simp; done) | (simp; omega)))⟩ ?_
  rintro w0 ⟨bb, Xa, Xb⟩
  replace bb := Lib.hid bb; replace Xa := Lib.hid Xa; replace Xb := Lib.hid Xb
  have p00 := Xa.out.c0; have p01 := Xa.out.c1; have p02 := Xa.out.c2
  go_wp2_with fail
  clear p00 p01 p02
  refine (right4_in ab ap aq an ac am ae fa ga _ (Ia.out.below bb.out) (Ja.out.below bb.out)).mono ?_
  rintro e v1 ⟨r, rfl, hyes, hno, hb⟩
  clear hno
  replace hyes := Lib.hid hyes
  cases r
  · replace bb := Lib.hid (below_then bb.out (Nat.le_refl _) hb)
    clear hb hyes Xa Xb
    go_wp2_with fail
    refine (awake4_any _).mono ?_
    rintro e vz ⟨rfl, hb⟩
    replace bb := Lib.hid (below_then bb.out (Nat.le_refl _) hb)
    clear hb
    go_wp2_with fail
    go_ret
    exact ⟨rfl, bb.out⟩
  obtain ⟨P, Q, la, Ra⟩ := hyes.out (by first | exact rfl | trivial)
  replace la := Lib.hid la; replace Ra := Lib.hid (Ra.below hb)
  clear hyes
  replace bb := Lib.hid (below_then bb.out (Nat.le_refl _) hb); replace Xa := Lib.hid (Xa.out.later hb); replace Xb := Lib.hid (Xb.out.later hb)
  clear hb
  have p00 := Xb.out.c0; have p01 := Xb.out.c1; have p02 := Xb.out.c2
  go_wp2_with fail
  clear p00 p01 p02
  refine (right4_in cb cp cq cn cc cm ce fb gb _ (Ib.out.below bb.out) (Jb.out.below bb.out)).mono ?_
  rintro e v2 ⟨r, rfl, hyes, hno, hb⟩
  clear hno
  replace hyes := Lib.hid hyes
  cases r
  · replace bb := Lib.hid (below_then bb.out (Nat.le_refl _) hb)
    clear hb hyes Xa Xb Ra
    go_wp2_with fail
    refine (awake4_any _).mono ?_
    rintro e vz ⟨rfl, hb⟩
    replace bb := Lib.hid (below_then bb.out (Nat.le_refl _) hb)
    clear hb
    go_wp2_with fail
    go_ret
    exact ⟨rfl, bb.out⟩
  obtain ⟨R, S, lb, Rb⟩ := hyes.out (by first | exact rfl | trivial)
  replace lb := Lib.hid lb; replace Rb := Lib.hid (Rb.below hb)
  clear hyes
  replace bb := Lib.hid (below_then bb.out (Nat.le_refl _) hb); replace Xa := Lib.hid (Xa.out.later hb); replace Xb := Lib.hid (Xb.out.later hb); replace Ra := Lib.hid (Ra.out.below hb)
  clear hb
  go_upto_region 3 with fail
  have p00 := Xa.out.c0; have p01 := Xa.out.c1; have p02 := Xa.out.c2; have p10 := Xb.out.c0; have p11 := Xb.out.c1; have p12 := Xb.out.c2
  go_wp2_with fail
  clear p00 p01 p02 p10 p11 p12
  refine (mod4_any ab ap aq an ac am ae P Q cb cp cq cn cc cm ce R S _ Ra.out la.out Rb.out lb.out).mono ?_
  rintro e v3 ⟨z0b, z0p, z0n, z0c, z0q, z0m, z0e, rfl, N0, hb⟩
  replace bb := Lib.hid (below_then bb.out (Nat.le_refl _) hb); replace Xa := Lib.hid (Xa.out.later hb); replace Xb := Lib.hid (Xb.out.later hb); replace Ra := Lib.hid (Ra.out.below hb); replace Rb := Lib.hid (Rb.out.below hb)
  replace N0 := Lib.hid N0
  clear hb
  go_upto_region 4 with fail
  refine gen_wp (fun w' => Below w.heap.size w w' ∧ Box3 w' w.heap.size (.bool ab) (.slice ap an ac) (.slice aq am ae) ∧ Box3 w' (w.heap.size + 1) (.bool cb) (.slice cp cn cc) (.slice cq cm ce) ∧ Box3 w' v3.heap.size (.bool z0b) (.slice z0p z0n z0c) (.slice z0q z0m z0e) ∧ Rt w' ab ap an ac aq am ae P Q ∧ Rt w' cb cp cn cc cq cm ce R S ∧ Rt w' z0b z0p z0n z0c z0q z0m z0e ((modRes P Q R S).1) ((modRes P Q R S).2.1))
    ⟨bb.out.alloc bb.out.size _, Xa.out.alloc _, Xb.out.alloc _, Box3.new _ _ _ _ rfl, Ra.out.alloc _, Rb.out.alloc _, N0.out.alloc _⟩ ?_
  clear bb Xa Xb Ra Rb N0
  rintro x3 ⟨bb, Xa, Xb, X0, Ra, Rb, N0⟩
  replace bb := Lib.hid bb; replace Xa := Lib.hid Xa; replace Xb := Lib.hid Xb; replace X0 := Lib.hid X0; replace Ra := Lib.hid Ra; replace Rb := Lib.hid Rb; replace N0 := Lib.hid N0
  have p00 := Xa.out.c0; have p01 := Xa.out.c1; have p02 := Xa.out.c2; have p10 := Xb.out.c0; have p11 := Xb.out.c1; have p12 := Xb.out.c2
  go_wp2_with fail
  clear p00 p01 p02 p10 p11 p12
  refine (rMod4_any ab ap aq an ac am ae P Q cb cp cq cn cc cm ce R S _ Ra.out la.out Rb.out lb.out).mono ?_
  rintro e v4 ⟨z1b, z1p, z1n, z1c, z1q, z1m, z1e, rfl, N1, hb⟩
  replace bb := Lib.hid (below_then bb.out (Nat.le_refl _) hb); replace Xa := Lib.hid (Xa.out.later hb); replace Xb := Lib.hid (Xb.out.later hb); replace X0 := Lib.hid (X0.out.later hb); replace Ra := Lib.hid (Ra.out.below hb); replace Rb := Lib.hid (Rb.out.below hb); replace N0 := Lib.hid (N0.out.below hb)
  replace N1 := Lib.hid N1
  clear hb
  go_upto_region 5 with fail
  refine gen_wp (fun w' => Below w.heap.size w w' ∧ Box3 w' w.heap.size (.bool ab) (.slice ap an ac) (.slice aq am ae) ∧ Box3 w' (w.heap.size + 1) (.bool cb) (.slice cp cn cc) (.slice cq cm ce) ∧ Box3 w' v3.heap.size (.bool z0b) (.slice z0p z0n z0c) (.slice z0q z0m z0e) ∧ Box3 w' v4.heap.size (.bool z1b) (.slice z1p z1n z1c) (.slice z1q z1m z1e) ∧ Rt w' ab ap an ac aq am ae P Q ∧ Rt w' cb cp cn cc cq cm ce R S ∧ Rt w' z0b z0p z0n z0c z0q z0m z0e ((modRes P Q R S).1) ((modRes P Q R S).2.1) ∧ Rt w' z1b z1p z1n z1c z1q z1m z1e ((modRes P Q R S).1) ((modRes P Q R S).2.1))
    ⟨bb.out.alloc bb.out.size _, Xa.out.alloc _, Xb.out.alloc _, X0.out.alloc _, Box3.new _ _ _ _ rfl, Ra.out.alloc _, Rb.out.alloc _, N0.out.alloc _, N1.out.alloc _⟩ ?_
  clear bb Xa Xb X0 Ra Rb N0 N1
  rintro x4 ⟨bb, Xa, Xb, X0, X1, Ra, Rb, N0, N1⟩
  replace bb := Lib.hid bb; replace Xa := Lib.hid Xa; replace Xb := Lib.hid Xb; replace X0 := Lib.hid X0; replace X1 := Lib.hid X1; replace Ra := Lib.hid Ra; replace Rb := Lib.hid Rb; replace N0 := Lib.hid N0; replace N1 := Lib.hid N1
  have p00 := Xa.out.c0; have p01 := Xa.out.c1; have p02 := Xa.out.c2
  go_upto_region 7 with fail
  clear p00 p01 p02
  refine gen_wp (fun w' => Below w.heap.size w w' ∧ Box3 w' w.heap.size (.bool ab) (.slice ap an ac) (.slice aq am ae) ∧ Box3 w' (w.heap.size + 1) (.bool cb) (.slice cp cn cc) (.slice cq cm ce) ∧ Box3 w' v3.heap.size (.bool z0b) (.slice z0p z0n z0c) (.slice z0q z0m z0e) ∧ Box3 w' v4.heap.size (.bool z1b) (.slice z1p z1n z1c) (.slice z1q z1m z1e) ∧ Box3 w' x4.heap.size (.bool false) (.slice ap an ac) (.slice aq am ae) ∧ Rt w' ab ap an ac aq am ae P Q ∧ Rt w' cb cp cn cc cq cm ce R S ∧ Rt w' z0b z0p z0n z0c z0q z0m z0e ((modRes P Q R S).1) ((modRes P Q R S).2.1) ∧ Rt w' z1b z1p z1n z1c z1q z1m z1e ((modRes P Q R S).1) ((modRes P Q R S).2.1))
    ⟨bb.out.alloc bb.out.size _, Xa.out.alloc _, Xb.out.alloc _, X0.out.alloc _, X1.out.alloc _, Box3.new _ _ _ _ rfl, Ra.out.alloc _, Rb.out.alloc _, N0.out.alloc _, N1.out.alloc _⟩ ?_
  clear bb Xa Xb X0 X1 Ra Rb N0 N1
  rintro x9 ⟨bb, Xa, Xb, X0, X1, Xy, Ra, Rb, N0, N1⟩
  replace bb := bb.drew; replace Xa := Xa.drew; replace Xb := Xb.drew; replace X0 := X0.drew; replace X1 := X1.drew; replace Xy := Xy.drew; replace Ra := Ra.drew; replace Rb := Rb.drew; replace N0 := N0.drew; replace N1 := N1.drew
  have sa0 := True.intro
  go_region_held3 (fun w' => w'.cell? ⟨w.heap.size, 0, none⟩ = some (.bool ab) ∧ w'.cell? ⟨w.heap.size, 1, none⟩ = some (.slice ap an ac) ∧ w'.cell? ⟨w.heap.size, 2, none⟩ = some (.slice aq am ae) ∧ w'.cell? ⟨v3.heap.size, 0, none⟩ = some (.bool z0b) ∧ w'.cell? ⟨v3.heap.size, 1, none⟩ = some (.slice z0p z0n z0c) ∧ w'.cell? ⟨v3.heap.size, 2, none⟩ = some (.slice z0q z0m z0e) ∧ w'.cell? ⟨v4.heap.size, 0, none⟩ = some (.bool z1b) ∧ w'.cell? ⟨v4.heap.size, 1, none⟩ = some (.slice z1p z1n z1c) ∧ w'.cell? ⟨v4.heap.size, 2, none⟩ = some (.slice z1q z1m z1e) ∧ w'.cell? ⟨x4.heap.size, 0, none⟩ = some (.bool false) ∧ w'.cell? ⟨x4.heap.size, 1, none⟩ = some (.slice ap an ac) ∧ w'.cell? ⟨x4.heap.size, 2, none⟩ = some (.slice aq am ae))
    (first | with_reducible exact ⟨Xa.c0, Xa.c1, Xa.c2, X0.c0, X0.c1, X0.c2, X1.c0, X1.c1, X1.c2, Xy.c0, Xy.c1, Xy.c2⟩ | go_keep)
    (first
    | (go_at_call 18; clear sa0; refine (alike_any z0b z0p z0q z0n z0c z0m z0e _ _ z1b z1p z1q z1n z1c z1m z1e _ _ N0 N1).mono ?_; rintro e w' ⟨rfl, hb⟩; have bb := below_then bb (Nat.le_refl _) hb; have Xa := Xa.later hb; have Xb := Xb.later hb; have X0 := X0.later hb; have X1 := X1.later hb; have Xy := Xy.later hb; have Ra := Ra.below hb; have Rb := Rb.below hb; have N0 := N0.below hb; have N1 := N1.below hb; clear hb; have sa1 := True.intro)
    | (go_at_call 26; clear sa1; refine (floor_any ab ap aq an ac am ae P Q _ Ra la.out).mono ?_; rintro e w' ⟨db, dp, dn, dc, dq, dm, de, rfl, Md, hb⟩; have bb := below_then bb (Nat.le_refl _) hb; have Xa := Xa.later hb; have Xb := Xb.later hb; have X0 := X0.later hb; have X1 := X1.later hb; have Xy := Xy.later hb; have Ra := Ra.below hb; have Rb := Rb.below hb; have N0 := N0.below hb; have N1 := N1.below hb; clear hb; have sa2 := True.intro)
    | (go_at_call 27; clear sa2; refine (rFloor_any ab ap aq an ac am ae P Q _ Ra la.out).mono ?_; rintro e w' ⟨eb, ep, en, ec, eq, em, ee, rfl, Me, hb⟩; have bb := below_then bb (Nat.le_refl _) hb; have Xa := Xa.later hb; have Xb := Xb.later hb; have X0 := X0.later hb; have X1 := X1.later hb; have Xy := Xy.later hb; have Ra := Ra.below hb; have Rb := Rb.below hb; have N0 := N0.below hb; have N1 := N1.below hb; have Md := Md.below hb; clear hb; have sa3 := True.intro)
    | (go_at_call 25; clear sa3; refine (same4_any db dp dq dn dc dm de (P.fdiv Q) (1) eb ep eq en ec em ee _ Md Me).mono ?_; rintro e w' ⟨rfl, hb⟩; have bb := below_then bb (Nat.le_refl _) hb; have Xa := Xa.later hb; have Xb := Xb.later hb; have X0 := X0.later hb; have X1 := X1.later hb; have Xy := Xy.later hb; have Ra := Ra.below hb; have Rb := Rb.below hb; have N0 := N0.below hb; have N1 := N1.below hb; have Md := Md.below hb; have Me := Me.below hb; clear hb; have sa4 := True.intro)
    | (go_at_call 28; clear sa4; refine (ceil_any ab ap aq an ac am ae P Q _ Ra la.out).mono ?_; rintro e w' ⟨gb, gp, gn, gc, gq, gm, ge, rfl, Mg, hb⟩; have bb := below_then bb (Nat.le_refl _) hb; have Xa := Xa.later hb; have Xb := Xb.later hb; have X0 := X0.later hb; have X1 := X1.later hb; have Xy := Xy.later hb; have Ra := Ra.below hb; have Rb := Rb.below hb; have N0 := N0.below hb; have N1 := N1.below hb; have Md := Md.below hb; have Me := Me.below hb; clear hb; have sa5 := True.intro)
    | (go_at_call 29; clear sa5; refine (neg4_any ab ap aq an ac am ae P Q _ Ra la.out).mono ?_; rintro e w' ⟨ub, up, un, uc, uq, um, ue, rfl, Mh, hb⟩; have bb := below_then bb (Nat.le_refl _) hb; have Xa := Xa.later hb; have Xb := Xb.later hb; have X0 := X0.later hb; have X1 := X1.later hb; have Xy := Xy.later hb; have Ra := Ra.below hb; have Rb := Rb.below hb; have N0 := N0.below hb; have N1 := N1.below hb; have Md := Md.below hb; have Me := Me.below hb; have Mg := Mg.below hb; clear hb; have sa6 := True.intro)
    | (go_at_call 27; clear sa6; refine (rFloor_any ub up uq un uc um ue (-P) Q _ Mh la.out.neg).mono ?_; rintro e w' ⟨jb, jp, jn, jc, jq, jm, je, rfl, Mj, hb⟩; have bb := below_then bb (Nat.le_refl _) hb; have Xa := Xa.later hb; have Xb := Xb.later hb; have X0 := X0.later hb; have X1 := X1.later hb; have Xy := Xy.later hb; have Ra := Ra.below hb; have Rb := Rb.below hb; have N0 := N0.below hb; have N1 := N1.below hb; have Md := Md.below hb; have Me := Me.below hb; have Mg := Mg.below hb; have Mh := Mh.below hb; clear hb; have sa7 := True.intro)
    | (go_at_call 29; clear sa7; refine (neg4_any jb jp jq jn jc jm je ((-P).fdiv Q) 1 _ Mj (low_floor la.out.neg)).mono ?_; rintro e w' ⟨kb, kp, kn, kc, kq, km, ke, rfl, Mk, hb⟩; have bb := below_then bb (Nat.le_refl _) hb; have Xa := Xa.later hb; have Xb := Xb.later hb; have X0 := X0.later hb; have X1 := X1.later hb; have Xy := Xy.later hb; have Ra := Ra.below hb; have Rb := Rb.below hb; have N0 := N0.below hb; have N1 := N1.below hb; have Md := Md.below hb; have Me := Me.below hb; have Mg := Mg.below hb; have Mh := Mh.below hb; have Mj := Mj.below hb; clear hb; have sa8 := True.intro)
    | (go_at_call 25; clear sa8; refine (same4_any gb gp gq gn gc gm ge (-((-P).fdiv Q)) (1) kb kp kq kn kc km ke _ Mg Mk).mono ?_; rintro e w' ⟨rfl, hb⟩; have bb := below_then bb (Nat.le_refl _) hb; have Xa := Xa.later hb; have Xb := Xb.later hb; have X0 := X0.later hb; have X1 := X1.later hb; have Xy := Xy.later hb; have Ra := Ra.below hb; have Rb := Rb.below hb; have N0 := N0.below hb; have N1 := N1.below hb; have Md := Md.below hb; have Me := Me.below hb; have Mg := Mg.below hb; have Mh := Mh.below hb; have Mj := Mj.below hb; have Mk := Mk.below hb; clear hb; have sa9 := True.intro)
    | (go_at_call 30; clear sa9; refine (neg_any ab ap aq an ac am ae P Q _ Ra la.out).mono ?_; rintro e w' ⟨lb, lp, ln, lc, lq, lm, le, rfl, Ml, hb⟩; have bb := below_then bb (Nat.le_refl _) hb; have Xa := Xa.later hb; have Xb := Xb.later hb; have X0 := X0.later hb; have X1 := X1.later hb; have Xy := Xy.later hb; have Ra := Ra.below hb; have Rb := Rb.below hb; have N0 := N0.below hb; have N1 := N1.below hb; have Md := Md.below hb; have Me := Me.below hb; have Mg := Mg.below hb; have Mh := Mh.below hb; have Mj := Mj.below hb; have Mk := Mk.below hb; clear hb; have sa10 := True.intro)
    | (go_at_call 29; clear sa10; refine (neg4_any ab ap aq an ac am ae P Q _ Ra la.out).mono ?_; rintro e w' ⟨nb, np, nn, nc, nq, nm, ne, rfl, Mn, hb⟩; have bb := below_then bb (Nat.le_refl _) hb; have Xa := Xa.later hb; have Xb := Xb.later hb; have X0 := X0.later hb; have X1 := X1.later hb; have Xy := Xy.later hb; have Ra := Ra.below hb; have Rb := Rb.below hb; have N0 := N0.below hb; have N1 := N1.below hb; have Md := Md.below hb; have Me := Me.below hb; have Mg := Mg.below hb; have Mh := Mh.below hb; have Mj := Mj.below hb; have Mk := Mk.below hb; have Ml := Ml.below hb; clear hb; have sa11 := True.intro)
    | (go_at_call 25; clear sa11; refine (same4_any lb lp lq ln lc lm le (-P) (Q) nb np nq nn nc nm ne _ Ml Mn).mono ?_; rintro e w' ⟨rfl, hb⟩; have bb := below_then bb (Nat.le_refl _) hb; have Xa := Xa.later hb; have Xb := Xb.later hb; have X0 := X0.later hb; have X1 := X1.later hb; have Xy := Xy.later hb; have Ra := Ra.below hb; have Rb := Rb.below hb; have N0 := N0.below hb; have N1 := N1.below hb; have Md := Md.below hb; have Me := Me.below hb; have Mg := Mg.below hb; have Mh := Mh.below hb; have Mj := Mj.below hb; have Mk := Mk.below hb; have Ml := Ml.below hb; have Mn := Mn.below hb; clear hb; have sa12 := True.intro)
    | (go_at_call 31; clear sa12; refine (abs_any ab ap aq an ac am ae P Q _ Ra la.out).mono ?_; rintro e w' ⟨ob, op, on, oc, oq, om, oe, rfl, Mo, hb⟩; have bb := below_then bb (Nat.le_refl _) hb; have Xa := Xa.later hb; have Xb := Xb.later hb; have X0 := X0.later hb; have X1 := X1.later hb; have Xy := Xy.later hb; have Ra := Ra.below hb; have Rb := Rb.below hb; have N0 := N0.below hb; have N1 := N1.below hb; have Md := Md.below hb; have Me := Me.below hb; have Mg := Mg.below hb; have Mh := Mh.below hb; have Mj := Mj.below hb; have Mk := Mk.below hb; have Ml := Ml.below hb; have Mn := Mn.below hb; clear hb; have sa13 := True.intro)
    | (go_at_call 25; clear sa13; refine (same4_any ob op oq on oc om oe ((P.natAbs : Int)) (Q) false ap aq an ac am ae _ Mo Ra.size).mono ?_; rintro e w' ⟨rfl, hb⟩; have bb := below_then bb (Nat.le_refl _) hb; have Xa := Xa.later hb; have Xb := Xb.later hb; have X0 := X0.later hb; have X1 := X1.later hb; have Xy := Xy.later hb; have Ra := Ra.below hb; have Rb := Rb.below hb; have N0 := N0.below hb; have N1 := N1.below hb; have Md := Md.below hb; have Me := Me.below hb; have Mg := Mg.below hb; have Mh := Mh.below hb; have Mj := Mj.below hb; have Mk := Mk.below hb; have Ml := Ml.below hb; have Mn := Mn.below hb; have Mo := Mo.below hb; clear hb; have sa14 := True.intro)
    | (go_at_call 9; clear sa14; refine (awake4_any _).mono ?_; rintro e w' ⟨rfl, hb⟩; have bb := below_then bb (Nat.le_refl _) hb; have Xa := Xa.later hb; have Xb := Xb.later hb; have X0 := X0.later hb; have X1 := X1.later hb; have Xy := Xy.later hb; have Ra := Ra.below hb; have Rb := Rb.below hb; have N0 := N0.below hb; have N1 := N1.below hb; have Md := Md.below hb; have Me := Me.below hb; have Mg := Mg.below hb; have Mh := Mh.below hb; have Mj := Mj.below hb; have Mk := Mk.below hb; have Ml := Ml.below hb; have Mn := Mn.below hb; have Mo := Mo.below hb; clear hb; have sa15 := True.intro))
  clear Xa Xb X0 X1 Xy Ra Rb N0 N1
  replace bb := Lib.hid bb
  go_wp2_with fail
  go_ret
  exact ⟨rfl, bb.out⟩

end Go.Proofs.Ytnnipciifjpooaa
