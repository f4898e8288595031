/-
  scrimlaw04.RatioBack, walked.
-/
import Derived.Test.YtnnipciifjpooaaQl
namespace Go.Proofs.Ytnnipciifjpooaa
open Go.RowKit Num

attribute [local go_sem ↓] Go.wp_at_zero Go.wp_at_succ

set_option maxRecDepth 20000 in
set_option maxHeartbeats 8000000 in
theorem back4_walk (ab : Bool) (ap aq : Option Addr) (an ac am ae : Nat) (fa ga : Nat → Nat) (cb : Bool) (cp cq : Option Addr) (cn cc cm ce : Nat) (fb gb : Nat → Nat) (w : World) (Ia : In w ap an ac fa) (Ja : In w aq am ae ga) (Ib : In w cp cn cc fb) (Jb : In w cq cm ce gb) :
    Calls Try.prog 6 #[.agg #[.bool ab, .slice ap an ac, .slice aq am ae], .agg #[.bool cb, .slice cp cn cc, .slice cq cm ce]] w (Says (.bool true) w) := by
  replace Ia := Lib.hid Ia; replace Ja := Lib.hid Ja; replace Ib := Lib.hid Ib; replace Jb := Lib.hid Jb
  go_enter Try.func6, Try.ntmps6
  go_upto_region 1 with fail
  refine gen_wp (fun w' => Below w.heap.size w w' ∧ Box3 w' w.heap.size (.bool ab) (.slice ap an ac) (.slice aq am ae) ∧ Box3 w' (w.heap.size + 1) (.bool cb) (.slice cp cn cc) (.slice cq cm ce))
    ⟨(((Below.refl _ _).alloc (Nat.le_refl _) _).alloc (by first | (simp; done) | (simp; omega)) _), ((Box3.new _ _ _ _ rfl).alloc _), (Box3.new _ _ _ _ (by first | (simp; done) | (simp; omega)))⟩ ?_
  rintro w0 ⟨bb, Xa, Xb⟩
  replace bb := Lib.hid bb; replace Xa := Lib.hid Xa; replace Xb := Lib.hid Xb
  have p00 := Xa.out.c0; have p01 := Xa.out.c1; have p02 := Xa.out.c2
  go_wp2_with fail
  clear p00 p01 p02
  refine (right4_in ab ap aq an ac am ae fa ga _ (Ia.out.below bb.out) (Ja.out.below bb.out)).mono ?_
  rintro e v1 ⟨r, rfl, hyes, hno, hb⟩
  clear hno
  replace hyes := Lib.hid hyes
  cases r
  · replace bb := Lib.hid (below_then bb.out (Nat.le_refl _) hb)
    clear hb hyes Xa Xb
    go_wp2_with fail
    refine (awake4_any _).mono ?_
    rintro e vz ⟨rfl, hb⟩
    replace bb := Lib.hid (below_then bb.out (Nat.le_refl _) hb)
    clear hb
    go_wp2_with fail
    go_ret
    exact ⟨rfl, bb.out⟩
  obtain ⟨P, Q, la, Ra⟩ := hyes.out (by first | exact rfl | trivial)
  replace la := Lib.hid la; replace Ra := Lib.hid (Ra.below hb)
  clear hyes
  replace bb := Lib.hid (below_then bb.out (Nat.le_refl _) hb); replace Xa := Lib.hid (Xa.out.later hb); replace Xb := Lib.hid (Xb.out.later hb)
  clear hb
  have p00 := Xb.out.c0; have p01 := Xb.out.c1; have p02 := Xb.out.c2
  go_wp2_with fail
  clear p00 p01 p02
  refine (right4_in cb cp cq cn cc cm ce fb gb _ (Ib.out.below bb.out) (Jb.out.below bb.out)).mono ?_
  rintro e v2 ⟨r, rfl, hyes, hno, hb⟩
  clear hno
  replace hyes := Lib.hid hyes
  cases r
  · replace bb := Lib.hid (below_then bb.out (Nat.le_refl _) hb)
    clear hb hyes Xa Xb Ra
    go_wp2_with fail
    refine (awake4_any _).mono ?_
    rintro e vz ⟨rfl, hb⟩
    replace bb := Lib.hid (below_then bb.out (Nat.le_refl _) hb)
    clear hb
    go_wp2_with fail
    go_ret
    exact ⟨rfl, bb.out⟩
  obtain ⟨R, S, lb, Rb⟩ := hyes.out (by first | exact rfl | trivial)
  replace lb := Lib.hid lb; replace Rb := Lib.hid (Rb.below hb)
  clear hyes
  replace bb := Lib.hid (below_then bb.out (Nat.le_refl _) hb); replace Xa := Lib.hid (Xa.out.later hb); replace Xb := Lib.hid (Xb.out.later hb); replace Ra := Lib.hid (Ra.out.below hb)
  clear hb
  go_upto_region 3 with fail
  obtain ⟨E, hE⟩ : ∃ E, Hid (mkE (P * S + R * Q) ((Q : Int) * S) = E) := ⟨_, Lib.hid rfl⟩
  by_cases hE0 : E = 0
  · subst hE0
    have p00 := Xa.out.c0; have p01 := Xa.out.c1; have p02 := Xa.out.c2; have p10 := Xb.out.c0; have p11 := Xb.out.c1; have p12 := Xb.out.c2
    go_wp2_with fail
    clear p00 p01 p02 p10 p11 p12
    refine ((add4_any ab ap aq an ac am ae P Q cb cp cq cn cc cm ce R S _ Ra.out la.out Rb.out lb.out).mono fun _ _ => make_goes hE.out).mono ?_
    rintro e v3 ⟨T, B, lT, cT, -, -, sb, sp, sn, sc, sq, sm, se, rfl, Ns, hb⟩
    replace bb := Lib.hid (below_then bb.out (Nat.le_refl _) hb); replace Xa := Lib.hid (Xa.out.later hb); replace Xb := Lib.hid (Xb.out.later hb); replace Ra := Lib.hid (Ra.out.below hb); replace Rb := Lib.hid (Rb.out.below hb)
    replace lT := Lib.hid lT; replace cT := Lib.hid cT
    replace Ns := Lib.hid Ns
    clear hb
    go_upto_region 4 with fail
    refine gen_wp (fun w' => Below w.heap.size w w' ∧ Box3 w' w.heap.size (.bool ab) (.slice ap an ac) (.slice aq am ae) ∧ Box3 w' (w.heap.size + 1) (.bool cb) (.slice cp cn cc) (.slice cq cm ce) ∧ Box3 w' v3.heap.size (.bool sb) (.slice sp sn sc) (.slice sq sm se) ∧ Rt w' ab ap an ac aq am ae P Q ∧ Rt w' cb cp cn cc cq cm ce R S ∧ Rt w' sb sp sn sc sq sm se (T) (B))
      ⟨bb.out.alloc bb.out.size _, Xa.out.alloc _, Xb.out.alloc _, Box3.new _ _ _ _ rfl, Ra.out.alloc _, Rb.out.alloc _, Ns.out.alloc _⟩ ?_
    clear bb Xa Xb Ra Rb Ns
    rintro x3 ⟨bb, Xa, Xb, Xs, Ra, Rb, Ns⟩
    replace bb := Lib.hid bb; replace Xa := Lib.hid Xa; replace Xb := Lib.hid Xb; replace Xs := Lib.hid Xs; replace Ra := Lib.hid Ra; replace Rb := Lib.hid Rb; replace Ns := Lib.hid Ns
    go_upto_region 5 with fail
    have p00 := Xs.out.c0; have p01 := Xs.out.c1; have p02 := Xs.out.c2; have p10 := Xb.out.c0; have p11 := Xb.out.c1; have p12 := Xb.out.c2
    go_wp2_with fail
    clear p00 p01 p02 p10 p11 p12
    refine ((sub4_any sb sp sq sn sc sm se T B cb cp cq cn cc cm ce R S _ Ns.out lT.out Rb.out lb.out).mono fun _ _ => make_is la.out (nz_mul lT.out.1 lb.out.1) (back_add cT.out)).mono ?_
    rintro e v4 ⟨yb, yp, yn, yc, yq, ym, ye, rfl, Ny, hb⟩
    replace bb := Lib.hid (below_then bb.out (Nat.le_refl _) hb); replace Xa := Lib.hid (Xa.out.later hb); replace Xb := Lib.hid (Xb.out.later hb); replace Xs := Lib.hid (Xs.out.later hb); replace Ra := Lib.hid (Ra.out.below hb); replace Rb := Lib.hid (Rb.out.below hb); replace Ns := Lib.hid (Ns.out.below hb)
    replace Ny := Lib.hid Ny
    clear hb
    go_upto_region 6 with fail
    refine gen_wp (fun w' => Below w.heap.size w w' ∧ Box3 w' w.heap.size (.bool ab) (.slice ap an ac) (.slice aq am ae) ∧ Box3 w' (w.heap.size + 1) (.bool cb) (.slice cp cn cc) (.slice cq cm ce) ∧ Box3 w' v3.heap.size (.bool sb) (.slice sp sn sc) (.slice sq sm se) ∧ Box3 w' v4.heap.size (.bool yb) (.slice yp yn yc) (.slice yq ym ye) ∧ Rt w' ab ap an ac aq am ae P Q ∧ Rt w' cb cp cn cc cq cm ce R S ∧ Rt w' sb sp sn sc sq sm se (T) (B) ∧ Rt w' yb yp yn yc yq ym ye (P) (Q))
      ⟨bb.out.alloc bb.out.size _, Xa.out.alloc _, Xb.out.alloc _, Xs.out.alloc _, Box3.new _ _ _ _ rfl, Ra.out.alloc _, Rb.out.alloc _, Ns.out.alloc _, Ny.out.alloc _⟩ ?_
    clear bb Xa Xb Xs Ra Rb Ns Ny
    rintro x4 ⟨bb, Xa, Xb, Xs, Xy, Ra, Rb, Ns, Ny⟩
    replace bb := Lib.hid bb; replace Xa := Lib.hid Xa; replace Xb := Lib.hid Xb; replace Xs := Lib.hid Xs; replace Xy := Lib.hid Xy; replace Ra := Lib.hid Ra; replace Rb := Lib.hid Rb; replace Ns := Lib.hid Ns; replace Ny := Lib.hid Ny
    have p00 := Xs.out.c0; have p01 := Xs.out.c1; have p02 := Xs.out.c2
    go_wp2_with fail
    clear p00 p01 p02
    refine (right4_yes sb sp sq sn sc sm se T B _ Ns.out lT.out).mono ?_
    rintro e v5 ⟨rfl, hb⟩
    replace bb := Lib.hid (below_then bb.out (Nat.le_refl _) hb); replace Xa := Lib.hid (Xa.out.later hb); replace Xb := Lib.hid (Xb.out.later hb); replace Xs := Lib.hid (Xs.out.later hb); replace Xy := Lib.hid (Xy.out.later hb); replace Ra := Lib.hid (Ra.out.below hb); replace Rb := Lib.hid (Rb.out.below hb); replace Ns := Lib.hid (Ns.out.below hb); replace Ny := Lib.hid (Ny.out.below hb)
    clear hb
    have p00 := Xy.out.c0; have p01 := Xy.out.c1; have p02 := Xy.out.c2; have p10 := Xa.out.c0; have p11 := Xa.out.c1; have p12 := Xa.out.c2
    go_wp2_with fail
    clear p00 p01 p02 p10 p11 p12
    refine (same4_any yb yp yq yn yc ym ye P Q ab ap aq an ac am ae _ Ny.out Ra.out).mono ?_
    rintro e v6 ⟨rfl, hb⟩
    replace bb := Lib.hid (below_then bb.out (Nat.le_refl _) hb); replace Xa := Lib.hid (Xa.out.later hb); replace Xb := Lib.hid (Xb.out.later hb); replace Xs := Lib.hid (Xs.out.later hb); replace Xy := Lib.hid (Xy.out.later hb); replace Ra := Lib.hid (Ra.out.below hb); replace Rb := Lib.hid (Rb.out.below hb); replace Ns := Lib.hid (Ns.out.below hb); replace Ny := Lib.hid (Ny.out.below hb)
    clear hb
    go_upto_region 8 with fail
    clear Xs Xy Ns Ny
    obtain ⟨F, hF⟩ : ∃ F, Hid (mkE (P * S) ((Q : Int) * R) = F) := ⟨_, Lib.hid rfl⟩
    by_cases hF0 : F = 0
    · subst hF0
      have hqr : Hid ((Q : Int) * R ≠ 0) := Lib.hid (mkE_ok.1 hF.out).1
      have p00 := Xa.out.c0; have p01 := Xa.out.c1; have p02 := Xa.out.c2; have p10 := Xb.out.c0; have p11 := Xb.out.c1; have p12 := Xb.out.c2
      go_wp2_with fail
      clear p00 p01 p02 p10 p11 p12
      refine ((div4_any ab ap aq an ac am ae P Q cb cp cq cn cc cm ce R S _ Ra.out la.out Rb.out lb.out).mono fun _ _ => make_goes hF.out).mono ?_
      rintro e v7 ⟨T2, B2, lT2, cT2, -, -, zb, zp, zn, zc, zq, zm, ze, rfl, Nz, hb⟩
      replace bb := Lib.hid (below_then bb.out (Nat.le_refl _) hb); replace Xa := Lib.hid (Xa.out.later hb); replace Xb := Lib.hid (Xb.out.later hb); replace Ra := Lib.hid (Ra.out.below hb); replace Rb := Lib.hid (Rb.out.below hb)
      replace lT2 := Lib.hid lT2; replace cT2 := Lib.hid cT2
      replace Nz := Lib.hid Nz
      clear hb
      go_upto_region 9 with fail
      refine gen_wp (fun w' => Below w.heap.size w w' ∧ Box3 w' w.heap.size (.bool ab) (.slice ap an ac) (.slice aq am ae) ∧ Box3 w' (w.heap.size + 1) (.bool cb) (.slice cp cn cc) (.slice cq cm ce) ∧ Box3 w' v7.heap.size (.bool zb) (.slice zp zn zc) (.slice zq zm ze) ∧ Rt w' ab ap an ac aq am ae P Q ∧ Rt w' cb cp cn cc cq cm ce R S ∧ Rt w' zb zp zn zc zq zm ze (T2) (B2))
        ⟨bb.out.alloc bb.out.size _, Xa.out.alloc _, Xb.out.alloc _, Box3.new _ _ _ _ rfl, Ra.out.alloc _, Rb.out.alloc _, Nz.out.alloc _⟩ ?_
      clear bb Xa Xb Ra Rb Nz
      rintro x7 ⟨bb, Xa, Xb, Xz, Ra, Rb, Nz⟩
      replace bb := Lib.hid bb; replace Xa := Lib.hid Xa; replace Xb := Lib.hid Xb; replace Xz := Lib.hid Xz; replace Ra := Lib.hid Ra; replace Rb := Lib.hid Rb; replace Nz := Lib.hid Nz
      have p00 := Xz.out.c0; have p01 := Xz.out.c1; have p02 := Xz.out.c2; have p10 := Xb.out.c0; have p11 := Xb.out.c1; have p12 := Xb.out.c2
      go_wp2_with fail
      clear p00 p01 p02 p10 p11 p12
      refine ((mul4_any zb zp zq zn zc zm ze T2 B2 cb cp cq cn cc cm ce R S _ Nz.out lT2.out Rb.out lb.out).mono fun _ _ => make_is la.out (nz_mul lT2.out.1 lb.out.1) (back_div cT2.out)).mono ?_
      rintro e v8 ⟨tb, tp, tn, tc, tq, tm, te, rfl, Nt, hb⟩
      replace bb := Lib.hid (below_then bb.out (Nat.le_refl _) hb); replace Xa := Lib.hid (Xa.out.later hb); replace Xb := Lib.hid (Xb.out.later hb); replace Xz := Lib.hid (Xz.out.later hb); replace Ra := Lib.hid (Ra.out.below hb); replace Rb := Lib.hid (Rb.out.below hb); replace Nz := Lib.hid (Nz.out.below hb)
      replace Nt := Lib.hid Nt
      clear hb
      go_upto_region 12 with fail
      refine gen_wp (fun w' => Below w.heap.size w w' ∧ Box3 w' w.heap.size (.bool ab) (.slice ap an ac) (.slice aq am ae) ∧ Box3 w' (w.heap.size + 1) (.bool cb) (.slice cp cn cc) (.slice cq cm ce) ∧ Box3 w' v7.heap.size (.bool zb) (.slice zp zn zc) (.slice zq zm ze) ∧ Box3 w' v8.heap.size (.bool tb) (.slice tp tn tc) (.slice tq tm te) ∧ Rt w' ab ap an ac aq am ae P Q ∧ Rt w' cb cp cn cc cq cm ce R S ∧ Rt w' zb zp zn zc zq zm ze (T2) (B2) ∧ Rt w' tb tp tn tc tq tm te (P) (Q))
        ⟨bb.out.alloc bb.out.size _, Xa.out.alloc _, Xb.out.alloc _, Xz.out.alloc _, Box3.new _ _ _ _ rfl, Ra.out.alloc _, Rb.out.alloc _, Nz.out.alloc _, Nt.out.alloc _⟩ ?_
      clear bb Xa Xb Xz Ra Rb Nz Nt
      rintro x8 ⟨bb, Xa, Xb, Xz, Xt, Ra, Rb, Nz, Nt⟩
      replace bb := Lib.hid bb; replace Xa := Lib.hid Xa; replace Xb := Lib.hid Xb; replace Xz := Lib.hid Xz; replace Xt := Lib.hid Xt; replace Ra := Lib.hid Ra; replace Rb := Lib.hid Rb; replace Nz := Lib.hid Nz; replace Nt := Lib.hid Nt
      have p00 := Xz.out.c0; have p01 := Xz.out.c1; have p02 := Xz.out.c2
      go_wp2_with fail
      clear p00 p01 p02
      refine (right4_yes zb zp zq zn zc zm ze T2 B2 _ Nz.out lT2.out).mono ?_
      rintro e v9 ⟨rfl, hb⟩
      replace bb := Lib.hid (below_then bb.out (Nat.le_refl _) hb); replace Xa := Lib.hid (Xa.out.later hb); replace Xb := Lib.hid (Xb.out.later hb); replace Xz := Lib.hid (Xz.out.later hb); replace Xt := Lib.hid (Xt.out.later hb); replace Ra := Lib.hid (Ra.out.below hb); replace Rb := Lib.hid (Rb.out.below hb); replace Nz := Lib.hid (Nz.out.below hb); replace Nt := Lib.hid (Nt.out.below hb)
      clear hb
      have p00 := Xt.out.c0; have p01 := Xt.out.c1; have p02 := Xt.out.c2; have p10 := Xa.out.c0; have p11 := Xa.out.c1; have p12 := Xa.out.c2
      go_wp2_with fail
      clear p00 p01 p02 p10 p11 p12
      refine (same4_any tb tp tq tn tc tm te P Q ab ap aq an ac am ae _ Nt.out Ra.out).mono ?_
      rintro e v10 ⟨rfl, hb⟩
      replace bb := Lib.hid (below_then bb.out (Nat.le_refl _) hb); replace Xa := Lib.hid (Xa.out.later hb); replace Xb := Lib.hid (Xb.out.later hb); replace Xz := Lib.hid (Xz.out.later hb); replace Xt := Lib.hid (Xt.out.later hb); replace Ra := Lib.hid (Ra.out.below hb); replace Rb := Lib.hid (Rb.out.below hb); replace Nz := Lib.hid (Nz.out.below hb); replace Nt := Lib.hid (Nt.out.below hb)
      clear hb
      clear Xa Xb Xz Xt Ra Rb Nz Nt
      go_wp2_with fail
      refine (awake4_any _).mono ?_
      rintro e vz ⟨rfl, hb⟩
      replace bb := Lib.hid (below_then bb.out (Nat.le_refl _) hb)
      clear hb
      go_wp2_with fail
      go_ret
      exact ⟨rfl, bb.out⟩
    · have hF1 := Lib.hid hF0
      clear hF0
      have h37 : Hid ((F = 3 ∧ cn = 0) ∨ F = 7) := Lib.hid (by
        rcases mkE_cases (P * S) ((Q : Int) * R) with h | h | h
        · exact absurd (hF.out.symm.trans h) hF1.out
        · refine .inl ⟨hF.out.symm.trans h, ?_⟩
          have h := mk_three.1 h
          rcases Int.mul_eq_zero.1 h with h | h
          · exact absurd h la.out.nz
          · exact Rb.out.top.len_zero.2 h
        · exact .inr (hF.out.symm.trans h))
      have p00 := Xa.out.c0; have p01 := Xa.out.c1; have p02 := Xa.out.c2; have p10 := Xb.out.c0; have p11 := Xb.out.c1; have p12 := Xb.out.c2
      go_wp2_with fail
      clear p00 p01 p02 p10 p11 p12
      refine ((div4_any ab ap aq an ac am ae P Q cb cp cq cn cc cm ce R S _ Ra.out la.out Rb.out lb.out).mono fun _ _ => make_nz hF.out hF1.out).mono ?_
      rintro e v7 ⟨zb, zp, zn, zc, zq, zm, ze, rfl, Nz, hb⟩
      replace bb := Lib.hid (below_then bb.out (Nat.le_refl _) hb); replace Xa := Lib.hid (Xa.out.later hb); replace Xb := Lib.hid (Xb.out.later hb); replace Ra := Lib.hid (Ra.out.below hb); replace Rb := Lib.hid (Rb.out.below hb)
      replace Nz := Lib.hid Nz
      clear hb
      go_upto_region 9 with fail
      refine gen_wp (fun w' => Below w.heap.size w w' ∧ Box3 w' w.heap.size (.bool ab) (.slice ap an ac) (.slice aq am ae) ∧ Box3 w' (w.heap.size + 1) (.bool cb) (.slice cp cn cc) (.slice cq cm ce) ∧ Box3 w' v7.heap.size (.bool zb) (.slice zp zn zc) (.slice zq zm ze) ∧ Rt w' ab ap an ac aq am ae P Q ∧ Rt w' cb cp cn cc cq cm ce R S ∧ Rt w' zb zp zn zc zq zm ze (0) (0))
        ⟨bb.out.alloc bb.out.size _, Xa.out.alloc _, Xb.out.alloc _, Box3.new _ _ _ _ rfl, Ra.out.alloc _, Rb.out.alloc _, Nz.out.alloc _⟩ ?_
      clear bb Xa Xb Ra Rb Nz
      rintro x7 ⟨bb, Xa, Xb, Xz, Ra, Rb, Nz⟩
      replace bb := Lib.hid bb; replace Xa := Lib.hid Xa; replace Xb := Lib.hid Xb; replace Xz := Lib.hid Xz; replace Ra := Lib.hid Ra; replace Rb := Lib.hid Rb; replace Nz := Lib.hid Nz
      rcases h37.out with ⟨rfl, rfl⟩ | rfl
      all_goals
        clear h37 hF hF1
        have p00 := Xb.out.c0; have p01 := Xb.out.c1; have p02 := Xb.out.c2
        go_wp2_with fail
        clear p00 p01 p02
        clear Xa Xb Xz Ra Rb Nz
        refine (awake4_any _).mono ?_
        rintro e vz ⟨rfl, hb⟩
        replace bb := Lib.hid (below_then bb.out (Nat.le_refl _) hb)
        clear hb
        go_wp2_with fail
        go_ret
        exact ⟨rfl, bb.out⟩
  · have hE1 := Lib.hid hE0
    clear hE0
    have p00 := Xa.out.c0; have p01 := Xa.out.c1; have p02 := Xa.out.c2; have p10 := Xb.out.c0; have p11 := Xb.out.c1; have p12 := Xb.out.c2
    go_wp2_with fail
    clear p00 p01 p02 p10 p11 p12
    refine ((add4_any ab ap aq an ac am ae P Q cb cp cq cn cc cm ce R S _ Ra.out la.out Rb.out lb.out).mono fun _ _ => make_nz hE.out hE1.out).mono ?_
    rintro e v3 ⟨sb, sp, sn, sc, sq, sm, se, rfl, Ns, hb⟩
    replace bb := Lib.hid (below_then bb.out (Nat.le_refl _) hb); replace Xa := Lib.hid (Xa.out.later hb); replace Xb := Lib.hid (Xb.out.later hb); replace Ra := Lib.hid (Ra.out.below hb); replace Rb := Lib.hid (Rb.out.below hb)
    replace Ns := Lib.hid Ns
    clear hb
    go_upto_region 4 with fail
    refine gen_wp (fun w' => Below w.heap.size w w' ∧ Box3 w' w.heap.size (.bool ab) (.slice ap an ac) (.slice aq am ae) ∧ Box3 w' (w.heap.size + 1) (.bool cb) (.slice cp cn cc) (.slice cq cm ce) ∧ Box3 w' v3.heap.size (.bool sb) (.slice sp sn sc) (.slice sq sm se) ∧ Rt w' ab ap an ac aq am ae P Q ∧ Rt w' cb cp cn cc cq cm ce R S ∧ Rt w' sb sp sn sc sq sm se (0) (0))
      ⟨bb.out.alloc bb.out.size _, Xa.out.alloc _, Xb.out.alloc _, Box3.new _ _ _ _ rfl, Ra.out.alloc _, Rb.out.alloc _, Ns.out.alloc _⟩ ?_
    clear bb Xa Xb Ra Rb Ns
    rintro x3 ⟨bb, Xa, Xb, Xs, Ra, Rb, Ns⟩
    replace bb := Lib.hid bb; replace Xa := Lib.hid Xa; replace Xb := Lib.hid Xb; replace Xs := Lib.hid Xs; replace Ra := Lib.hid Ra; replace Rb := Lib.hid Rb; replace Ns := Lib.hid Ns
    have hE0 := hE1.out
    go_upto_region 8 with fail
    clear hE0
    clear Xs Ns
    obtain ⟨F, hF⟩ : ∃ F, Hid (mkE (P * S) ((Q : Int) * R) = F) := ⟨_, Lib.hid rfl⟩
    by_cases hF0 : F = 0
    · subst hF0
      have hqr : Hid ((Q : Int) * R ≠ 0) := Lib.hid (mkE_ok.1 hF.out).1
      have p00 := Xa.out.c0; have p01 := Xa.out.c1; have p02 := Xa.out.c2; have p10 := Xb.out.c0; have p11 := Xb.out.c1; have p12 := Xb.out.c2
      go_wp2_with fail
      clear p00 p01 p02 p10 p11 p12
      refine ((div4_any ab ap aq an ac am ae P Q cb cp cq cn cc cm ce R S _ Ra.out la.out Rb.out lb.out).mono fun _ _ => make_goes hF.out).mono ?_
      rintro e v4 ⟨T2, B2, lT2, cT2, -, -, zb, zp, zn, zc, zq, zm, ze, rfl, Nz, hb⟩
      replace bb := Lib.hid (below_then bb.out (Nat.le_refl _) hb); replace Xa := Lib.hid (Xa.out.later hb); replace Xb := Lib.hid (Xb.out.later hb); replace Ra := Lib.hid (Ra.out.below hb); replace Rb := Lib.hid (Rb.out.below hb)
      replace lT2 := Lib.hid lT2; replace cT2 := Lib.hid cT2
      replace Nz := Lib.hid Nz
      clear hb
      go_upto_region 9 with fail
      refine gen_wp (fun w' => Below w.heap.size w w' ∧ Box3 w' w.heap.size (.bool ab) (.slice ap an ac) (.slice aq am ae) ∧ Box3 w' (w.heap.size + 1) (.bool cb) (.slice cp cn cc) (.slice cq cm ce) ∧ Box3 w' v4.heap.size (.bool zb) (.slice zp zn zc) (.slice zq zm ze) ∧ Rt w' ab ap an ac aq am ae P Q ∧ Rt w' cb cp cn cc cq cm ce R S ∧ Rt w' zb zp zn zc zq zm ze (T2) (B2))
        ⟨bb.out.alloc bb.out.size _, Xa.out.alloc _, Xb.out.alloc _, Box3.new _ _ _ _ rfl, Ra.out.alloc _, Rb.out.alloc _, Nz.out.alloc _⟩ ?_
      clear bb Xa Xb Ra Rb Nz
      rintro x4 ⟨bb, Xa, Xb, Xz, Ra, Rb, Nz⟩
      replace bb := Lib.hid bb; replace Xa := Lib.hid Xa; replace Xb := Lib.hid Xb; replace Xz := Lib.hid Xz; replace Ra := Lib.hid Ra; replace Rb := Lib.hid Rb; replace Nz := Lib.hid Nz
      have p00 := Xz.out.c0; have p01 := Xz.out.c1; have p02 := Xz.out.c2; have p10 := Xb.out.c0; have p11 := Xb.out.c1; have p12 := Xb.out.c2
      go_wp2_with fail
      clear p00 p01 p02 p10 p11 p12
      refine ((mul4_any zb zp zq zn zc zm ze T2 B2 cb cp cq cn cc cm ce R S _ Nz.out lT2.out Rb.out lb.out).mono fun _ _ => make_is la.out (nz_mul lT2.out.1 lb.out.1) (back_div cT2.out)).mono ?_
      rintro e v5 ⟨tb, tp, tn, tc, tq, tm, te, rfl, Nt, hb⟩
      replace bb := Lib.hid (below_then bb.out (Nat.le_refl _) hb); replace Xa := Lib.hid (Xa.out.later hb); replace Xb := Lib.hid (Xb.out.later hb); replace Xz := Lib.hid (Xz.out.later hb); replace Ra := Lib.hid (Ra.out.below hb); replace Rb := Lib.hid (Rb.out.below hb); replace Nz := Lib.hid (Nz.out.below hb)
      replace Nt := Lib.hid Nt
      clear hb
      go_upto_region 12 with fail
      refine gen_wp (fun w' => Below w.heap.size w w' ∧ Box3 w' w.heap.size (.bool ab) (.slice ap an ac) (.slice aq am ae) ∧ Box3 w' (w.heap.size + 1) (.bool cb) (.slice cp cn cc) (.slice cq cm ce) ∧ Box3 w' v4.heap.size (.bool zb) (.slice zp zn zc) (.slice zq zm ze) ∧ Box3 w' v5.heap.size (.bool tb) (.slice tp tn tc) (.slice tq tm te) ∧ Rt w' ab ap an ac aq am ae P Q ∧ Rt w' cb cp cn cc cq cm ce R S ∧ Rt w' zb zp zn zc zq zm ze (T2) (B2) ∧ Rt w' tb tp tn tc tq tm te (P) (Q))
        ⟨bb.out.alloc bb.out.size _, Xa.out.alloc _, Xb.out.alloc _, Xz.out.alloc _, Box3.new _ _ _ _ rfl, Ra.out.alloc _, Rb.out.alloc _, Nz.out.alloc _, Nt.out.alloc _⟩ ?_
      clear bb Xa Xb Xz Ra Rb Nz Nt
      rintro x5 ⟨bb, Xa, Xb, Xz, Xt, Ra, Rb, Nz, Nt⟩
      replace bb := Lib.hid bb; replace Xa := Lib.hid Xa; replace Xb := Lib.hid Xb; replace Xz := Lib.hid Xz; replace Xt := Lib.hid Xt; replace Ra := Lib.hid Ra; replace Rb := Lib.hid Rb; replace Nz := Lib.hid Nz; replace Nt := Lib.hid Nt
      have p00 := Xz.out.c0; have p01 := Xz.out.c1; have p02 := Xz.out.c2
      go_wp2_with fail
      clear p00 p01 p02
      refine (right4_yes zb zp zq zn zc zm ze T2 B2 _ Nz.out lT2.out).mono ?_
      rintro e v6 ⟨rfl, hb⟩
      replace bb := Lib.hid (below_then bb.out (Nat.le_refl _) hb); replace Xa := Lib.hid (Xa.out.later hb); replace Xb := Lib.hid (Xb.out.later hb); replace Xz := Lib.hid (Xz.out.later hb); replace Xt := Lib.hid (Xt.out.later hb); replace Ra := Lib.hid (Ra.out.below hb); replace Rb := Lib.hid (Rb.out.below hb); replace Nz := Lib.hid (Nz.out.below hb); replace Nt := Lib.hid (Nt.out.below hb)
      clear hb
      have p00 := Xt.out.c0; have p01 := Xt.out.c1; have p02 := Xt.out.c2; have p10 := Xa.out.c0; have p11 := Xa.out.c1; have p12 := Xa.out.c2
      go_wp2_with fail
      clear p00 p01 p02 p10 p11 p12
      refine (same4_any tb tp tq tn tc tm te P Q ab ap aq an ac am ae _ Nt.out Ra.out).mono ?_
      rintro e v7 ⟨rfl, hb⟩
      replace bb := Lib.hid (below_then bb.out (Nat.le_refl _) hb); replace Xa := Lib.hid (Xa.out.later hb); replace Xb := Lib.hid (Xb.out.later hb); replace Xz := Lib.hid (Xz.out.later hb); replace Xt := Lib.hid (Xt.out.later hb); replace Ra := Lib.hid (Ra.out.below hb); replace Rb := Lib.hid (Rb.out.below hb); replace Nz := Lib.hid (Nz.out.below hb); replace Nt := Lib.hid (Nt.out.below hb)
      clear hb
      clear Xa Xb Xz Xt Ra Rb Nz Nt
      go_wp2_with fail
      refine (awake4_any _).mono ?_
      rintro e vz ⟨rfl, hb⟩
      replace bb := Lib.hid (below_then bb.out (Nat.le_refl _) hb)
      clear hb
      go_wp2_with fail
      go_ret
      exact ⟨rfl, bb.out⟩
    · have hF1 := Lib.hid hF0
      clear hF0
      have h37 : Hid ((F = 3 ∧ cn = 0) ∨ F = 7) := Lib.hid (by
        rcases mkE_cases (P * S) ((Q : Int) * R) with h | h | h
        · exact absurd (hF.out.symm.trans h) hF1.out
        · refine .inl ⟨hF.out.symm.trans h, ?_⟩
          have h := mk_three.1 h
          rcases Int.mul_eq_zero.1 h with h | h
          · exact absurd h la.out.nz
          · exact Rb.out.top.len_zero.2 h
        · exact .inr (hF.out.symm.trans h))
      have p00 := Xa.out.c0; have p01 := Xa.out.c1; have p02 := Xa.out.c2; have p10 := Xb.out.c0; have p11 := Xb.out.c1; have p12 := Xb.out.c2
      go_wp2_with fail
      clear p00 p01 p02 p10 p11 p12
      refine ((div4_any ab ap aq an ac am ae P Q cb cp cq cn cc cm ce R S _ Ra.out la.out Rb.out lb.out).mono fun _ _ => make_nz hF.out hF1.out).mono ?_
      rintro e v4 ⟨zb, zp, zn, zc, zq, zm, ze, rfl, Nz, hb⟩
      replace bb := Lib.hid (below_then bb.out (Nat.le_refl _) hb); replace Xa := Lib.hid (Xa.out.later hb); replace Xb := Lib.hid (Xb.out.later hb); replace Ra := Lib.hid (Ra.out.below hb); replace Rb := Lib.hid (Rb.out.below hb)
      replace Nz := Lib.hid Nz
      clear hb
      go_upto_region 9 with fail
      refine gen_wp (fun w' => Below w.heap.size w w' ∧ Box3 w' w.heap.size (.bool ab) (.slice ap an ac) (.slice aq am ae) ∧ Box3 w' (w.heap.size + 1) (.bool cb) (.slice cp cn cc) (.slice cq cm ce) ∧ Box3 w' v4.heap.size (.bool zb) (.slice zp zn zc) (.slice zq zm ze) ∧ Rt w' ab ap an ac aq am ae P Q ∧ Rt w' cb cp cn cc cq cm ce R S ∧ Rt w' zb zp zn zc zq zm ze (0) (0))
        ⟨bb.out.alloc bb.out.size _, Xa.out.alloc _, Xb.out.alloc _, Box3.new _ _ _ _ rfl, Ra.out.alloc _, Rb.out.alloc _, Nz.out.alloc _⟩ ?_
      clear bb Xa Xb Ra Rb Nz
      rintro x4 ⟨bb, Xa, Xb, Xz, Ra, Rb, Nz⟩
      replace bb := Lib.hid bb; replace Xa := Lib.hid Xa; replace Xb := Lib.hid Xb; replace Xz := Lib.hid Xz; replace Ra := Lib.hid Ra; replace Rb := Lib.hid Rb; replace Nz := Lib.hid Nz
      rcases h37.out with ⟨rfl, rfl⟩ | rfl
      all_goals
        clear h37 hF hF1
        have p00 := Xb.out.c0; have p01 := Xb.out.c1; have p02 := Xb.out.c2
        go_wp2_with fail
        clear p00 p01 p02
        clear Xa Xb Xz Ra Rb Nz
        refine (awake4_any _).mono ?_
        rintro e vz ⟨rfl, hb⟩
        replace bb := Lib.hid (below_then bb.out (Nat.le_refl _) hb)
        clear hb
        go_wp2_with fail
        go_ret
        exact ⟨rfl, bb.out⟩

end Go.Proofs.Ytnnipciifjpooaa
