/-
  ratio.Mul, Div, Add, Sub.
-/
import Derived.Test.YtnnipciifjpooaaQc
namespace Go.Proofs.Ytnnipciifjpooaa
open Go.RowKit Num

attribute [local go_sem ↓] Go.wp_at_zero Go.wp_at_succ

set_option maxHeartbeats 2000000 in
theorem mul4_any (ab : Bool) (ap aq : Option Addr) (an ac am ae : Nat) (P : Int) (Q : Nat) (cb : Bool) (cp cq : Option Addr) (cn cc cm ce : Nat) (R : Int) (S : Nat) (w : World) (A : Rt w ab ap an ac aq am ae P Q) (lA : Low P Q) (B : Rt w cb cp cn cc cq cm ce R S) (lB : Low R S) :
    Calls Try.prog 12 #[.agg #[.bool ab, .slice ap an ac, .slice aq am ae], .agg #[.bool cb, .slice cp cn cc, .slice cq cm ce]] w (MakePost (P * R) ((Q : Int) * S) w) := by
  have lA' := Lib.hid lA; have lB' := Lib.hid lB
  have A' := Lib.hid A; have B' := Lib.hid B
  clear lA A lB B
  go_enter Try.func12, Try.ntmps12
  go_wp2_with fail
  refine gen_wp (fun w' => Below w.heap.size w w' ∧ Box3 w' w.heap.size (.bool ab) (.slice ap an ac) (.slice aq am ae) ∧ Box3 w' (w.heap.size + 1) (.bool cb) (.slice cp cn cc) (.slice cq cm ce) ∧ Box3 w' (w.heap.size + 2) (.bool false) (.slice none 0 0) (.slice none 0 0))
    ⟨((((Below.refl _ _).alloc (Nat.le_refl _) _).alloc (by first | (simp; done) | (simp; omega)) _).alloc (by first | (simp; done) | (simp; omega)) _), (((Box3.new _ _ _ _ rfl).alloc _).alloc _), ((Box3.new _ _ _ _ (by first | (simp; done) | (simp; omega))).alloc _), (Box3.new _ _ _ _ (by first | (simp; done) | (simp; omega)))⟩ ?_
  rintro w0 ⟨bb, x0, x1, x2⟩
  have bb := bb.drew; have x0 := x0.drew; have x1 := x1.drew; have x2 := x2.drew
  have A := A'.out.below bb; have B := B'.out.below bb
  clear A' B'
  have sa0 := True.intro
  go_region_held3 (fun w' => w'.cell? ⟨w.heap.size, 0, none⟩ = some (.bool ab) ∧ w'.cell? ⟨w.heap.size, 1, none⟩ = some (.slice ap an ac) ∧ w'.cell? ⟨w.heap.size, 2, none⟩ = some (.slice aq am ae) ∧ w'.cell? ⟨(w.heap.size + 1), 0, none⟩ = some (.bool cb) ∧ w'.cell? ⟨(w.heap.size + 1), 1, none⟩ = some (.slice cp cn cc) ∧ w'.cell? ⟨(w.heap.size + 1), 2, none⟩ = some (.slice cq cm ce))
    (first | with_reducible exact ⟨x0.c0, x0.c1, x0.c2, x1.c0, x1.c1, x1.c2⟩ | with_reducible exact ⟨(x0.other3 (by omega) _ _ _).c0, (x0.other3 (by omega) _ _ _).c1, (x0.other3 (by omega) _ _ _).c2, (x1.other3 (by omega) _ _ _).c0, (x1.other3 (by omega) _ _ _).c1, (x1.other3 (by omega) _ _ _).c2⟩ | go_keep)
    (first
    | (go_at_call 45; clear sa0; refine (upper_any ab ap aq an ac am ae _).mono ?_; rintro e w' ⟨rfl, hb⟩; have bb := below_then bb (Nat.le_refl _) hb; have x0 := x0.later hb; have x1 := x1.later hb; have x2 := x2.later hb; have A := A.below hb; have B := B.below hb; clear hb; have sa1 := True.intro)
    | (go_at_call 45; clear sa1; refine (upper_any cb cp cq cn cc cm ce _).mono ?_; rintro e w' ⟨rfl, hb⟩; have bb := below_then bb (Nat.le_refl _) hb; have x0 := x0.later hb; have x1 := x1.later hb; have x2 := x2.later hb; have A := A.below hb; have B := B.below hb; clear hb; have sa2 := True.intro)
    | (go_at_call 44; clear sa2; refine (wMul_any ab cb ap cp an ac cn cc P R _ (A.upper lA'.out) (B.upper lB'.out)).mono ?_; rintro e w' ⟨eb, eo, en, ec, rfl, h1, hb⟩; have bb := below_then bb (Nat.le_refl _) hb; have x0 := x0.later hb; have x1 := x1.later hb; have x2 := x2.later hb; have A := A.below hb; have B := B.below hb; clear hb; have sa3 := True.intro)
    | (go_at_call 46; clear sa3; refine (lower_any ab ap aq an ac am ae _).mono ?_; rintro e w' ⟨rfl, hb⟩; have bb := below_then bb (Nat.le_refl _) hb; have x0 := x0.later hb; have x1 := x1.later hb; have x2 := x2.later hb; have A := A.below hb; have B := B.below hb; have h1 := h1.below hb; clear hb; have sa4 := True.intro)
    | (go_at_call 46; clear sa4; refine (lower_any cb cp cq cn cc cm ce _).mono ?_; rintro e w' ⟨rfl, hb⟩; have bb := below_then bb (Nat.le_refl _) hb; have x0 := x0.later hb; have x1 := x1.later hb; have x2 := x2.later hb; have A := A.below hb; have B := B.below hb; have h1 := h1.below hb; clear hb; have sa5 := True.intro)
    | (go_at_call 44; clear sa5; refine (wMul_any false false aq cq am ae cm ce Q S _ (A.lower lA'.out) (B.lower lB'.out)).mono ?_; rintro e w' ⟨fb, fo, fn, fc, rfl, h2, hb⟩; have bb := below_then bb (Nat.le_refl _) hb; have x0 := x0.later hb; have x1 := x1.later hb; have x2 := x2.later hb; have A := A.below hb; have B := B.below hb; have h1 := h1.below hb; clear hb; have sa6 := True.intro)
    | (go_at_call 47; clear sa6; refine (make_any eb fb eo fo en ec fn fc (P * R) ((Q : Int) * S) _ (h1.whole (mul_32 lA'.out.abs_lt lB'.out.abs_lt) (by omega)) (h2.whole (mul_32 lA'.out.bot_lt lB'.out.bot_lt) (by omega))).mono ?_; rintro e w' ⟨gb, gp, gn, gc, gq, gm, ge, rfl, hR, hb⟩; have bb := below_then bb (Nat.le_refl _) hb; have x0 := x0.later hb; have x1 := x1.later hb; have x2 := x2.later hb; have A := A.below hb; have B := B.below hb; have h1 := h1.below hb; have h2 := h2.below hb; clear hb; have q0 := x2.c0; have q1 := x2.c1; have q2 := x2.c2; have q3 := x2.fr 0; have q4 := x2.fr 1; have q5 := x2.fr 2; have sa7 := True.intro))
  have z := x2.set (.bool gb) (.slice gp gn gc) (.slice gq gm ge)
  have e0 := z.c0; have e1 := z.c1; have e2 := z.c2
  have x2' := Lib.hid x2; have bb' := Lib.hid bb; have hR' := Lib.hid hR
  clear z x2 bb x0 x1 A B hR h1 h2
  go_wp2_with fail
  refine bodyPost_ret (v := .tuple #[.agg #[.bool gb, .slice gp gn gc, .slice gq gm ge], .int .i64 (mkE (P * R) ((Q : Int) * S))]) (by simp [results, Try.results12, go_sem, e0, e1, e2]) rfl ?_
  exact ResPost.stored hR'.out x2'.out bb'.out (by omega)

set_option maxHeartbeats 2000000 in
theorem div4_any (ab : Bool) (ap aq : Option Addr) (an ac am ae : Nat) (P : Int) (Q : Nat) (cb : Bool) (cp cq : Option Addr) (cn cc cm ce : Nat) (R : Int) (S : Nat) (w : World) (A : Rt w ab ap an ac aq am ae P Q) (lA : Low P Q) (B : Rt w cb cp cn cc cq cm ce R S) (lB : Low R S) :
    Calls Try.prog 13 #[.agg #[.bool ab, .slice ap an ac, .slice aq am ae], .agg #[.bool cb, .slice cp cn cc, .slice cq cm ce]] w (MakePost (P * S) ((Q : Int) * R) w) := by
  have lA' := Lib.hid lA; have lB' := Lib.hid lB
  have A' := Lib.hid A; have B' := Lib.hid B
  clear lA A lB B
  go_enter Try.func13, Try.ntmps13
  go_wp2_with fail
  refine gen_wp (fun w' => Below w.heap.size w w' ∧ Box3 w' w.heap.size (.bool ab) (.slice ap an ac) (.slice aq am ae) ∧ Box3 w' (w.heap.size + 1) (.bool cb) (.slice cp cn cc) (.slice cq cm ce) ∧ Box3 w' (w.heap.size + 2) (.bool false) (.slice none 0 0) (.slice none 0 0))
    ⟨((((Below.refl _ _).alloc (Nat.le_refl _) _).alloc (by first | (simp; done) | (simp; omega)) _).alloc (by first | (simp; done) | (simp; omega)) _), (((Box3.new _ _ _ _ rfl).alloc _).alloc _), ((Box3.new _ _ _ _ (by first | (simp; done) | (simp; omega))).alloc _), (Box3.new _ _ _ _ (by first | (simp; done) | (simp; omega)))⟩ ?_
  rintro w0 ⟨bb, x0, x1, x2⟩
  have bb := bb.drew; have x0 := x0.drew; have x1 := x1.drew; have x2 := x2.drew
  have A := A'.out.below bb; have B := B'.out.below bb
  clear A' B'
  have sb0 := True.intro
  go_region_held3 (fun w' => w'.cell? ⟨w.heap.size, 0, none⟩ = some (.bool ab) ∧ w'.cell? ⟨w.heap.size, 1, none⟩ = some (.slice ap an ac) ∧ w'.cell? ⟨w.heap.size, 2, none⟩ = some (.slice aq am ae) ∧ w'.cell? ⟨(w.heap.size + 1), 0, none⟩ = some (.bool cb) ∧ w'.cell? ⟨(w.heap.size + 1), 1, none⟩ = some (.slice cp cn cc) ∧ w'.cell? ⟨(w.heap.size + 1), 2, none⟩ = some (.slice cq cm ce))
    (first | with_reducible exact ⟨x0.c0, x0.c1, x0.c2, x1.c0, x1.c1, x1.c2⟩ | with_reducible exact ⟨(x0.other3 (by omega) _ _ _).c0, (x0.other3 (by omega) _ _ _).c1, (x0.other3 (by omega) _ _ _).c2, (x1.other3 (by omega) _ _ _).c0, (x1.other3 (by omega) _ _ _).c1, (x1.other3 (by omega) _ _ _).c2⟩ | go_keep)
    (first
    | (go_at_call 45; clear sb0; refine (upper_any ab ap aq an ac am ae _).mono ?_; rintro e w' ⟨rfl, hb⟩; have bb := below_then bb (Nat.le_refl _) hb; have x0 := x0.later hb; have x1 := x1.later hb; have x2 := x2.later hb; have A := A.below hb; have B := B.below hb; clear hb; have sb1 := True.intro)
    | (go_at_call 46; clear sb1; refine (lower_any cb cp cq cn cc cm ce _).mono ?_; rintro e w' ⟨rfl, hb⟩; have bb := below_then bb (Nat.le_refl _) hb; have x0 := x0.later hb; have x1 := x1.later hb; have x2 := x2.later hb; have A := A.below hb; have B := B.below hb; clear hb; have sb2 := True.intro)
    | (go_at_call 44; clear sb2; refine (wMul_any ab false ap cq an ac cm ce P S _ (A.upper lA'.out) (B.lower lB'.out)).mono ?_; rintro e w' ⟨eb, eo, en, ec, rfl, h1, hb⟩; have bb := below_then bb (Nat.le_refl _) hb; have x0 := x0.later hb; have x1 := x1.later hb; have x2 := x2.later hb; have A := A.below hb; have B := B.below hb; clear hb; have sb3 := True.intro)
    | (go_at_call 46; clear sb3; refine (lower_any ab ap aq an ac am ae _).mono ?_; rintro e w' ⟨rfl, hb⟩; have bb := below_then bb (Nat.le_refl _) hb; have x0 := x0.later hb; have x1 := x1.later hb; have x2 := x2.later hb; have A := A.below hb; have B := B.below hb; have h1 := h1.below hb; clear hb; have sb4 := True.intro)
    | (go_at_call 45; clear sb4; refine (upper_any cb cp cq cn cc cm ce _).mono ?_; rintro e w' ⟨rfl, hb⟩; have bb := below_then bb (Nat.le_refl _) hb; have x0 := x0.later hb; have x1 := x1.later hb; have x2 := x2.later hb; have A := A.below hb; have B := B.below hb; have h1 := h1.below hb; clear hb; have sb5 := True.intro)
    | (go_at_call 44; clear sb5; refine (wMul_any false cb aq cp am ae cn cc Q R _ (A.lower lA'.out) (B.upper lB'.out)).mono ?_; rintro e w' ⟨fb, fo, fn, fc, rfl, h2, hb⟩; have bb := below_then bb (Nat.le_refl _) hb; have x0 := x0.later hb; have x1 := x1.later hb; have x2 := x2.later hb; have A := A.below hb; have B := B.below hb; have h1 := h1.below hb; clear hb; have sb6 := True.intro)
    | (go_at_call 47; clear sb6; refine (make_any eb fb eo fo en ec fn fc (P * S) ((Q : Int) * R) _ (h1.whole (mul_32 lA'.out.abs_lt lB'.out.bot_lt) (by omega)) (h2.whole (mul_32 lA'.out.bot_lt lB'.out.abs_lt) (by omega))).mono ?_; rintro e w' ⟨gb, gp, gn, gc, gq, gm, ge, rfl, hR, hb⟩; have bb := below_then bb (Nat.le_refl _) hb; have x0 := x0.later hb; have x1 := x1.later hb; have x2 := x2.later hb; have A := A.below hb; have B := B.below hb; have h1 := h1.below hb; have h2 := h2.below hb; clear hb; have q0 := x2.c0; have q1 := x2.c1; have q2 := x2.c2; have q3 := x2.fr 0; have q4 := x2.fr 1; have q5 := x2.fr 2; have sb7 := True.intro))
  have z := x2.set (.bool gb) (.slice gp gn gc) (.slice gq gm ge)
  have e0 := z.c0; have e1 := z.c1; have e2 := z.c2
  have x2' := Lib.hid x2; have bb' := Lib.hid bb; have hR' := Lib.hid hR
  clear z x2 bb x0 x1 A B hR h1 h2
  go_wp2_with fail
  refine bodyPost_ret (v := .tuple #[.agg #[.bool gb, .slice gp gn gc, .slice gq gm ge], .int .i64 (mkE (P * S) ((Q : Int) * R))]) (by simp [results, Try.results13, go_sem, e0, e1, e2]) rfl ?_
  exact ResPost.stored hR'.out x2'.out bb'.out (by omega)

theorem sum_64 {x y : Int} (hx : x.natAbs < pw 64) (hy : y.natAbs < pw 64) : (x + y).natAbs < pw 65 := add_abs hx hy

set_option maxRecDepth 20000 in
set_option maxHeartbeats 4000000 in
theorem add4_any (ab : Bool) (ap aq : Option Addr) (an ac am ae : Nat) (P : Int) (Q : Nat) (cb : Bool) (cp cq : Option Addr) (cn cc cm ce : Nat) (R : Int) (S : Nat) (w : World) (A : Rt w ab ap an ac aq am ae P Q) (lA : Low P Q) (B : Rt w cb cp cn cc cq cm ce R S) (lB : Low R S) :
    Calls Try.prog 10 #[.agg #[.bool ab, .slice ap an ac, .slice aq am ae], .agg #[.bool cb, .slice cp cn cc, .slice cq cm ce]] w (MakePost (P * S + R * Q) ((Q : Int) * S) w) := by
  have lA' := Lib.hid lA; have lB' := Lib.hid lB
  have A' := Lib.hid A; have B' := Lib.hid B
  clear lA A lB B
  go_enter Try.func10, Try.ntmps10
  go_wp2_with fail
  refine gen_wp (fun w' => Below w.heap.size w w' ∧ Box3 w' w.heap.size (.bool ab) (.slice ap an ac) (.slice aq am ae) ∧ Box3 w' (w.heap.size + 1) (.bool cb) (.slice cp cn cc) (.slice cq cm ce) ∧ Box3 w' (w.heap.size + 2) (.bool false) (.slice none 0 0) (.slice none 0 0))
    ⟨((((Below.refl _ _).alloc (Nat.le_refl _) _).alloc (by first | (simp; done) | (simp; omega)) _).alloc (by first | (simp; done) | (simp; omega)) _), (((Box3.new _ _ _ _ rfl).alloc _).alloc _), ((Box3.new _ _ _ _ (by first | (simp; done) | (simp; omega))).alloc _), (Box3.new _ _ _ _ (by first | (simp; done) | (simp; omega)))⟩ ?_
  rintro u0 ⟨bb, x0, x1, x2⟩
  have A := A'.out.below bb; have B := B'.out.below bb
  clear A' B'
  go_cut [6] from 18 to 27 (fun t wx => ∃ B eb eo en ec, t = .pointer (some ⟨B, 0, none⟩) ∧ Box wx B (.bool eb) (.slice eo en ec) ∧ Box3 wx w.heap.size (.bool ab) (.slice ap an ac) (.slice aq am ae) ∧ Box3 wx (w.heap.size + 1) (.bool cb) (.slice cp cn cc) (.slice cq cm ce) ∧ Box3 wx (w.heap.size + 2) (.bool false) (.slice none 0 0) (.slice none 0 0) ∧ Rt wx ab ap an ac aq am ae P Q ∧ Rt wx cb cp cn cc cq cm ce R S ∧ Right wx eb eo en ec (P * S + R * Q) ∧ Below w.heap.size w wx ∧ w.heap.size + 2 < B)
  case first =>
    have lx0 := x0.lt
    have lx1 := x1.lt
    have lx2 := x2.lt
    have bs := bb.size
    have sc0 := True.intro
    go_region_held3 (fun w' => w'.cell? ⟨w.heap.size, 0, none⟩ = some (.bool ab) ∧ w'.cell? ⟨w.heap.size, 1, none⟩ = some (.slice ap an ac) ∧ w'.cell? ⟨w.heap.size, 2, none⟩ = some (.slice aq am ae) ∧ w'.cell? ⟨(w.heap.size + 1), 0, none⟩ = some (.bool cb) ∧ w'.cell? ⟨(w.heap.size + 1), 1, none⟩ = some (.slice cp cn cc) ∧ w'.cell? ⟨(w.heap.size + 1), 2, none⟩ = some (.slice cq cm ce))
      (first | with_reducible exact ⟨(x0.drew).c0, (x0.drew).c1, (x0.drew).c2, (x1.drew).c0, (x1.drew).c1, (x1.drew).c2⟩ | with_reducible exact ⟨((x0.alloc _).drew).c0, ((x0.alloc _).drew).c1, ((x0.alloc _).drew).c2, ((x1.alloc _).drew).c0, ((x1.alloc _).drew).c1, ((x1.alloc _).drew).c2⟩ | with_reducible exact ⟨x0.c0, x0.c1, x0.c2, x1.c0, x1.c1, x1.c2⟩ | with_reducible exact ⟨(x0.alloc _).c0, (x0.alloc _).c1, (x0.alloc _).c2, (x1.alloc _).c0, (x1.alloc _).c1, (x1.alloc _).c2⟩ | with_reducible exact ⟨(x0.other (by omega) _ _).c0, (x0.other (by omega) _ _).c1, (x0.other (by omega) _ _).c2, (x1.other (by omega) _ _).c0, (x1.other (by omega) _ _).c1, (x1.other (by omega) _ _).c2⟩ | go_keep)
      (first
      | (go_at_call 45; clear sc0; refine (upper_any ab ap aq an ac am ae _).mono ?_; rintro e u1 ⟨rfl, hb⟩; have hc : Below u0.heap.size u0 u1 := (by first | exact (Below.refl _ _).drew.trans hb | exact ((Below.refl _ _).alloc (by first | exact Nat.le_refl _ | (simp; done) | (simp; omega)) _).drew.trans (hb.mono (by first | (simp; done) | (simp; omega)))); have hz0 := hc.size; have x0 := x0.later hc; have x1 := x1.later hc; have x2 := x2.later hc; have A := A.below hc; have B := B.below hc; have bb := below_then bb (Nat.le_refl _) hc; (first | (with_reducible have m10 := made1' hb) | skip); (try have k10 := m10.lt); clear hb hc; have sc1 := True.intro)
      | (go_at_call 46; clear sc1; refine (lower_any cb cp cq cn cc cm ce _).mono ?_; rintro e u2 ⟨rfl, hb⟩; have hc : Below u1.heap.size u1 u2 := (by first | with_reducible exact hb | exact ((Below.refl _ _).alloc (by first | exact Nat.le_refl _ | (simp; done) | (simp; omega)) _).trans (hb.mono (by first | (simp; done) | (simp; omega)))); have hz1 := hc.size; have x0 := x0.later hc; have x1 := x1.later hc; have x2 := x2.later hc; have A := A.below hc; have B := B.below hc; have bb := below_then bb (Nat.le_refl _) hc; (try have m10 := m10.later hc); (first | (with_reducible have m20 := made1 hb) | skip); (try have k20 := m20.lt); clear hb hc; have sc2 := True.intro)
      | (go_at_call 44; clear sc2; refine (wMul_any ab false ap cq an ac cm ce P S _ ?_ ?_).mono ?_; (first | with_reducible exact (A).upper lA'.out | with_reducible exact ((A.alloc _)).upper lA'.out); (first | with_reducible exact (B).lower lB'.out | with_reducible exact ((B.alloc _)).lower lB'.out); rintro e u3 ⟨db, do_, dn, dc, rfl, h1, hb⟩; have hc : Below u2.heap.size u2 u3 := (by first | with_reducible exact hb | exact ((Below.refl _ _).alloc (by first | exact Nat.le_refl _ | (simp; done) | (simp; omega)) _).trans (hb.mono (by first | (simp; done) | (simp; omega)))); have hz2 := hc.size; have x0 := x0.later hc; have x1 := x1.later hc; have x2 := x2.later hc; have A := A.below hc; have B := B.below hc; have bb := below_then bb (Nat.le_refl _) hc; (try have m10 := m10.later hc); (try have m20 := m20.later hc); (first | (with_reducible have m30 := made1 hb) | skip); (try have k30 := m30.lt); clear hb hc; have sc3 := True.intro)
      | (go_at_call 45; clear sc3; refine (upper_any cb cp cq cn cc cm ce _).mono ?_; rintro e u4 ⟨rfl, hb⟩; have hc : Below u3.heap.size u3 u4 := (by first | with_reducible exact hb | exact ((Below.refl _ _).alloc (by first | exact Nat.le_refl _ | (simp; done) | (simp; omega)) _).trans (hb.mono (by first | (simp; done) | (simp; omega)))); have hz3 := hc.size; have x0 := x0.later hc; have x1 := x1.later hc; have x2 := x2.later hc; have A := A.below hc; have B := B.below hc; have h1 := h1.below hc; have bb := below_then bb (Nat.le_refl _) hc; (try have m10 := m10.later hc); (try have m20 := m20.later hc); (try have m30 := m30.later hc); (first | (with_reducible have m40 := made1 hb) | skip); (try have k40 := m40.lt); clear hb hc; have sc4 := True.intro)
      | (go_at_call 46; clear sc4; refine (lower_any ab ap aq an ac am ae _).mono ?_; rintro e u5 ⟨rfl, hb⟩; have hc : Below u4.heap.size u4 u5 := (by first | with_reducible exact hb | exact ((Below.refl _ _).alloc (by first | exact Nat.le_refl _ | (simp; done) | (simp; omega)) _).trans (hb.mono (by first | (simp; done) | (simp; omega)))); have hz4 := hc.size; have x0 := x0.later hc; have x1 := x1.later hc; have x2 := x2.later hc; have A := A.below hc; have B := B.below hc; have h1 := h1.below hc; have bb := below_then bb (Nat.le_refl _) hc; (try have m10 := m10.later hc); (try have m20 := m20.later hc); (try have m30 := m30.later hc); (try have m40 := m40.later hc); (first | (with_reducible have m50 := made1 hb) | skip); (try have k50 := m50.lt); clear hb hc; have sc5 := True.intro)
      | (go_at_call 44; clear sc5; refine (wMul_any cb false cp aq cn cc am ae R Q _ ?_ ?_).mono ?_; (first | with_reducible exact (B).upper lB'.out | with_reducible exact ((B.alloc _)).upper lB'.out); (first | with_reducible exact (A).lower lA'.out | with_reducible exact ((A.alloc _)).lower lA'.out); rintro e u6 ⟨fb, fo, fn, fc, rfl, h2, hb⟩; have hc : Below u5.heap.size u5 u6 := (by first | with_reducible exact hb | exact ((Below.refl _ _).alloc (by first | exact Nat.le_refl _ | (simp; done) | (simp; omega)) _).trans (hb.mono (by first | (simp; done) | (simp; omega)))); have hz5 := hc.size; have x0 := x0.later hc; have x1 := x1.later hc; have x2 := x2.later hc; have A := A.below hc; have B := B.below hc; have h1 := h1.below hc; have bb := below_then bb (Nat.le_refl _) hc; (try have m10 := m10.later hc); (try have m20 := m20.later hc); (try have m30 := m30.later hc); (try have m40 := m40.later hc); (try have m50 := m50.later hc); (first | (with_reducible have m60 := made1 hb) | skip); (try have k60 := m60.lt); clear hb hc; have sc6 := True.intro)
      | (go_at_call 43; clear sc6; refine (wAdd_any db fb do_ fo dn dc fn fc (P * S) (R * Q) _ ?_ ?_).mono ?_; (first | with_reducible exact (h1).whole (mul_32 lA'.out.abs_lt lB'.out.bot_lt) (by omega) | with_reducible exact ((h1.alloc _)).whole (mul_32 lA'.out.abs_lt lB'.out.bot_lt) (by omega)); (first | with_reducible exact (h2).whole (mul_32 lB'.out.abs_lt lA'.out.bot_lt) (by omega) | with_reducible exact ((h2.alloc _)).whole (mul_32 lB'.out.abs_lt lA'.out.bot_lt) (by omega)); rintro e u7 ⟨eb, eo, en, ec, rfl, h3, hb⟩; have hc : Below u6.heap.size u6 u7 := (by first | with_reducible exact hb | exact ((Below.refl _ _).alloc (by first | exact Nat.le_refl _ | (simp; done) | (simp; omega)) _).trans (hb.mono (by first | (simp; done) | (simp; omega)))); have hz6 := hc.size; have x0 := x0.later hc; have x1 := x1.later hc; have x2 := x2.later hc; have A := A.below hc; have B := B.below hc; have h1 := h1.below hc; have h2 := h2.below hc; have bb := below_then bb (Nat.le_refl _) hc; (try have m10 := m10.later hc); (try have m20 := m20.later hc); (try have m30 := m30.later hc); (try have m40 := m40.later hc); (try have m50 := m50.later hc); (try have m60 := m60.later hc); (first | (with_reducible have m70 := made1 hb) | skip); (try have k70 := m70.lt); (try (have f100 := m10.c0; have f101 := m10.c1; have f102 := m10.fr 0; have f103 := m10.fr 1)); (try (have f200 := m20.c0; have f201 := m20.c1; have f202 := m20.fr 0; have f203 := m20.fr 1)); (try (have f300 := m30.c0; have f301 := m30.c1; have f302 := m30.fr 0; have f303 := m30.fr 1)); (try (have f400 := m40.c0; have f401 := m40.c1; have f402 := m40.fr 0; have f403 := m40.fr 1)); (try (have f500 := m50.c0; have f501 := m50.c1; have f502 := m50.fr 0; have f503 := m50.fr 1)); (try (have f600 := m60.c0; have f601 := m60.c1; have f602 := m60.fr 0; have f603 := m60.fr 1)); (try (have f700 := m70.c0; have f701 := m70.c1; have f702 := m70.fr 0; have f703 := m70.fr 1)); clear hb hc; have sc7 := True.intro))
    · go_wp2_with fail; go_meet; exact ⟨_, eb, eo, en, ec, rfl, (Box.new _ _ _ (by first | (simp; done) | rfl)), (x0.alloc _), (x1.alloc _), (x2.alloc _), (A.alloc _), (B.alloc _), (h3.alloc _), (Below.alloc bb (by first | omega | (simp; omega) | (simp; done)) _), (by first | omega | (simp; omega))⟩
    · go_wp2_with fail; go_meet; exact ⟨_, eb, eo, en, ec, rfl, (m70.set _ _), (x0.other (by omega) _ _), (x1.other (by omega) _ _), (x2.other (by omega) _ _), (A.box m70 _ _), (B.box m70 _ _), (h3.box m70 _ _), (below_set bb (by omega) _ _), (by first | omega | (simp; omega))⟩
    · go_wp2_with fail; go_meet; exact ⟨_, eb, eo, en, ec, rfl, (m60.set _ _), (x0.other (by omega) _ _), (x1.other (by omega) _ _), (x2.other (by omega) _ _), (A.box m60 _ _), (B.box m60 _ _), (h3.box m60 _ _), (below_set bb (by omega) _ _), (by first | omega | (simp; omega))⟩
    · go_wp2_with fail; go_meet; exact ⟨_, eb, eo, en, ec, rfl, (m50.set _ _), (x0.other (by omega) _ _), (x1.other (by omega) _ _), (x2.other (by omega) _ _), (A.box m50 _ _), (B.box m50 _ _), (h3.box m50 _ _), (below_set bb (by omega) _ _), (by first | omega | (simp; omega))⟩
    · go_wp2_with fail; go_meet; exact ⟨_, eb, eo, en, ec, rfl, (m40.set _ _), (x0.other (by omega) _ _), (x1.other (by omega) _ _), (x2.other (by omega) _ _), (A.box m40 _ _), (B.box m40 _ _), (h3.box m40 _ _), (below_set bb (by omega) _ _), (by first | omega | (simp; omega))⟩
    · go_wp2_with fail; go_meet; exact ⟨_, eb, eo, en, ec, rfl, (m30.set _ _), (x0.other (by omega) _ _), (x1.other (by omega) _ _), (x2.other (by omega) _ _), (A.box m30 _ _), (B.box m30 _ _), (h3.box m30 _ _), (below_set bb (by omega) _ _), (by first | omega | (simp; omega))⟩
    · go_wp2_with fail; go_meet; exact ⟨_, eb, eo, en, ec, rfl, (m20.set _ _), (x0.other (by omega) _ _), (x1.other (by omega) _ _), (x2.other (by omega) _ _), (A.box m20 _ _), (B.box m20 _ _), (h3.box m20 _ _), (below_set bb (by omega) _ _), (by first | omega | (simp; omega))⟩
    · go_wp2_with fail; go_meet; exact ⟨_, eb, eo, en, ec, rfl, (m10.set _ _), (x0.other (by omega) _ _), (x1.other (by omega) _ _), (x2.other (by omega) _ _), (A.box m10 _ _), (B.box m10 _ _), (h3.box m10 _ _), (below_set bb (by omega) _ _), (by first | omega | (simp; omega))⟩
  case rest =>
    obtain ⟨Y, eb, eo, en, ec, rfl, y, x0, x1, x2, A, B, h1, bb, hY⟩ := hcut
    go_wp2_with fail
    have bb := bb.drew; have x0 := x0.drew; have x1 := x1.drew; have x2 := x2.drew; have y := y.drew; have A := A.drew; have B := B.drew; have h1 := h1.drew'
    have sd0 := True.intro
    go_region_held3 (fun w' => w'.cell? ⟨w.heap.size, 0, none⟩ = some (.bool ab) ∧ w'.cell? ⟨w.heap.size, 1, none⟩ = some (.slice ap an ac) ∧ w'.cell? ⟨w.heap.size, 2, none⟩ = some (.slice aq am ae) ∧ w'.cell? ⟨(w.heap.size + 1), 0, none⟩ = some (.bool cb) ∧ w'.cell? ⟨(w.heap.size + 1), 1, none⟩ = some (.slice cp cn cc) ∧ w'.cell? ⟨(w.heap.size + 1), 2, none⟩ = some (.slice cq cm ce) ∧ w'.cell? ⟨Y, 0, none⟩ = some (.bool eb) ∧ w'.cell? ⟨Y, 1, none⟩ = some (.slice eo en ec))
      (first | with_reducible exact ⟨x0.c0, x0.c1, x0.c2, x1.c0, x1.c1, x1.c2, y.c0, y.c1⟩ | with_reducible exact ⟨(x0.other3 (by omega) _ _ _).c0, (x0.other3 (by omega) _ _ _).c1, (x0.other3 (by omega) _ _ _).c2, (x1.other3 (by omega) _ _ _).c0, (x1.other3 (by omega) _ _ _).c1, (x1.other3 (by omega) _ _ _).c2, (y.other3 (by omega) _ _ _).c0, (y.other3 (by omega) _ _ _).c1⟩ | go_keep)
      (first
      | (go_at_call 46; clear sd0; refine (lower_any ab ap aq an ac am ae _).mono ?_; rintro e w' ⟨rfl, hb⟩; have bb := below_then bb (Nat.le_refl _) hb; have x0 := x0.later hb; have x1 := x1.later hb; have x2 := x2.later hb; have y := y.later hb; have A := A.below hb; have B := B.below hb; have h1 := h1.below hb; clear hb; have sd1 := True.intro)
      | (go_at_call 46; clear sd1; refine (lower_any cb cp cq cn cc cm ce _).mono ?_; rintro e w' ⟨rfl, hb⟩; have bb := below_then bb (Nat.le_refl _) hb; have x0 := x0.later hb; have x1 := x1.later hb; have x2 := x2.later hb; have y := y.later hb; have A := A.below hb; have B := B.below hb; have h1 := h1.below hb; clear hb; have sd2 := True.intro)
      | (go_at_call 44; clear sd2; refine (wMul_any false false aq cq am ae cm ce Q S _ (A.lower lA'.out) (B.lower lB'.out)).mono ?_; rintro e w' ⟨fb, fo, fn, fc, rfl, h2, hb⟩; have bb := below_then bb (Nat.le_refl _) hb; have x0 := x0.later hb; have x1 := x1.later hb; have x2 := x2.later hb; have y := y.later hb; have A := A.below hb; have B := B.below hb; have h1 := h1.below hb; clear hb; have sd3 := True.intro)
      | (go_at_call 47; clear sd3; refine (make_any eb fb eo fo en ec fn fc (P * S + R * Q) ((Q : Int) * S) _ (h1.whole (sum_64 (mul_32 lA'.out.abs_lt lB'.out.bot_lt) (mul_32 lB'.out.abs_lt lA'.out.bot_lt)) (by omega)) (h2.whole (mul_32 lA'.out.bot_lt lB'.out.bot_lt) (by omega))).mono ?_; rintro e w' ⟨gb, gp, gn, gc, gq, gm, ge, rfl, hR, hb⟩; have bb := below_then bb (Nat.le_refl _) hb; have x0 := x0.later hb; have x1 := x1.later hb; have x2 := x2.later hb; have y := y.later hb; have A := A.below hb; have B := B.below hb; have h1 := h1.below hb; have h2 := h2.below hb; clear hb; have q0 := x2.c0; have q1 := x2.c1; have q2 := x2.c2; have q3 := x2.fr 0; have q4 := x2.fr 1; have q5 := x2.fr 2; have sd4 := True.intro))
    have z := x2.set (.bool gb) (.slice gp gn gc) (.slice gq gm ge)
    have e0 := z.c0; have e1 := z.c1; have e2 := z.c2
    have x2' := Lib.hid x2; have bb' := Lib.hid bb; have hR' := Lib.hid hR
    clear z x2 bb x0 x1 y A B hR h1 h2
    go_wp2_with fail
    refine bodyPost_ret (v := .tuple #[.agg #[.bool gb, .slice gp gn gc, .slice gq gm ge], .int .i64 (mkE (P * S + R * Q) ((Q : Int) * S))]) (by simp [results, Try.results10, go_sem, e0, e1, e2]) rfl ?_
    exact ResPost.stored hR'.out x2'.out bb'.out (by omega)

set_option maxHeartbeats 2000000 in
theorem sub4_any (ab : Bool) (ap aq : Option Addr) (an ac am ae : Nat) (P : Int) (Q : Nat) (cb : Bool) (cp cq : Option Addr) (cn cc cm ce : Nat) (R : Int) (S : Nat) (w : World) (A : Rt w ab ap an ac aq am ae P Q) (lA : Low P Q) (B : Rt w cb cp cn cc cq cm ce R S) (lB : Low R S) :
    Calls Try.prog 11 #[.agg #[.bool ab, .slice ap an ac, .slice aq am ae], .agg #[.bool cb, .slice cp cn cc, .slice cq cm ce]] w (MakePost (P * S + -R * Q) ((Q : Int) * S) w) := by
  have lA' := Lib.hid lA; have lB' := Lib.hid lB
  have A' := Lib.hid A; have B' := Lib.hid B
  clear lA A lB B
  go_enter Try.func11, Try.ntmps11
  go_wp2_with fail
  refine gen_wp (fun w' => Below w.heap.size w w' ∧ Box3 w' w.heap.size (.bool ab) (.slice ap an ac) (.slice aq am ae) ∧ Box3 w' (w.heap.size + 1) (.bool cb) (.slice cp cn cc) (.slice cq cm ce) ∧ Box3 w' (w.heap.size + 2) (.bool false) (.slice none 0 0) (.slice none 0 0))
    ⟨((((Below.refl _ _).alloc (Nat.le_refl _) _).alloc (by first | (simp; done) | (simp; omega)) _).alloc (by first | (simp; done) | (simp; omega)) _), (((Box3.new _ _ _ _ rfl).alloc _).alloc _), ((Box3.new _ _ _ _ (by first | (simp; done) | (simp; omega))).alloc _), (Box3.new _ _ _ _ (by first | (simp; done) | (simp; omega)))⟩ ?_
  rintro w0 ⟨bb, x0, x1, x2⟩
  have bb := bb.drew; have x0 := x0.drew; have x1 := x1.drew; have x2 := x2.drew
  have A := A'.out.below bb; have B := B'.out.below bb
  clear A' B'
  have se0 := True.intro
  go_region_held3 (fun w' => w'.cell? ⟨w.heap.size, 0, none⟩ = some (.bool ab) ∧ w'.cell? ⟨w.heap.size, 1, none⟩ = some (.slice ap an ac) ∧ w'.cell? ⟨w.heap.size, 2, none⟩ = some (.slice aq am ae) ∧ w'.cell? ⟨(w.heap.size + 1), 0, none⟩ = some (.bool cb) ∧ w'.cell? ⟨(w.heap.size + 1), 1, none⟩ = some (.slice cp cn cc) ∧ w'.cell? ⟨(w.heap.size + 1), 2, none⟩ = some (.slice cq cm ce))
    (first | with_reducible exact ⟨x0.c0, x0.c1, x0.c2, x1.c0, x1.c1, x1.c2⟩ | with_reducible exact ⟨(x0.other3 (by omega) _ _ _).c0, (x0.other3 (by omega) _ _ _).c1, (x0.other3 (by omega) _ _ _).c2, (x1.other3 (by omega) _ _ _).c0, (x1.other3 (by omega) _ _ _).c1, (x1.other3 (by omega) _ _ _).c2⟩ | go_keep)
    (first
    | (go_at_call 30; clear se0; refine (neg_any cb cp cq cn cc cm ce R S _ B lB'.out).mono ?_; rintro e w' ⟨db, dp, dn, dc, dq, dm, de, rfl, N, hb⟩; have bb := below_then bb (Nat.le_refl _) hb; have x0 := x0.later hb; have x1 := x1.later hb; have x2 := x2.later hb; have A := A.below hb; have B := B.below hb; clear hb; have se1 := True.intro)
    | (go_at_call 10; clear se1; refine (add4_any ab ap aq an ac am ae P Q db dp dq dn dc dm de (-R) S _ A lA'.out N lB'.out.neg).mono ?_; rintro e w' ⟨gb, gp, gn, gc, gq, gm, ge, rfl, hR, hb⟩; have bb := below_then bb (Nat.le_refl _) hb; have x0 := x0.later hb; have x1 := x1.later hb; have x2 := x2.later hb; have A := A.below hb; have B := B.below hb; have N := N.below hb; clear hb; have q0 := x2.c0; have q1 := x2.c1; have q2 := x2.c2; have q3 := x2.fr 0; have q4 := x2.fr 1; have q5 := x2.fr 2; have se2 := True.intro))
  have z := x2.set (.bool gb) (.slice gp gn gc) (.slice gq gm ge)
  have e0 := z.c0; have e1 := z.c1; have e2 := z.c2
  have x2' := Lib.hid x2; have bb' := Lib.hid bb; have hR' := Lib.hid hR
  clear z x2 bb x0 x1 A B hR N
  go_wp2_with fail
  refine bodyPost_ret (v := .tuple #[.agg #[.bool gb, .slice gp gn gc, .slice gq gm ge], .int .i64 (mkE (P * S + -R * Q) ((Q : Int) * S))]) (by simp [results, Try.results11, go_sem, e0, e1, e2]) rfl ?_
  exact ResPost.stored hR'.out x2'.out bb'.out (by omega)

end Go.Proofs.Ytnnipciifjpooaa
