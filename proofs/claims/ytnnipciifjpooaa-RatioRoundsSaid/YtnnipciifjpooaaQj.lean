/-
  scrimref04.Floor, Mod.
-/
import Derived.Test.YtnnipciifjpooaaQi
import Derived.Test.YtnnipciifjpooaaRd
namespace Go.Proofs.Ytnnipciifjpooaa
open Go.RowKit Num

attribute [local go_sem ↓] Go.wp_at_zero Go.wp_at_succ

set_option maxRecDepth 20000 in
set_option maxHeartbeats 4000000 in
theorem rFloor_any (ab : Bool) (ap aq : Option Addr) (an ac am ae : Nat) (P : Int) (Q : Nat) (w : World) (A : Rt w ab ap an ac aq am ae P Q) (lA : Low P Q) :
    Calls Try.prog 27 #[.agg #[.bool ab, .slice ap an ac, .slice aq am ae]] w (RatPost (P.fdiv Q) 1 w) := by
  have lA' := Lib.hid lA
  have A' := Lib.hid A
  clear lA A
  go_enter Try.func27, Try.ntmps27
  go_wp2_with fail
  refine gen_wp (fun w' => Below w.heap.size w w' ∧ Box3 w' w.heap.size (.bool ab) (.slice ap an ac) (.slice aq am ae) ∧ Box3 w' (w.heap.size + 1) (.bool false) (.slice none 0 0) (.slice none 0 0))
    ⟨(((Below.refl _ _).alloc (Nat.le_refl _) _).alloc (by first | (simp; done) | (simp; omega)) _), ((Box3.new _ _ _ _ rfl).alloc _), (Box3.new _ _ _ _ (by first | (simp; done) | (simp; omega)))⟩ ?_
  rintro u0 ⟨bb, x0, x1⟩
  have A := A'.out.below bb
  clear A'
  go_cut [3] from 15 to 17 (fun t wx => ∃ B eb eo en ec, t = .pointer (some ⟨B, 0, none⟩) ∧ Box wx B (.bool eb) (.slice eo en ec) ∧ Box3 wx (w.heap.size + 1) (.bool false) (.slice none 0 0) (.slice none 0 0) ∧ Right wx eb eo en ec (P.fdiv Q) ∧ Below w.heap.size w wx ∧ w.heap.size + 1 < B)
  case first =>
    have lx0 := x0.lt
    have lx1 := x1.lt
    have bs := bb.size
    have sa0 := True.intro
    go_region_held3 (fun w' => w'.cell? ⟨w.heap.size, 0, none⟩ = some (.bool ab) ∧ w'.cell? ⟨w.heap.size, 1, none⟩ = some (.slice ap an ac) ∧ w'.cell? ⟨w.heap.size, 2, none⟩ = some (.slice aq am ae))
      (first | with_reducible exact ⟨(x0.drew).c0, (x0.drew).c1, (x0.drew).c2⟩ | with_reducible exact ⟨((x0.alloc _).drew).c0, ((x0.alloc _).drew).c1, ((x0.alloc _).drew).c2⟩ | with_reducible exact ⟨(((x0.alloc _).alloc _).drew).c0, (((x0.alloc _).alloc _).drew).c1, (((x0.alloc _).alloc _).drew).c2⟩ | with_reducible exact ⟨x0.c0, x0.c1, x0.c2⟩ | with_reducible exact ⟨(x0.alloc _).c0, (x0.alloc _).c1, (x0.alloc _).c2⟩ | with_reducible exact ⟨((x0.alloc _).alloc _).c0, ((x0.alloc _).alloc _).c1, ((x0.alloc _).alloc _).c2⟩ | with_reducible exact ⟨(x0.other (by omega) _ _).c0, (x0.other (by omega) _ _).c1, (x0.other (by omega) _ _).c2⟩ | with_reducible exact ⟨((x0.other (by omega) _ _).alloc _).c0, ((x0.other (by omega) _ _).alloc _).c1, ((x0.other (by omega) _ _).alloc _).c2⟩ | with_reducible exact ⟨((x0.other (by omega) _ _).other (by omega) _ _).c0, ((x0.other (by omega) _ _).other (by omega) _ _).c1, ((x0.other (by omega) _ _).other (by omega) _ _).c2⟩ | go_keep)
      (first
      | (go_at_call 39; clear sa0; refine (rTop_any ab ap aq an ac am ae P _ ?_).mono ?_; (first | with_reducible exact ((A.drew)).upper lA'.out | with_reducible exact (((A.alloc _).drew)).upper lA'.out | with_reducible exact ((((A.alloc _).alloc _).drew)).upper lA'.out); rintro e u1 ⟨db, do_, dn, dc, rfl, d1, hb⟩; have hc : Below u0.heap.size u0 u1 := (by first | exact (Below.refl _ _).drew.trans hb | exact ((Below.refl _ _).alloc (by first | exact Nat.le_refl _ | (simp; done) | (simp; omega)) _).drew.trans (hb.mono (by first | (simp; done) | (simp; omega))) | exact (((Below.refl _ _).alloc (by first | exact Nat.le_refl _ | (simp; done) | (simp; omega)) _).alloc (by first | exact Nat.le_refl _ | (simp; done) | (simp; omega)) _).drew.trans (hb.mono (by first | (simp; done) | (simp; omega)))); have hz0 := hc.size; have x0 := x0.later hc; have x1 := x1.later hc; have A := A.below hc; have bb := below_then bb (Nat.le_refl _) hc; (first | (with_reducible have mm := made2' hb; obtain ⟨m10, m11⟩ := mm) | (with_reducible have m10 := made1' hb) | skip); (try have k10 := m10.lt); (try have k11 := m11.lt); clear hb hc; have sa1 := True.intro)
      | (go_at_call 40; clear sa1; refine (rBot_any ab ap aq an ac am ae Q _ ?_).mono ?_; (first | with_reducible exact (A).lower lA'.out | with_reducible exact ((A.alloc _)).lower lA'.out | with_reducible exact (((A.alloc _).alloc _)).lower lA'.out); rintro e u2 ⟨gb, go, gn, gc, rfl, g1, hb⟩; have hc : Below u1.heap.size u1 u2 := (by first | with_reducible exact hb | exact ((Below.refl _ _).alloc (by first | exact Nat.le_refl _ | (simp; done) | (simp; omega)) _).trans (hb.mono (by first | (simp; done) | (simp; omega))) | exact (((Below.refl _ _).alloc (by first | exact Nat.le_refl _ | (simp; done) | (simp; omega)) _).alloc (by first | exact Nat.le_refl _ | (simp; done) | (simp; omega)) _).trans (hb.mono (by first | (simp; done) | (simp; omega)))); have hz1 := hc.size; have x0 := x0.later hc; have x1 := x1.later hc; have A := A.below hc; have d1 := d1.below hc; have bb := below_then bb (Nat.le_refl _) hc; (try have m10 := m10.later hc); (try have m11 := m11.later hc); (first | (with_reducible have mm := made2 hb; obtain ⟨m20, m21⟩ := mm) | (with_reducible have m20 := made1 hb) | skip); (try have k10 := m10.lt); (try have k11 := m11.lt); (try have k20 := m20.lt); (try have k21 := m21.lt); clear hb hc; have sa2 := True.intro)
      | (go_at_call 59; clear sa2; refine (((rDivMod_any db gb do_ go dn dc gn gc P Q _ ?_ ?_ 32 (by omega) lA'.out.abs_lt lA'.out.bot_lt).mono fun _ _ => IDivPost.nz lA'.out.nz)).mono ?_; (first | with_reducible exact (d1).whole32 lA'.out.abs_lt | with_reducible exact ((d1.alloc _)).whole32 lA'.out.abs_lt | with_reducible exact (((d1.alloc _).alloc _)).whole32 lA'.out.abs_lt); (first | with_reducible exact (g1).whole32 lA'.out.bot_lt | with_reducible exact ((g1.alloc _)).whole32 lA'.out.bot_lt | with_reducible exact (((g1.alloc _).alloc _)).whole32 lA'.out.bot_lt); rintro e u3 ⟨eb, eo, en, ec, fb, fo, fn, fc, rfl, h1, h2, hb⟩; have hc : Below u2.heap.size u2 u3 := (by first | with_reducible exact hb | exact ((Below.refl _ _).alloc (by first | exact Nat.le_refl _ | (simp; done) | (simp; omega)) _).trans (hb.mono (by first | (simp; done) | (simp; omega))) | exact (((Below.refl _ _).alloc (by first | exact Nat.le_refl _ | (simp; done) | (simp; omega)) _).alloc (by first | exact Nat.le_refl _ | (simp; done) | (simp; omega)) _).trans (hb.mono (by first | (simp; done) | (simp; omega)))); have hz2 := hc.size; have x0 := x0.later hc; have x1 := x1.later hc; have A := A.below hc; have d1 := d1.below hc; have g1 := g1.below hc; have bb := below_then bb (Nat.le_refl _) hc; (try have m10 := m10.later hc); (try have m11 := m11.later hc); (try have m20 := m20.later hc); (try have m21 := m21.later hc); (first | (with_reducible have mm := made2 hb; obtain ⟨m30, m31⟩ := mm) | (with_reducible have m30 := made1 hb) | skip); (try have k10 := m10.lt); (try have k11 := m11.lt); (try have k20 := m20.lt); (try have k21 := m21.lt); (try have k30 := m30.lt); (try have k31 := m31.lt); (try (have f100 := m10.c0; have f101 := m10.c1; have f102 := m10.fr 0; have f103 := m10.fr 1)); (try (have f110 := m11.c0; have f111 := m11.c1; have f112 := m11.fr 0; have f113 := m11.fr 1)); (try (have f200 := m20.c0; have f201 := m20.c1; have f202 := m20.fr 0; have f203 := m20.fr 1)); (try (have f210 := m21.c0; have f211 := m21.c1; have f212 := m21.fr 0; have f213 := m21.fr 1)); (try (have f300 := m30.c0; have f301 := m30.c1; have f302 := m30.fr 0; have f303 := m30.fr 1)); (try (have f310 := m31.c0; have f311 := m31.c1; have f312 := m31.fr 0; have f313 := m31.fr 1)); clear hb hc; have sa3 := True.intro))
    · go_wp2_with fail; go_meet; exact ⟨_, eb, eo, en, ec, rfl, ((Box.new _ _ _ (by first | (simp; done) | rfl)).alloc _), ((x1.alloc _).alloc _), ((h1.alloc _).alloc _), (Below.alloc (Below.alloc bb (by first | omega | (simp; omega) | (simp; done)) _) (by first | omega | (simp; omega) | (simp; done)) _), (by first | omega | (simp; omega))⟩
    · go_wp2_with fail; go_meet; exact ⟨_, eb, eo, en, ec, rfl, (Box.new _ _ _ (by first | (simp; done) | rfl)), ((x1.alloc _).alloc _), ((h1.alloc _).alloc _), (Below.alloc (Below.alloc bb (by first | omega | (simp; omega) | (simp; done)) _) (by first | omega | (simp; omega) | (simp; done)) _), (by first | omega | (simp; omega))⟩
    · go_wp2_with fail; go_meet; exact ⟨_, eb, eo, en, ec, rfl, ((m30.set _ _).alloc _), ((x1.other (by omega) _ _).alloc _), ((h1.box m30 _ _).alloc _), (Below.alloc (below_set bb (by omega) _ _) (by first | omega | (simp; omega) | (simp; done)) _), (by first | omega | (simp; omega))⟩
    · go_wp2_with fail; go_meet; exact ⟨_, eb, eo, en, ec, rfl, ((m30.set _ _).other (by omega) _ _), ((x1.other (by omega) _ _).other (by omega) _ _), ((h1.box m30 _ _).box (m31.other (by omega) _ _) _ _), (below_set (below_set bb (by omega) _ _) (by omega) _ _), (by first | omega | (simp; omega))⟩
    · go_wp2_with fail; go_meet; exact ⟨_, eb, eo, en, ec, rfl, (Box.new _ _ _ (by first | (simp; done) | rfl)), ((x1.other (by omega) _ _).alloc _), ((h1.box m30 _ _).alloc _), (Below.alloc (below_set bb (by omega) _ _) (by first | omega | (simp; omega) | (simp; done)) _), (by first | omega | (simp; omega))⟩
    · go_wp2_with fail; go_meet; exact ⟨_, eb, eo, en, ec, rfl, ((m31.set _ _).other (by omega) _ _), ((x1.other (by omega) _ _).other (by omega) _ _), ((h1.box m31 _ _).box (m30.other (by omega) _ _) _ _), (below_set (below_set bb (by omega) _ _) (by omega) _ _), (by first | omega | (simp; omega))⟩
    · go_wp2_with fail; go_meet; exact ⟨_, eb, eo, en, ec, rfl, ((m20.set _ _).alloc _), ((x1.other (by omega) _ _).alloc _), ((h1.box m20 _ _).alloc _), (Below.alloc (below_set bb (by omega) _ _) (by first | omega | (simp; omega) | (simp; done)) _), (by first | omega | (simp; omega))⟩
    · go_wp2_with fail; go_meet; exact ⟨_, eb, eo, en, ec, rfl, ((m20.set _ _).other (by omega) _ _), ((x1.other (by omega) _ _).other (by omega) _ _), ((h1.box m20 _ _).box (m30.other (by omega) _ _) _ _), (below_set (below_set bb (by omega) _ _) (by omega) _ _), (by first | omega | (simp; omega))⟩
    · go_wp2_with fail; go_meet; exact ⟨_, eb, eo, en, ec, rfl, ((m20.set _ _).other (by omega) _ _), ((x1.other (by omega) _ _).other (by omega) _ _), ((h1.box m20 _ _).box (m21.other (by omega) _ _) _ _), (below_set (below_set bb (by omega) _ _) (by omega) _ _), (by first | omega | (simp; omega))⟩
    · go_wp2_with fail; go_meet; exact ⟨_, eb, eo, en, ec, rfl, (Box.new _ _ _ (by first | (simp; done) | rfl)), ((x1.other (by omega) _ _).alloc _), ((h1.box m20 _ _).alloc _), (Below.alloc (below_set bb (by omega) _ _) (by first | omega | (simp; omega) | (simp; done)) _), (by first | omega | (simp; omega))⟩
    · go_wp2_with fail; go_meet; exact ⟨_, eb, eo, en, ec, rfl, ((m30.set _ _).other (by omega) _ _), ((x1.other (by omega) _ _).other (by omega) _ _), ((h1.box m30 _ _).box (m20.other (by omega) _ _) _ _), (below_set (below_set bb (by omega) _ _) (by omega) _ _), (by first | omega | (simp; omega))⟩
    · go_wp2_with fail; go_meet; exact ⟨_, eb, eo, en, ec, rfl, ((m21.set _ _).other (by omega) _ _), ((x1.other (by omega) _ _).other (by omega) _ _), ((h1.box m21 _ _).box (m20.other (by omega) _ _) _ _), (below_set (below_set bb (by omega) _ _) (by omega) _ _), (by first | omega | (simp; omega))⟩
    · go_wp2_with fail; go_meet; exact ⟨_, eb, eo, en, ec, rfl, ((m10.set _ _).alloc _), ((x1.other (by omega) _ _).alloc _), ((h1.box m10 _ _).alloc _), (Below.alloc (below_set bb (by omega) _ _) (by first | omega | (simp; omega) | (simp; done)) _), (by first | omega | (simp; omega))⟩
    · go_wp2_with fail; go_meet; exact ⟨_, eb, eo, en, ec, rfl, ((m10.set _ _).other (by omega) _ _), ((x1.other (by omega) _ _).other (by omega) _ _), ((h1.box m10 _ _).box (m30.other (by omega) _ _) _ _), (below_set (below_set bb (by omega) _ _) (by omega) _ _), (by first | omega | (simp; omega))⟩
    · go_wp2_with fail; go_meet; exact ⟨_, eb, eo, en, ec, rfl, ((m10.set _ _).other (by omega) _ _), ((x1.other (by omega) _ _).other (by omega) _ _), ((h1.box m10 _ _).box (m20.other (by omega) _ _) _ _), (below_set (below_set bb (by omega) _ _) (by omega) _ _), (by first | omega | (simp; omega))⟩
    · go_wp2_with fail; go_meet; exact ⟨_, eb, eo, en, ec, rfl, ((m10.set _ _).other (by omega) _ _), ((x1.other (by omega) _ _).other (by omega) _ _), ((h1.box m10 _ _).box (m11.other (by omega) _ _) _ _), (below_set (below_set bb (by omega) _ _) (by omega) _ _), (by first | omega | (simp; omega))⟩
    · go_wp2_with fail; go_meet; exact ⟨_, eb, eo, en, ec, rfl, (Box.new _ _ _ (by first | (simp; done) | rfl)), ((x1.other (by omega) _ _).alloc _), ((h1.box m10 _ _).alloc _), (Below.alloc (below_set bb (by omega) _ _) (by first | omega | (simp; omega) | (simp; done)) _), (by first | omega | (simp; omega))⟩
    · go_wp2_with fail; go_meet; exact ⟨_, eb, eo, en, ec, rfl, ((m30.set _ _).other (by omega) _ _), ((x1.other (by omega) _ _).other (by omega) _ _), ((h1.box m30 _ _).box (m10.other (by omega) _ _) _ _), (below_set (below_set bb (by omega) _ _) (by omega) _ _), (by first | omega | (simp; omega))⟩
    · go_wp2_with fail; go_meet; exact ⟨_, eb, eo, en, ec, rfl, ((m20.set _ _).other (by omega) _ _), ((x1.other (by omega) _ _).other (by omega) _ _), ((h1.box m20 _ _).box (m10.other (by omega) _ _) _ _), (below_set (below_set bb (by omega) _ _) (by omega) _ _), (by first | omega | (simp; omega))⟩
    · go_wp2_with fail; go_meet; exact ⟨_, eb, eo, en, ec, rfl, ((m11.set _ _).other (by omega) _ _), ((x1.other (by omega) _ _).other (by omega) _ _), ((h1.box m11 _ _).box (m10.other (by omega) _ _) _ _), (below_set (below_set bb (by omega) _ _) (by omega) _ _), (by first | omega | (simp; omega))⟩
  case rest =>
    obtain ⟨Y, eb, eo, en, ec, rfl, y, x1, h1, bb, hY⟩ := hcut
    have p0 := y.c0; have p1 := y.c1
    go_wp2_with fail
    refine (rWhole_any eb eo en ec (P.fdiv Q) _ (h1.whole32 (low_floor lA'.out).abs_lt)).mono ?_
    rintro e w2 ⟨gb, gp, gn, gc, gq, gm, ge, rfl, hR, hb⟩
    have bb := Lib.hid (below_then bb (Nat.le_refl _) hb)
    have x1 := x1.later hb
    have x1' := Lib.hid x1; have hR' := Lib.hid hR
    have q0 := x1.c0; have q1 := x1.c1; have q2 := x1.c2; have q3 := x1.fr 0; have q4 := x1.fr 1; have q5 := x1.fr 2
    have z := x1.set (.bool gb) (.slice gp gn gc) (.slice gq gm ge)
    have e0 := z.c0; have e1 := z.c1; have e2 := z.c2
    clear x1 hb z hR h1 y p0 p1
    go_wp2_with fail
    refine bodyPost_ret (v := .agg #[.bool gb, .slice gp gn gc, .slice gq gm ge]) (by simp [results, Try.results27, go_sem, e0, e1, e2]) rfl ?_
    exact RatPost.stored hR'.out x1'.out bb.out (by omega)

theorem rMul4_one (ab : Bool) (ap aq : Option Addr) (an ac am ae : Nat) (P : Int) (Q : Nat) (cb : Bool) (cp cq : Option Addr) (cn cc cm ce : Nat) (R : Int) (w : World) (A : Rt w ab ap an ac aq am ae P Q) (lA : Low P Q) (B : Rt w cb cp cn cc cq cm ce R 1) (lB : Low R 1) :
    Calls Try.prog 16 #[.agg #[.bool ab, .slice ap an ac, .slice aq am ae], .agg #[.bool cb, .slice cp cn cc, .slice cq cm ce]] w (MakePost (P * R) Q w) := by
  have h := rMul4_any ab ap aq an ac am ae P Q cb cp cq cn cc cm ce R 1 w A lA B lB
  have e : (Q : Int) * ((1 : Nat) : Int) = Q := by omega
  rwa [e] at h

set_option maxRecDepth 20000 in
set_option maxHeartbeats 4000000 in
theorem rMod4_any (ab : Bool) (ap aq : Option Addr) (an ac am ae : Nat) (P : Int) (Q : Nat) (cb : Bool) (cp cq : Option Addr) (cn cc cm ce : Nat) (R : Int) (S : Nat) (w : World) (A : Rt w ab ap an ac aq am ae P Q) (lA : Low P Q) (B : Rt w cb cp cn cc cq cm ce R S) (lB : Low R S) :
    Calls Try.prog 24 #[.agg #[.bool ab, .slice ap an ac, .slice aq am ae], .agg #[.bool cb, .slice cp cn cc, .slice cq cm ce]] w (ModPost P Q R S w) := by
  have l0 := A.top.len_zero
  have lA' := Lib.hid lA; have lB' := Lib.hid lB
  have A' := Lib.hid A; have B' := Lib.hid B
  clear lA A lB B
  by_cases h0 : an = 0
  · have hP' : Hid (P = 0) := Lib.hid (l0.1 h0)
    subst h0
    clear l0 A'
    go_enter Try.func24, Try.ntmps24
    go_upto_region 1 with fail
    refine gen_wp (fun w' => Below w.heap.size w w' ∧ Box3 w' w.heap.size (.bool ab) (.slice ap 0 ac) (.slice aq am ae) ∧ Box3 w' (w.heap.size + 1) (.bool cb) (.slice cp cn cc) (.slice cq cm ce) ∧ Box3 w' (w.heap.size + 2) (.bool false) (.slice none 0 0) (.slice none 0 0))
      ⟨((((Below.refl _ _).alloc (Nat.le_refl _) _).alloc (by first | (simp; done) | (simp; omega)) _).alloc (by first | (simp; done) | (simp; omega)) _), (((Box3.new _ _ _ _ rfl).alloc _).alloc _), ((Box3.new _ _ _ _ (by first | (simp; done) | (simp; omega))).alloc _), (Box3.new _ _ _ _ (by first | (simp; done) | (simp; omega)))⟩ ?_
    rintro w0 ⟨bb, x0, x1, x2⟩
    have p0 := x0.c0; have p1 := x0.c1; have p2 := x0.c2; have p3 := x1.c0; have p4 := x1.c1; have p5 := x1.c2
    have x2' := Lib.hid x2; have bb' := Lib.hid bb
    have q0 := x2.c0; have q1 := x2.c1; have q2 := x2.c2; have q3 := x2.fr 0; have q4 := x2.fr 1; have q5 := x2.fr 2
    have z := x2.set (.bool cb) (.slice cp cn cc) (.slice cq cm ce)
    have e0 := z.c0; have e1 := z.c1; have e2 := z.c2
    clear x0 x1 x2 bb z
    go_wp2_with fail
    refine bodyPost_ret (v := .tuple #[.agg #[.bool cb, .slice cp cn cc, .slice cq cm ce], .int .i64 0]) (by simp [results, Try.results24, go_sem, e0, e1, e2]) rfl ?_
    exact mod_zero hP'.out (ResPost.stored (E := 0) (B'.out.below bb'.out) x2'.out bb'.out (by omega))
  have hP' : Hid (¬ P = 0) := Lib.hid (fun e => h0 (l0.2 e))
  have hd : ((an : Int) == 0) = false := by rw [beq_eq_false_iff_ne]; omega
  clear l0
  go_enter Try.func24, Try.ntmps24
  go_upto_region 1 with fail
  refine gen_wp (fun w' => Below w.heap.size w w' ∧ Box3 w' w.heap.size (.bool ab) (.slice ap an ac) (.slice aq am ae) ∧ Box3 w' (w.heap.size + 1) (.bool cb) (.slice cp cn cc) (.slice cq cm ce) ∧ Box3 w' (w.heap.size + 2) (.bool false) (.slice none 0 0) (.slice none 0 0))
    ⟨((((Below.refl _ _).alloc (Nat.le_refl _) _).alloc (by first | (simp; done) | (simp; omega)) _).alloc (by first | (simp; done) | (simp; omega)) _), (((Box3.new _ _ _ _ rfl).alloc _).alloc _), ((Box3.new _ _ _ _ (by first | (simp; done) | (simp; omega))).alloc _), (Box3.new _ _ _ _ (by first | (simp; done) | (simp; omega)))⟩ ?_
  rintro w0 ⟨bb, x0, x1, x2⟩
  have p0 := x0.c0; have p1 := x0.c1; have p2 := x0.c2; have p3 := x1.c0; have p4 := x1.c1; have p5 := x1.c2
  replace x0 := Lib.hid x0; replace x1 := Lib.hid x1; replace x2 := Lib.hid x2; replace bb := Lib.hid bb
  have A := Lib.hid (A'.out.below bb.out); have B := Lib.hid (B'.out.below bb.out)
  clear A' B'
  go_wp2_with fail
  clear p0 p1 p2 p3 p4 p5 hd
  obtain ⟨E1, hE1⟩ : ∃ E1, Hid (mkE (R * Q) (S * P) = E1) := ⟨_, Lib.hid rfl⟩
  by_cases h1 : E1 = 0
  · subst h1
    refine ((rDiv4_any cb cp cq cn cc cm ce R S ab ap aq an ac am ae P Q _ B.out lB'.out A.out lA'.out).mono fun _ _ => make_zero hE1.out).mono ?_
    rintro e w2 ⟨db, dp, dn, dc, dq, dm, de, rfl, hD, hb⟩
    have bb := Lib.hid (below_then bb.out (Nat.le_refl _) hb)
    have x0 := Lib.hid (x0.out.later hb); have x1 := Lib.hid (x1.out.later hb); have x2 := Lib.hid (x2.out.later hb)
    have A := Lib.hid (A.out.below hb); have B := Lib.hid (B.out.below hb); replace hD := Lib.hid hD
    clear hb
    go_wp2_with fail
    refine gen_wp (fun w' => Below w.heap.size w w' ∧ Box3 w' w.heap.size (.bool ab) (.slice ap an ac) (.slice aq am ae) ∧ Box3 w' (w.heap.size + 1) (.bool cb) (.slice cp cn cc) (.slice cq cm ce) ∧ Box3 w' (w.heap.size + 2) (.bool false) (.slice none 0 0) (.slice none 0 0) ∧ Box3 w' w2.heap.size (.bool db) (.slice dp dn dc) (.slice dq dm de) ∧ Rt w' ab ap an ac aq am ae P Q ∧ Rt w' cb cp cn cc cq cm ce R S ∧ Rt w' db dp dn dc dq dm de (mkT (R * Q) (S * P)) (mkB (R * Q) (S * P)))
      ⟨bb.out.alloc bb.out.size _, x0.out.alloc _, x1.out.alloc _, x2.out.alloc _, Box3.new _ _ _ _ rfl, A.out.alloc _, B.out.alloc _, hD.out.alloc _⟩ ?_
    have hY : w.heap.size + 2 < w2.heap.size := x2.out.lt
    clear bb x0 x1 x2 A B hD
    rintro u0 ⟨bb, x0, x1, x2, x3, A, B, D⟩
    obtain ⟨E2, hE2⟩ : ∃ E2, Hid (mkE (P * modF P Q R S) Q = E2) := ⟨_, Lib.hid rfl⟩
    go_cut [8, 9] from 32 to 41 (fun t s wx => ∃ B gb gp gn gc gq gm ge, s = .int .i64 (mkE (P * modF P Q R S) Q) ∧ t = .pointer (some ⟨B, 0, none⟩) ∧ Box3 wx B (.bool gb) (.slice gp gn gc) (.slice gq gm ge) ∧ Box3 wx (w.heap.size + 1) (.bool cb) (.slice cp cn cc) (.slice cq cm ce) ∧ Box3 wx (w.heap.size + 2) (.bool false) (.slice none 0 0) (.slice none 0 0) ∧ Rt wx cb cp cn cc cq cm ce R S ∧ Rt wx gb gp gn gc gq gm ge (modT P Q R S) (modB P Q R S) ∧ Below w.heap.size w wx ∧ w.heap.size + 2 < B)
    case first =>
      have lx0 := x0.lt
      have lx1 := x1.lt
      have lx2 := x2.lt
      have lx3 := x3.lt
      have bs := bb.size
      have sb0 := True.intro
      go_region_held3 (fun w' => w'.cell? ⟨w.heap.size, 0, none⟩ = some (.bool ab) ∧ w'.cell? ⟨w.heap.size, 1, none⟩ = some (.slice ap an ac) ∧ w'.cell? ⟨w.heap.size, 2, none⟩ = some (.slice aq am ae) ∧ w'.cell? ⟨w2.heap.size, 0, none⟩ = some (.bool db) ∧ w'.cell? ⟨w2.heap.size, 1, none⟩ = some (.slice dp dn dc) ∧ w'.cell? ⟨w2.heap.size, 2, none⟩ = some (.slice dq dm de))
        (first | with_reducible exact ⟨(x0.drew).c0, (x0.drew).c1, (x0.drew).c2, (x3.drew).c0, (x3.drew).c1, (x3.drew).c2⟩ | with_reducible exact ⟨((x0.alloc _).drew).c0, ((x0.alloc _).drew).c1, ((x0.alloc _).drew).c2, ((x3.alloc _).drew).c0, ((x3.alloc _).drew).c1, ((x3.alloc _).drew).c2⟩ | with_reducible exact ⟨x0.c0, x0.c1, x0.c2, x3.c0, x3.c1, x3.c2⟩ | with_reducible exact ⟨(x0.alloc _).c0, (x0.alloc _).c1, (x0.alloc _).c2, (x3.alloc _).c0, (x3.alloc _).c1, (x3.alloc _).c2⟩ | with_reducible exact ⟨(x0.other3 (by omega) _ _ _).c0, (x0.other3 (by omega) _ _ _).c1, (x0.other3 (by omega) _ _ _).c2, (x3.other3 (by omega) _ _ _).c0, (x3.other3 (by omega) _ _ _).c1, (x3.other3 (by omega) _ _ _).c2⟩ | go_keep)
        (first
        | (go_at_call 27; clear sb0; refine (rFloor_any db dp dq dn dc dm de (mkT (R * Q) (S * P)) (mkB (R * Q) (S * P)) _ ?_ (mk_low hE1.out)).mono ?_; (first | with_reducible exact (D.drew) | with_reducible exact ((D.alloc _).drew)); rintro e u1 ⟨fb, fp, fn, fc, fq, fm, fe, rfl, F, hb⟩; have hc : Below u0.heap.size u0 u1 := (by first | exact (Below.refl _ _).drew.trans hb | exact ((Below.refl _ _).alloc (by first | exact Nat.le_refl _ | (simp; done) | (simp; omega)) _).drew.trans (hb.mono (by first | (simp; done) | (simp; omega)))); have hz0 := hc.size; have x0 := x0.later hc; have x1 := x1.later hc; have x2 := x2.later hc; have x3 := x3.later hc; have A := A.below hc; have B := B.below hc; have D := D.below hc; have bb := below_then bb (Nat.le_refl _) hc; (first | (with_reducible have m10 := made13' hb) | skip); (try have k10 := m10.lt); clear hb hc; have sb1 := True.intro)
        | (go_at_call 16; clear sb1; refine (rMul4_one ab ap aq an ac am ae P Q fb fp fq fn fc fm fe (modF P Q R S) _ ?_ lA'.out ?_ (low_floor (mk_low hE1.out))).mono ?_; (first | with_reducible exact A | with_reducible exact (A.alloc _)); (first | with_reducible exact F | with_reducible exact (F.alloc _)); rintro e u2 ⟨gb, gp, gn, gc, gq, gm, ge, rfl, G, hb⟩; have hc : Below u1.heap.size u1 u2 := (by first | with_reducible exact hb | exact ((Below.refl _ _).alloc (by first | exact Nat.le_refl _ | (simp; done) | (simp; omega)) _).trans (hb.mono (by first | (simp; done) | (simp; omega)))); have hz1 := hc.size; have x0 := x0.later hc; have x1 := x1.later hc; have x2 := x2.later hc; have x3 := x3.later hc; have A := A.below hc; have B := B.below hc; have D := D.below hc; have F := F.below hc; have bb := below_then bb (Nat.le_refl _) hc; (try have m10 := m10.later hc); (first | (with_reducible have m20 := made13 hb) | skip); (try have k10 := m10.lt); (try have k20 := m20.lt); (try (have f100 := m10.c0; have f101 := m10.c1; have f102 := m10.fr 0; have f103 := m10.fr 1; have f104 := m10.c2; have f105 := m10.fr 2)); (try (have f200 := m20.c0; have f201 := m20.c1; have f202 := m20.fr 0; have f203 := m20.fr 1; have f204 := m20.c2; have f205 := m20.fr 2)); clear hb hc; have sb2 := True.intro))
      · go_wp2_with fail; go_meet; exact ⟨_, gb, gp, gn, gc, gq, gm, ge, rfl, rfl, (Box3.new _ _ _ _ (by first | (simp; done) | rfl)), (x1.alloc _), (x2.alloc _), (B.alloc _), (G.alloc _), (Below.alloc bb (by first | omega | (simp; omega) | (simp; done)) _), (by first | omega | (simp; omega))⟩
      · go_wp2_with fail; go_meet; exact ⟨_, gb, gp, gn, gc, gq, gm, ge, rfl, rfl, (m20.set _ _ _), (x1.other3 (by omega) _ _ _), (x2.other3 (by omega) _ _ _), (B.box3 m20 _ _ _), (G.box3 m20 _ _ _), (below_set3 bb (by omega) _ _ _), (by first | omega | (simp; omega))⟩
      · go_wp2_with fail; go_meet; exact ⟨_, gb, gp, gn, gc, gq, gm, ge, rfl, rfl, (m10.set _ _ _), (x1.other3 (by omega) _ _ _), (x2.other3 (by omega) _ _ _), (B.box3 m10 _ _ _), (G.box3 m10 _ _ _), (below_set3 bb (by omega) _ _ _), (by first | omega | (simp; omega))⟩
    case rest =>
      obtain ⟨Y, db, dp, dn, dc, dq, dm, de, rfl, rfl, y, x1, x2, B, D, bb, hY⟩ := hcut
      by_cases h2 : E2 = 0
      · subst h2
        rw [hE2.out]
        have p0 := y.c0; have p1 := y.c1; have p2 := y.c2; have p3 := x1.c0; have p4 := x1.c1; have p5 := x1.c2
        replace x2 := Lib.hid x2; replace bb := Lib.hid bb; replace B := Lib.hid B; replace D := Lib.hid D
        clear y x1
        go_wp2_with fail
        refine (rSub4_any cb cp cq cn cc cm ce R S db dp dq dn dc dm de (modT P Q R S) (modB P Q R S) _ B.out lB'.out D.out (mk_low hE2.out)).mono ?_
        rintro e w3 ⟨gb, gp, gn, gc, gq, gm, ge, rfl, hR, hb⟩
        have bb := below_then bb.out (Nat.le_refl _) hb
        have x2 := x2.out.later hb
        clear hb p0 p1 p2 p3 p4 p5 B D
        have q0 := x2.c0; have q1 := x2.c1; have q2 := x2.c2; have q3 := x2.fr 0; have q4 := x2.fr 1; have q5 := x2.fr 2
        have z := x2.set (.bool gb) (.slice gp gn gc) (.slice gq gm ge)
        have e0 := z.c0; have e1 := z.c1; have e2 := z.c2
        have x2' := Lib.hid x2; have bb' := Lib.hid bb; have hR' := Lib.hid hR
        clear z x2 bb hR 
        go_wp2_with fail
        refine bodyPost_ret (v := .tuple #[.agg #[.bool gb, .slice gp gn gc, .slice gq gm ge], .int .i64 (mkE (R * modB P Q R S + -modT P Q R S * S) (S * modB P Q R S))]) (by simp [results, Try.results24, go_sem, e0, e1, e2]) rfl ?_
        exact mod_ok hP'.out hE1.out hE2.out (ResPost.stored hR'.out x2'.out bb'.out (by omega))
      · rw [hE2.out]
        have h2' := Lib.hid h2
        clear y x1 B D
        have q0 := x2.c0; have q1 := x2.c1; have q2 := x2.c2; have q3 := x2.fr 0; have q4 := x2.fr 1; have q5 := x2.fr 2
        have z := x2.set (.bool false) (.slice none 0 0) (.slice none 0 0)
        have e0 := z.c0; have e1 := z.c1; have e2 := z.c2
        have x2' := Lib.hid x2; have bb' := Lib.hid bb
        clear z x2 bb 
        go_wp2_with fail
        refine bodyPost_ret (v := .tuple #[.agg #[.bool false, .slice none 0 0, .slice none 0 0], .int .i64 (E2)]) (by simp [results, Try.results24, go_sem, e0, e1, e2]) rfl ?_
        exact mod_two hP'.out hE1.out hE2.out h2'.out (ResPost.stored (rt_zero _) x2'.out bb'.out (by omega))
  · have h1' := Lib.hid h1
    refine ((rDiv4_any cb cp cq cn cc cm ce R S ab ap aq an ac am ae P Q _ B.out lB'.out A.out lA'.out).mono fun _ _ => make_nz hE1.out h1'.out).mono ?_
    rintro e w2 ⟨db, dp, dn, dc, dq, dm, de, rfl, hD, hb⟩
    have bb := Lib.hid (below_then bb.out (Nat.le_refl _) hb)
    have x2 := Lib.hid (x2.out.later hb)
    clear hb hD A B x0 x1
    go_upto_region 4 with fail
    refine gen_wp (fun w' => Below w.heap.size w w' ∧ Box3 w' (w.heap.size + 2) (.bool false) (.slice none 0 0) (.slice none 0 0)) ⟨bb.out.alloc bb.out.size _, x2.out.alloc _⟩ ?_
    clear bb x2
    rintro u0 ⟨bb, x2⟩
    have q0 := x2.c0; have q1 := x2.c1; have q2 := x2.c2; have q3 := x2.fr 0; have q4 := x2.fr 1; have q5 := x2.fr 2
    have z := x2.set (.bool false) (.slice none 0 0) (.slice none 0 0)
    have e0 := z.c0; have e1 := z.c1; have e2 := z.c2
    have x2' := Lib.hid x2; have bb' := Lib.hid bb
    clear z x2 bb 
    go_wp2_with fail
    refine bodyPost_ret (v := .tuple #[.agg #[.bool false, .slice none 0 0, .slice none 0 0], .int .i64 (E1)]) (by simp [results, Try.results24, go_sem, e0, e1, e2]) rfl ?_
    exact mod_one hP'.out hE1.out h1'.out (ResPost.stored (rt_zero _) x2'.out bb'.out (by omega))

end Go.Proofs.Ytnnipciifjpooaa
