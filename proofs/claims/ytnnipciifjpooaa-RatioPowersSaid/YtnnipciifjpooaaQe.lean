/-
  ratio.Floor, Ceil, Mod.
-/
import Derived.Test.YtnnipciifjpooaaQd
namespace Go.Proofs.Ytnnipciifjpooaa
open Go.RowKit Num

attribute [local go_sem ↓] Go.wp_at_zero Go.wp_at_succ

/-- A quotient, rounded down, and a rest come back. -/
def FDivPost (x y : Int) (w : World) (e : Ending) (w' : World) : Prop :=
  ∃ b ao n nc c bo m mc, e = .returned (.tuple #[.agg #[.bool b, .slice ao n nc], .agg #[.bool c, .slice bo m mc], .bool true]) ∧ Right w' b ao n nc (x.fdiv y) ∧ Right w' c bo m mc (x.fmod y) ∧ Below w.heap.size w w'
theorem IDivPost.nz {x y : Int} {w w' : World} {e : Ending} (hy : y ≠ 0) (h : IDivPost x y w e w') : FDivPost x y w e w' := by
  obtain ⟨hb, ⟨h0, _⟩ | ⟨_, b, ao, n, nc, c, bo, m, mc, rfl, h1, h2⟩⟩ := h
  · exact absurd h0 hy
  · exact ⟨b, ao, n, nc, c, bo, m, mc, rfl, h1, h2, hb⟩

set_option maxRecDepth 20000 in
set_option maxHeartbeats 4000000 in
theorem floor_any (ab : Bool) (ap aq : Option Addr) (an ac am ae : Nat) (P : Int) (Q : Nat) (w : World) (A : Rt w ab ap an ac aq am ae P Q) (lA : Low P Q) :
    Calls Try.prog 26 #[.agg #[.bool ab, .slice ap an ac, .slice aq am ae]] w (RatPost (P.fdiv Q) 1 w) := by
  have lA' := Lib.hid lA
  have A' := Lib.hid A
  clear lA A
  go_enter Try.func26, Try.ntmps26
  go_wp2_with fail
  refine gen_wp (fun w' => Below w.heap.size w w' ∧ Box3 w' w.heap.size (.bool ab) (.slice ap an ac) (.slice aq am ae) ∧ Box3 w' (w.heap.size + 1) (.bool false) (.slice none 0 0) (.slice none 0 0))
    ⟨(((Below.refl _ _).alloc (Nat.le_refl _) _).alloc (by first | (simp; done) | (simp; omega)) _), ((Box3.new _ _ _ _ rfl).alloc _), (Box3.new _ _ _ _ (by first | (simp; done) | (simp; omega)))⟩ ?_
  rintro u0 ⟨bb, x0, x1⟩
  have A := A'.out.below bb
  clear A'
  go_cut [3] from 15 to 17 (fun t wx => ∃ B eb eo en ec, t = .pointer (some ⟨B, 0, none⟩) ∧ Box wx B (.bool eb) (.slice eo en ec) ∧ Box3 wx (w.heap.size + 1) (.bool false) (.slice none 0 0) (.slice none 0 0) ∧ Right wx eb eo en ec (P.fdiv Q) ∧ Below w.heap.size w wx ∧ w.heap.size + 1 < B)
  case first =>
    have lx0 := x0.lt
    have lx1 := x1.lt
    have bs := bb.size
    have sa0 := True.intro
    go_region_held3 (fun w' => w'.cell? ⟨w.heap.size, 0, none⟩ = some (.bool ab) ∧ w'.cell? ⟨w.heap.size, 1, none⟩ = some (.slice ap an ac) ∧ w'.cell? ⟨w.heap.size, 2, none⟩ = some (.slice aq am ae))
      (first | with_reducible exact ⟨(x0.drew).c0, (x0.drew).c1, (x0.drew).c2⟩ | with_reducible exact ⟨((x0.alloc _).drew).c0, ((x0.alloc _).drew).c1, ((x0.alloc _).drew).c2⟩ | with_reducible exact ⟨(((x0.alloc _).alloc _).drew).c0, (((x0.alloc _).alloc _).drew).c1, (((x0.alloc _).alloc _).drew).c2⟩ | with_reducible exact ⟨x0.c0, x0.c1, x0.c2⟩ | with_reducible exact ⟨(x0.alloc _).c0, (x0.alloc _).c1, (x0.alloc _).c2⟩ | with_reducible exact ⟨((x0.alloc _).alloc _).c0, ((x0.alloc _).alloc _).c1, ((x0.alloc _).alloc _).c2⟩ | with_reducible exact ⟨(x0.other (by omega) _ _).c0, (x0.other (by omega) _ _).c1, (x0.other (by omega) _ _).c2⟩ | with_reducible exact ⟨((x0.other (by omega) _ _).alloc _).c0, ((x0.other (by omega) _ _).alloc _).c1, ((x0.other (by omega) _ _).alloc _).c2⟩ | with_reducible exact ⟨((x0.other (by omega) _ _).other (by omega) _ _).c0, ((x0.other (by omega) _ _).other (by omega) _ _).c1, ((x0.other (by omega) _ _).other (by omega) _ _).c2⟩ | go_keep)
      (first
      | (go_at_call 45; clear sa0; refine (upper_any ab ap aq an ac am ae _).mono ?_; rintro e u1 ⟨rfl, hb⟩; have hc : Below u0.heap.size u0 u1 := (by first | exact (Below.refl _ _).drew.trans hb | exact ((Below.refl _ _).alloc (by first | exact Nat.le_refl _ | (simp; done) | (simp; omega)) _).drew.trans (hb.mono (by first | (simp; done) | (simp; omega))) | exact (((Below.refl _ _).alloc (by first | exact Nat.le_refl _ | (simp; done) | (simp; omega)) _).alloc (by first | exact Nat.le_refl _ | (simp; done) | (simp; omega)) _).drew.trans (hb.mono (by first | (simp; done) | (simp; omega)))); have hz0 := hc.size; have x0 := x0.later hc; have x1 := x1.later hc; have A := A.below hc; have bb := below_then bb (Nat.le_refl _) hc; (first | (with_reducible have mm := made2' hb; obtain ⟨m10, m11⟩ := mm) | (with_reducible have m10 := made1' hb) | skip); (try have k10 := m10.lt); (try have k11 := m11.lt); clear hb hc; have sa1 := True.intro)
      | (go_at_call 46; clear sa1; refine (lower_any ab ap aq an ac am ae _).mono ?_; rintro e u2 ⟨rfl, hb⟩; have hc : Below u1.heap.size u1 u2 := (by first | with_reducible exact hb | exact ((Below.refl _ _).alloc (by first | exact Nat.le_refl _ | (simp; done) | (simp; omega)) _).trans (hb.mono (by first | (simp; done) | (simp; omega))) | exact (((Below.refl _ _).alloc (by first | exact Nat.le_refl _ | (simp; done) | (simp; omega)) _).alloc (by first | exact Nat.le_refl _ | (simp; done) | (simp; omega)) _).trans (hb.mono (by first | (simp; done) | (simp; omega)))); have hz1 := hc.size; have x0 := x0.later hc; have x1 := x1.later hc; have A := A.below hc; have bb := below_then bb (Nat.le_refl _) hc; (try have m10 := m10.later hc); (try have m11 := m11.later hc); (first | (with_reducible have mm := made2 hb; obtain ⟨m20, m21⟩ := mm) | (with_reducible have m20 := made1 hb) | skip); (try have k10 := m10.lt); (try have k11 := m11.lt); (try have k20 := m20.lt); (try have k21 := m21.lt); clear hb hc; have sa2 := True.intro)
      | (go_at_call 57; clear sa2; refine (((wDivMod_any ab false ap aq an ac am ae P Q _ ?_ ?_).mono fun _ _ => IDivPost.nz lA'.out.nz)).mono ?_; (first | with_reducible exact (A).upper lA'.out | with_reducible exact ((A.alloc _)).upper lA'.out | with_reducible exact (((A.alloc _).alloc _)).upper lA'.out); (first | with_reducible exact (A).lower lA'.out | with_reducible exact ((A.alloc _)).lower lA'.out | with_reducible exact (((A.alloc _).alloc _)).lower lA'.out); rintro e u3 ⟨eb, eo, en, ec, fb, fo, fn, fc, rfl, h1, h2, hb⟩; have hc : Below u2.heap.size u2 u3 := (by first | with_reducible exact hb | exact ((Below.refl _ _).alloc (by first | exact Nat.le_refl _ | (simp; done) | (simp; omega)) _).trans (hb.mono (by first | (simp; done) | (simp; omega))) | exact (((Below.refl _ _).alloc (by first | exact Nat.le_refl _ | (simp; done) | (simp; omega)) _).alloc (by first | exact Nat.le_refl _ | (simp; done) | (simp; omega)) _).trans (hb.mono (by first | (simp; done) | (simp; omega)))); have hz2 := hc.size; have x0 := x0.later hc; have x1 := x1.later hc; have A := A.below hc; have bb := below_then bb (Nat.le_refl _) hc; (try have m10 := m10.later hc); (try have m11 := m11.later hc); (try have m20 := m20.later hc); (try have m21 := m21.later hc); (first | (with_reducible have mm := made2 hb; obtain ⟨m30, m31⟩ := mm) | (with_reducible have m30 := made1 hb) | skip); (try have k10 := m10.lt); (try have k11 := m11.lt); (try have k20 := m20.lt); (try have k21 := m21.lt); (try have k30 := m30.lt); (try have k31 := m31.lt); (try (have f100 := m10.c0; have f101 := m10.c1; have f102 := m10.fr 0; have f103 := m10.fr 1)); (try (have f110 := m11.c0; have f111 := m11.c1; have f112 := m11.fr 0; have f113 := m11.fr 1)); (try (have f200 := m20.c0; have f201 := m20.c1; have f202 := m20.fr 0; have f203 := m20.fr 1)); (try (have f210 := m21.c0; have f211 := m21.c1; have f212 := m21.fr 0; have f213 := m21.fr 1)); (try (have f300 := m30.c0; have f301 := m30.c1; have f302 := m30.fr 0; have f303 := m30.fr 1)); (try (have f310 := m31.c0; have f311 := m31.c1; have f312 := m31.fr 0; have f313 := m31.fr 1)); clear hb hc; have sa3 := True.intro))
    · go_wp2_with fail; go_meet; exact ⟨_, eb, eo, en, ec, rfl, ((Box.new _ _ _ (by first | (simp; done) | rfl)).alloc _), ((x1.alloc _).alloc _), ((h1.alloc _).alloc _), (Below.alloc (Below.alloc bb (by first | omega | (simp; omega) | (simp; done)) _) (by first | omega | (simp; omega) | (simp; done)) _), (by first | omega | (simp; omega))⟩
    · go_wp2_with fail; go_meet; exact ⟨_, eb, eo, en, ec, rfl, (Box.new _ _ _ (by first | (simp; done) | rfl)), ((x1.alloc _).alloc _), ((h1.alloc _).alloc _), (Below.alloc (Below.alloc bb (by first | omega | (simp; omega) | (simp; done)) _) (by first | omega | (simp; omega) | (simp; done)) _), (by first | omega | (simp; omega))⟩
    · go_wp2_with fail; go_meet; exact ⟨_, eb, eo, en, ec, rfl, ((m30.set _ _).alloc _), ((x1.other (by omega) _ _).alloc _), ((h1.box m30 _ _).alloc _), (Below.alloc (below_set bb (by omega) _ _) (by first | omega | (simp; omega) | (simp; done)) _), (by first | omega | (simp; omega))⟩
    · go_wp2_with fail; go_meet; exact ⟨_, eb, eo, en, ec, rfl, ((m30.set _ _).other (by omega) _ _), ((x1.other (by omega) _ _).other (by omega) _ _), ((h1.box m30 _ _).box (m31.other (by omega) _ _) _ _), (below_set (below_set bb (by omega) _ _) (by omega) _ _), (by first | omega | (simp; omega))⟩
    · go_wp2_with fail; go_meet; exact ⟨_, eb, eo, en, ec, rfl, (Box.new _ _ _ (by first | (simp; done) | rfl)), ((x1.other (by omega) _ _).alloc _), ((h1.box m30 _ _).alloc _), (Below.alloc (below_set bb (by omega) _ _) (by first | omega | (simp; omega) | (simp; done)) _), (by first | omega | (simp; omega))⟩
    · go_wp2_with fail; go_meet; exact ⟨_, eb, eo, en, ec, rfl, ((m31.set _ _).other (by omega) _ _), ((x1.other (by omega) _ _).other (by omega) _ _), ((h1.box m31 _ _).box (m30.other (by omega) _ _) _ _), (below_set (below_set bb (by omega) _ _) (by omega) _ _), (by first | omega | (simp; omega))⟩
    · go_wp2_with fail; go_meet; exact ⟨_, eb, eo, en, ec, rfl, ((m20.set _ _).alloc _), ((x1.other (by omega) _ _).alloc _), ((h1.box m20 _ _).alloc _), (Below.alloc (below_set bb (by omega) _ _) (by first | omega | (simp; omega) | (simp; done)) _), (by first | omega | (simp; omega))⟩
    · go_wp2_with fail; go_meet; exact ⟨_, eb, eo, en, ec, rfl, ((m20.set _ _).other (by omega) _ _), ((x1.other (by omega) _ _).other (by omega) _ _), ((h1.box m20 _ _).box (m30.other (by omega) _ _) _ _), (below_set (below_set bb (by omega) _ _) (by omega) _ _), (by first | omega | (simp; omega))⟩
    · go_wp2_with fail; go_meet; exact ⟨_, eb, eo, en, ec, rfl, ((m20.set _ _).other (by omega) _ _), ((x1.other (by omega) _ _).other (by omega) _ _), ((h1.box m20 _ _).box (m21.other (by omega) _ _) _ _), (below_set (below_set bb (by omega) _ _) (by omega) _ _), (by first | omega | (simp; omega))⟩
    · go_wp2_with fail; go_meet; exact ⟨_, eb, eo, en, ec, rfl, (Box.new _ _ _ (by first | (simp; done) | rfl)), ((x1.other (by omega) _ _).alloc _), ((h1.box m20 _ _).alloc _), (Below.alloc (below_set bb (by omega) _ _) (by first | omega | (simp; omega) | (simp; done)) _), (by first | omega | (simp; omega))⟩
    · go_wp2_with fail; go_meet; exact ⟨_, eb, eo, en, ec, rfl, ((m30.set _ _).other (by omega) _ _), ((x1.other (by omega) _ _).other (by omega) _ _), ((h1.box m30 _ _).box (m20.other (by omega) _ _) _ _), (below_set (below_set bb (by omega) _ _) (by omega) _ _), (by first | omega | (simp; omega))⟩
    · go_wp2_with fail; go_meet; exact ⟨_, eb, eo, en, ec, rfl, ((m21.set _ _).other (by omega) _ _), ((x1.other (by omega) _ _).other (by omega) _ _), ((h1.box m21 _ _).box (m20.other (by omega) _ _) _ _), (below_set (below_set bb (by omega) _ _) (by omega) _ _), (by first | omega | (simp; omega))⟩
    · go_wp2_with fail; go_meet; exact ⟨_, eb, eo, en, ec, rfl, ((m10.set _ _).alloc _), ((x1.other (by omega) _ _).alloc _), ((h1.box m10 _ _).alloc _), (Below.alloc (below_set bb (by omega) _ _) (by first | omega | (simp; omega) | (simp; done)) _), (by first | omega | (simp; omega))⟩
    · go_wp2_with fail; go_meet; exact ⟨_, eb, eo, en, ec, rfl, ((m10.set _ _).other (by omega) _ _), ((x1.other (by omega) _ _).other (by omega) _ _), ((h1.box m10 _ _).box (m30.other (by omega) _ _) _ _), (below_set (below_set bb (by omega) _ _) (by omega) _ _), (by first | omega | (simp; omega))⟩
    · go_wp2_with fail; go_meet; exact ⟨_, eb, eo, en, ec, rfl, ((m10.set _ _).other (by omega) _ _), ((x1.other (by omega) _ _).other (by omega) _ _), ((h1.box m10 _ _).box (m20.other (by omega) _ _) _ _), (below_set (below_set bb (by omega) _ _) (by omega) _ _), (by first | omega | (simp; omega))⟩
    · go_wp2_with fail; go_meet; exact ⟨_, eb, eo, en, ec, rfl, ((m10.set _ _).other (by omega) _ _), ((x1.other (by omega) _ _).other (by omega) _ _), ((h1.box m10 _ _).box (m11.other (by omega) _ _) _ _), (below_set (below_set bb (by omega) _ _) (by omega) _ _), (by first | omega | (simp; omega))⟩
    · go_wp2_with fail; go_meet; exact ⟨_, eb, eo, en, ec, rfl, (Box.new _ _ _ (by first | (simp; done) | rfl)), ((x1.other (by omega) _ _).alloc _), ((h1.box m10 _ _).alloc _), (Below.alloc (below_set bb (by omega) _ _) (by first | omega | (simp; omega) | (simp; done)) _), (by first | omega | (simp; omega))⟩
    · go_wp2_with fail; go_meet; exact ⟨_, eb, eo, en, ec, rfl, ((m30.set _ _).other (by omega) _ _), ((x1.other (by omega) _ _).other (by omega) _ _), ((h1.box m30 _ _).box (m10.other (by omega) _ _) _ _), (below_set (below_set bb (by omega) _ _) (by omega) _ _), (by first | omega | (simp; omega))⟩
    · go_wp2_with fail; go_meet; exact ⟨_, eb, eo, en, ec, rfl, ((m20.set _ _).other (by omega) _ _), ((x1.other (by omega) _ _).other (by omega) _ _), ((h1.box m20 _ _).box (m10.other (by omega) _ _) _ _), (below_set (below_set bb (by omega) _ _) (by omega) _ _), (by first | omega | (simp; omega))⟩
    · go_wp2_with fail; go_meet; exact ⟨_, eb, eo, en, ec, rfl, ((m11.set _ _).other (by omega) _ _), ((x1.other (by omega) _ _).other (by omega) _ _), ((h1.box m11 _ _).box (m10.other (by omega) _ _) _ _), (below_set (below_set bb (by omega) _ _) (by omega) _ _), (by first | omega | (simp; omega))⟩
  case rest =>
    obtain ⟨Y, eb, eo, en, ec, rfl, y, x1, h1, bb, hY⟩ := hcut
    have p0 := y.c0; have p1 := y.c1
    go_wp2_with fail
    refine (whole_any eb eo en ec (P.fdiv Q) _ (h1.whole32 (low_floor lA'.out).abs_lt) (low_floor lA'.out).abs_lt).mono ?_
    rintro e w2 ⟨gb, gp, gn, gc, gq, gm, ge, rfl, hR, hb⟩
    have bb := Lib.hid (below_then bb (Nat.le_refl _) hb)
    have x1 := x1.later hb
    have x1' := Lib.hid x1; have hR' := Lib.hid hR
    have q0 := x1.c0; have q1 := x1.c1; have q2 := x1.c2; have q3 := x1.fr 0; have q4 := x1.fr 1; have q5 := x1.fr 2
    have z := x1.set (.bool gb) (.slice gp gn gc) (.slice gq gm ge)
    have e0 := z.c0; have e1 := z.c1; have e2 := z.c2
    clear x1 hb z hR h1 y p0 p1
    go_wp2_with fail
    refine bodyPost_ret (v := .agg #[.bool gb, .slice gp gn gc, .slice gq gm ge]) (by simp [results, Try.results26, go_sem, e0, e1, e2]) rfl ?_
    exact RatPost.stored hR'.out x1'.out bb.out (by omega)

set_option maxHeartbeats 1000000 in
theorem ceil_any (ab : Bool) (ap aq : Option Addr) (an ac am ae : Nat) (P : Int) (Q : Nat) (w : World) (A : Rt w ab ap an ac aq am ae P Q) (lA : Low P Q) :
    Calls Try.prog 28 #[.agg #[.bool ab, .slice ap an ac, .slice aq am ae]] w (RatPost (-((-P).fdiv Q)) 1 w) := by
  have lA' := Lib.hid lA
  have A' := Lib.hid A
  clear lA A
  go_enter Try.func28, Try.ntmps28
  go_wp2_with fail
  refine gen_calls (fun w' => Below w.heap.size w w' ∧ Box3 w' w.heap.size (.bool ab) (.slice ap an ac) (.slice aq am ae) ∧ Box3 w' (w.heap.size + 1) (.bool false) (.slice none 0 0) (.slice none 0 0))
    ⟨(((Below.refl _ _).alloc (Nat.le_refl _) _).alloc (by first | (simp; done) | (simp; omega)) _), ((Box3.new _ _ _ _ rfl).alloc _), (Box3.new _ _ _ _ (by first | (simp; done) | (simp; omega)))⟩ ?_
  rintro w0 ⟨hb0, x0, x1⟩
  refine (neg_any ab ap aq an ac am ae P Q _ (A'.out.below hb0) lA'.out).mono ?_
  rintro e w1 ⟨db, dp, dn, dc, dq, dm, de, rfl, h1, hb⟩
  have x1 := Lib.hid (x1.later hb); have bb := Lib.hid (below_then hb0 (Nat.le_refl _) hb)
  have h1' := Lib.hid h1
  clear hb hb0 h1 x0
  go_wp2_with fail
  refine (floor_any db dp dq dn dc dm de (-P) Q _ h1'.out lA'.out.neg).mono ?_
  rintro e w2 ⟨eb, ep, en, ec, eq, em, ee, rfl, h2, hb⟩
  have x1 := Lib.hid (x1.out.later hb); have bb := Lib.hid (below_then bb.out (Nat.le_refl _) hb)
  have h2' := Lib.hid h2
  clear hb h2
  go_wp2_with fail
  refine (neg_any eb ep eq en ec em ee ((-P).fdiv Q) 1 _ h2'.out (low_floor lA'.out.neg)).mono ?_
  rintro e w3 ⟨gb, gp, gn, gc, gq, gm, ge, rfl, hR, hb⟩
  have bb := Lib.hid (below_then bb.out (Nat.le_refl _) hb)
  have x1 := x1.out.later hb
  have x1' := Lib.hid x1; have hR' := Lib.hid hR
  have q0 := x1.c0; have q1 := x1.c1; have q2 := x1.c2; have q3 := x1.fr 0; have q4 := x1.fr 1; have q5 := x1.fr 2
  have z := x1.set (.bool gb) (.slice gp gn gc) (.slice gq gm ge)
  have e0 := z.c0; have e1 := z.c1; have e2 := z.c2
  clear x1 hb z hR
  go_wp2_with fail
  refine bodyPost_ret (v := .agg #[.bool gb, .slice gp gn gc, .slice gq gm ge]) (by simp [results, Try.results28, go_sem, e0, e1, e2]) rfl ?_
  exact RatPost.stored hR'.out x1'.out bb.out (by omega)

theorem mul4_one (ab : Bool) (ap aq : Option Addr) (an ac am ae : Nat) (P : Int) (Q : Nat) (cb : Bool) (cp cq : Option Addr) (cn cc cm ce : Nat) (R : Int) (w : World) (A : Rt w ab ap an ac aq am ae P Q) (lA : Low P Q) (B : Rt w cb cp cn cc cq cm ce R 1) (lB : Low R 1) :
    Calls Try.prog 12 #[.agg #[.bool ab, .slice ap an ac, .slice aq am ae], .agg #[.bool cb, .slice cp cn cc, .slice cq cm ce]] w (MakePost (P * R) Q w) := by
  have h := mul4_any ab ap aq an ac am ae P Q cb cp cq cn cc cm ce R 1 w A lA B lB
  have e : (Q : Int) * ((1 : Nat) : Int) = Q := by omega
  rwa [e] at h

/-- What is left of a number by another one: the top, the bottom, the error. -/
abbrev modF (P : Int) (Q : Nat) (R : Int) (S : Nat) : Int := (mkT (R * Q) (S * P)).fdiv (mkB (R * Q) (S * P))
abbrev modT (P : Int) (Q : Nat) (R : Int) (S : Nat) : Int := mkT (P * modF P Q R S) Q
abbrev modB (P : Int) (Q : Nat) (R : Int) (S : Nat) : Nat := mkB (P * modF P Q R S) Q
def modRes (P : Int) (Q : Nat) (R : Int) (S : Nat) : Int × Nat × Int :=
  if P = 0 then (R, S, 0) else if mkE (R * Q) (S * P) ≠ 0 then (0, 0, mkE (R * Q) (S * P)) else
  if mkE (P * modF P Q R S) Q ≠ 0 then (0, 0, mkE (P * modF P Q R S) Q) else
  (mkT (R * modB P Q R S + -modT P Q R S * S) (S * modB P Q R S), mkB (R * modB P Q R S + -modT P Q R S * S) (S * modB P Q R S), mkE (R * modB P Q R S + -modT P Q R S * S) (S * modB P Q R S))
def ModPost (P : Int) (Q : Nat) (R : Int) (S : Nat) := ResPost (modRes P Q R S).1 (modRes P Q R S).2.1 (modRes P Q R S).2.2
theorem mod_zero {P R : Int} {Q S : Nat} {w w' : World} {e : Ending} (h : P = 0) (k : ResPost R S 0 w e w') : ModPost P Q R S w e w' := by
  unfold ModPost modRes
  rw [if_pos h]; exact k
theorem mod_one {P R : Int} {Q S : Nat} {w w' : World} {e : Ending} {E : Int} (h : P ≠ 0) (h1 : mkE (R * Q) (S * P) = E) (hE : E ≠ 0) (k : ResPost 0 0 E w e w') : ModPost P Q R S w e w' := by
  unfold ModPost modRes
  rw [if_neg h, if_pos (by rw [h1]; exact hE), h1]; exact k
theorem mod_two {P R : Int} {Q S : Nat} {w w' : World} {e : Ending} {E : Int} (h : P ≠ 0) (h1 : mkE (R * Q) (S * P) = 0) (h2 : mkE (P * modF P Q R S) Q = E) (hE : E ≠ 0) (k : ResPost 0 0 E w e w') : ModPost P Q R S w e w' := by
  unfold ModPost modRes
  rw [if_neg h, if_neg (by rw [h1]; decide), if_pos (by rw [h2]; exact hE), h2]; exact k
theorem mod_ok {P R : Int} {Q S : Nat} {w w' : World} {e : Ending} (h : P ≠ 0) (h1 : mkE (R * Q) (S * P) = 0) (h2 : mkE (P * modF P Q R S) Q = 0) (k : MakePost (R * modB P Q R S + -modT P Q R S * S) (S * modB P Q R S) w e w') : ModPost P Q R S w e w' := by
  unfold ModPost modRes
  rw [if_neg h, if_neg (by rw [h1]; decide), if_neg (by rw [h2]; decide)]; exact k
theorem make_zero {p q : Int} {w w' : World} {E : Ending} (h : mkE p q = 0) (k : MakePost p q w E w') : ResPost (mkT p q) (mkB p q) 0 w E w' := by
  have k : ResPost (mkT p q) (mkB p q) (mkE p q) w E w' := k
  rwa [h] at k
theorem make_nz {p q e : Int} {w w' : World} {E : Ending} (h : mkE p q = e) (he : e ≠ 0) (k : MakePost p q w E w') : ResPost 0 0 e w E w' := by
  subst h
  have k : ResPost (mkT p q) (mkB p q) (mkE p q) w E w' := k
  rwa [(mk_bad he).1, (mk_bad he).2] at k

set_option maxRecDepth 20000 in
set_option maxHeartbeats 4000000 in
theorem mod4_any (ab : Bool) (ap aq : Option Addr) (an ac am ae : Nat) (P : Int) (Q : Nat) (cb : Bool) (cp cq : Option Addr) (cn cc cm ce : Nat) (R : Int) (S : Nat) (w : World) (A : Rt w ab ap an ac aq am ae P Q) (lA : Low P Q) (B : Rt w cb cp cn cc cq cm ce R S) (lB : Low R S) :
    Calls Try.prog 23 #[.agg #[.bool ab, .slice ap an ac, .slice aq am ae], .agg #[.bool cb, .slice cp cn cc, .slice cq cm ce]] w (ModPost P Q R S w) := by
  have lA' := Lib.hid lA; have lB' := Lib.hid lB
  have A' := Lib.hid A; have B' := Lib.hid B
  clear lA A lB B
  go_enter Try.func23, Try.ntmps23
  go_wp2_with fail
  refine gen_calls (fun w' => Below w.heap.size w w' ∧ Box3 w' w.heap.size (.bool ab) (.slice ap an ac) (.slice aq am ae) ∧ Box3 w' (w.heap.size + 1) (.bool cb) (.slice cp cn cc) (.slice cq cm ce) ∧ Box3 w' (w.heap.size + 2) (.bool false) (.slice none 0 0) (.slice none 0 0))
    ⟨((((Below.refl _ _).alloc (Nat.le_refl _) _).alloc (by first | (simp; done) | (simp; omega)) _).alloc (by first | (simp; done) | (simp; omega)) _), (((Box3.new _ _ _ _ rfl).alloc _).alloc _), ((Box3.new _ _ _ _ (by first | (simp; done) | (simp; omega))).alloc _), (Box3.new _ _ _ _ (by first | (simp; done) | (simp; omega)))⟩ ?_
  rintro w0 ⟨hb0, x0, x1, x2⟩
  refine (sign_any ab ap aq an ac am ae P Q _ (A'.out.below hb0) lA'.out).mono ?_
  by_cases hP : P = 0
  · have hs : P.sign = 0 := by rw [hP]; rfl
    rw [hs]
    have hP' := Lib.hid hP
    clear hs hP
    rintro e w1 ⟨rfl, hb⟩
    have bb := Lib.hid (below_then hb0 (Nat.le_refl _) hb)
    have x0 := Lib.hid (x0.later hb); have x1 := Lib.hid (x1.later hb); have x2 := Lib.hid (x2.later hb)
    clear hb hb0
    go_wp2_with fail
    have x0 := x0.out.drew; have x1 := x1.out.drew; have x2 := x2.out.drew; have bb := bb.out.drew
    have B := B'.out.below bb
    have sb0 := True.intro
    go_region_held3 (fun w' => w'.cell? ⟨(w.heap.size + 1), 0, none⟩ = some (.bool cb) ∧ w'.cell? ⟨(w.heap.size + 1), 1, none⟩ = some (.slice cp cn cc) ∧ w'.cell? ⟨(w.heap.size + 1), 2, none⟩ = some (.slice cq cm ce))
      (first | with_reducible exact ⟨x1.c0, x1.c1, x1.c2⟩ | with_reducible exact ⟨(x1.other3 (by omega) _ _ _).c0, (x1.other3 (by omega) _ _ _).c1, (x1.other3 (by omega) _ _ _).c2⟩ | go_keep)
      (first
      | (go_at_call 45; clear sb0; refine (upper_any cb cp cq cn cc cm ce _).mono ?_; rintro e w' ⟨rfl, hb⟩; have bb := below_then bb (Nat.le_refl _) hb; have x0 := x0.later hb; have x1 := x1.later hb; have x2 := x2.later hb; have B := B.below hb; clear hb; have sb1 := True.intro)
      | (go_at_call 46; clear sb1; refine (lower_any cb cp cq cn cc cm ce _).mono ?_; rintro e w' ⟨rfl, hb⟩; have bb := below_then bb (Nat.le_refl _) hb; have x0 := x0.later hb; have x1 := x1.later hb; have x2 := x2.later hb; have B := B.below hb; clear hb; have sb2 := True.intro)
      | (go_at_call 47; clear sb2; refine (make_any cb false cp cq cn cc cm ce R S _ (B.upper lB'.out) (B.lower lB'.out)).mono ?_; rintro e w' ⟨gb, gp, gn, gc, gq, gm, ge, rfl, hR, hb⟩; have bb := below_then bb (Nat.le_refl _) hb; have x0 := x0.later hb; have x1 := x1.later hb; have x2 := x2.later hb; have B := B.below hb; clear hb; have q0 := x2.c0; have q1 := x2.c1; have q2 := x2.c2; have q3 := x2.fr 0; have q4 := x2.fr 1; have q5 := x2.fr 2; have sb3 := True.intro))
    have z := x2.set (.bool gb) (.slice gp gn gc) (.slice gq gm ge)
    have e0 := z.c0; have e1 := z.c1; have e2 := z.c2
    have x2' := Lib.hid x2; have bb' := Lib.hid bb; have hR' := Lib.hid hR
    clear z x2 bb hR x0 x1 B
    go_wp2_with fail
    refine bodyPost_ret (v := .tuple #[.agg #[.bool gb, .slice gp gn gc, .slice gq gm ge], .int .i64 (mkE R S)]) (by simp [results, Try.results23, go_sem, e0, e1, e2]) rfl ?_
    obtain ⟨h1, h2, h3⟩ := mk_self lB'.out
    exact mod_zero hP'.out (by have := ResPost.stored (E := mkE R S) hR'.out x2'.out bb'.out (Nat.le_add_right _ 2); rw [h1, h2, h3] at this; rw [h1]; exact this)
  have hs : ¬ P.sign = 0 := fun e => hP (Int.sign_eq_zero_iff_zero.1 e)
  have hP' := Lib.hid hP
  clear hP
  rintro e w1 ⟨rfl, hb⟩
  have bb := Lib.hid (below_then hb0 (Nat.le_refl _) hb)
  have x0 := x0.later hb; have x1 := x1.later hb; have x2 := Lib.hid (x2.later hb)
  have A := Lib.hid (A'.out.below bb.out); have B := Lib.hid (B'.out.below bb.out)
  have p0 := x0.c0; have p1 := x0.c1; have p2 := x0.c2; have p3 := x1.c0; have p4 := x1.c1; have p5 := x1.c2
  have x0 := Lib.hid x0; have x1 := Lib.hid x1
  clear hb hb0 A' B'
  go_wp2_with fail
  clear p0 p1 p2 p3 p4 p5 hs
  obtain ⟨E1, hE1⟩ : ∃ E1, Hid (mkE (R * Q) (S * P) = E1) := ⟨_, Lib.hid rfl⟩
  by_cases h1 : E1 = 0
  · subst h1
    refine ((div4_any cb cp cq cn cc cm ce R S ab ap aq an ac am ae P Q _ B.out lB'.out A.out lA'.out).mono fun _ _ => make_zero hE1.out).mono ?_
    rintro e w2 ⟨db, dp, dn, dc, dq, dm, de, rfl, hD, hb⟩
    have bb := Lib.hid (below_then bb.out (Nat.le_refl _) hb)
    have x0 := Lib.hid (x0.out.later hb); have x1 := Lib.hid (x1.out.later hb); have x2 := Lib.hid (x2.out.later hb)
    have A := Lib.hid (A.out.below hb); have B := Lib.hid (B.out.below hb); have hD := Lib.hid hD
    clear hb
    go_wp2_with fail
    refine gen_wp (fun w' => Below w.heap.size w w' ∧ Box3 w' w.heap.size (.bool ab) (.slice ap an ac) (.slice aq am ae) ∧ Box3 w' (w.heap.size + 1) (.bool cb) (.slice cp cn cc) (.slice cq cm ce) ∧ Box3 w' (w.heap.size + 2) (.bool false) (.slice none 0 0) (.slice none 0 0) ∧ Box3 w' w2.heap.size (.bool db) (.slice dp dn dc) (.slice dq dm de) ∧ Rt w' ab ap an ac aq am ae P Q ∧ Rt w' cb cp cn cc cq cm ce R S ∧ Rt w' db dp dn dc dq dm de (mkT (R * Q) (S * P)) (mkB (R * Q) (S * P)))
      ⟨bb.out.alloc bb.out.size _, x0.out.alloc _, x1.out.alloc _, x2.out.alloc _, Box3.new _ _ _ _ rfl, A.out.alloc _, B.out.alloc _, hD.out.alloc _⟩ ?_
    have hY : w.heap.size + 2 < w2.heap.size := x2.out.lt
    clear bb x0 x1 x2 A B hD
    rintro u0 ⟨bb, x0, x1, x2, x3, A, B, D⟩
    obtain ⟨E2, hE2⟩ : ∃ E2, Hid (mkE (P * modF P Q R S) Q = E2) := ⟨_, Lib.hid rfl⟩
    go_cut [7, 8] from 36 to 45 (fun s t wx => ∃ B gb gp gn gc gq gm ge, s = .int .i64 (mkE (P * modF P Q R S) Q) ∧ t = .pointer (some ⟨B, 0, none⟩) ∧ Box3 wx B (.bool gb) (.slice gp gn gc) (.slice gq gm ge) ∧ Box3 wx (w.heap.size + 1) (.bool cb) (.slice cp cn cc) (.slice cq cm ce) ∧ Box3 wx (w.heap.size + 2) (.bool false) (.slice none 0 0) (.slice none 0 0) ∧ Rt wx cb cp cn cc cq cm ce R S ∧ Rt wx gb gp gn gc gq gm ge (modT P Q R S) (modB P Q R S) ∧ Below w.heap.size w wx ∧ w.heap.size + 2 < B)
    case first =>
      have lx0 := x0.lt
      have lx1 := x1.lt
      have lx2 := x2.lt
      have lx3 := x3.lt
      have bs := bb.size
      have sc0 := True.intro
      go_region_held3 (fun w' => w'.cell? ⟨w.heap.size, 0, none⟩ = some (.bool ab) ∧ w'.cell? ⟨w.heap.size, 1, none⟩ = some (.slice ap an ac) ∧ w'.cell? ⟨w.heap.size, 2, none⟩ = some (.slice aq am ae) ∧ w'.cell? ⟨w2.heap.size, 0, none⟩ = some (.bool db) ∧ w'.cell? ⟨w2.heap.size, 1, none⟩ = some (.slice dp dn dc) ∧ w'.cell? ⟨w2.heap.size, 2, none⟩ = some (.slice dq dm de))
        (first | with_reducible exact ⟨(x0.drew).c0, (x0.drew).c1, (x0.drew).c2, (x3.drew).c0, (x3.drew).c1, (x3.drew).c2⟩ | with_reducible exact ⟨((x0.alloc _).drew).c0, ((x0.alloc _).drew).c1, ((x0.alloc _).drew).c2, ((x3.alloc _).drew).c0, ((x3.alloc _).drew).c1, ((x3.alloc _).drew).c2⟩ | with_reducible exact ⟨x0.c0, x0.c1, x0.c2, x3.c0, x3.c1, x3.c2⟩ | with_reducible exact ⟨(x0.alloc _).c0, (x0.alloc _).c1, (x0.alloc _).c2, (x3.alloc _).c0, (x3.alloc _).c1, (x3.alloc _).c2⟩ | with_reducible exact ⟨(x0.other3 (by omega) _ _ _).c0, (x0.other3 (by omega) _ _ _).c1, (x0.other3 (by omega) _ _ _).c2, (x3.other3 (by omega) _ _ _).c0, (x3.other3 (by omega) _ _ _).c1, (x3.other3 (by omega) _ _ _).c2⟩ | go_keep)
        (first
        | (go_at_call 26; clear sc0; refine (floor_any db dp dq dn dc dm de (mkT (R * Q) (S * P)) (mkB (R * Q) (S * P)) _ ?_ (mk_low hE1.out)).mono ?_; (first | with_reducible exact (D.drew) | with_reducible exact ((D.alloc _).drew)); rintro e u1 ⟨fb, fp, fn, fc, fq, fm, fe, rfl, F, hb⟩; have hc : Below u0.heap.size u0 u1 := (by first | exact (Below.refl _ _).drew.trans hb | exact ((Below.refl _ _).alloc (by first | exact Nat.le_refl _ | (simp; done) | (simp; omega)) _).drew.trans (hb.mono (by first | (simp; done) | (simp; omega)))); have hz0 := hc.size; have x0 := x0.later hc; have x1 := x1.later hc; have x2 := x2.later hc; have x3 := x3.later hc; have A := A.below hc; have B := B.below hc; have D := D.below hc; have bb := below_then bb (Nat.le_refl _) hc; (first | (with_reducible have m10 := made13' hb) | skip); (try have k10 := m10.lt); clear hb hc; have sc1 := True.intro)
        | (go_at_call 12; clear sc1; refine (mul4_one ab ap aq an ac am ae P Q fb fp fq fn fc fm fe (modF P Q R S) _ ?_ lA'.out ?_ (low_floor (mk_low hE1.out))).mono ?_; (first | with_reducible exact A | with_reducible exact (A.alloc _)); (first | with_reducible exact F | with_reducible exact (F.alloc _)); rintro e u2 ⟨gb, gp, gn, gc, gq, gm, ge, rfl, G, hb⟩; have hc : Below u1.heap.size u1 u2 := (by first | with_reducible exact hb | exact ((Below.refl _ _).alloc (by first | exact Nat.le_refl _ | (simp; done) | (simp; omega)) _).trans (hb.mono (by first | (simp; done) | (simp; omega)))); have hz1 := hc.size; have x0 := x0.later hc; have x1 := x1.later hc; have x2 := x2.later hc; have x3 := x3.later hc; have A := A.below hc; have B := B.below hc; have D := D.below hc; have F := F.below hc; have bb := below_then bb (Nat.le_refl _) hc; (try have m10 := m10.later hc); (first | (with_reducible have m20 := made13 hb) | skip); (try have k10 := m10.lt); (try have k20 := m20.lt); (try (have f100 := m10.c0; have f101 := m10.c1; have f102 := m10.fr 0; have f103 := m10.fr 1; have f104 := m10.c2; have f105 := m10.fr 2)); (try (have f200 := m20.c0; have f201 := m20.c1; have f202 := m20.fr 0; have f203 := m20.fr 1; have f204 := m20.c2; have f205 := m20.fr 2)); clear hb hc; have sc2 := True.intro))
      · go_wp2_with fail; go_meet; exact ⟨_, gb, gp, gn, gc, gq, gm, ge, rfl, rfl, (Box3.new _ _ _ _ (by first | (simp; done) | rfl)), (x1.alloc _), (x2.alloc _), (B.alloc _), (G.alloc _), (Below.alloc bb (by first | omega | (simp; omega) | (simp; done)) _), (by first | omega | (simp; omega))⟩
      · go_wp2_with fail; go_meet; exact ⟨_, gb, gp, gn, gc, gq, gm, ge, rfl, rfl, (m20.set _ _ _), (x1.other3 (by omega) _ _ _), (x2.other3 (by omega) _ _ _), (B.box3 m20 _ _ _), (G.box3 m20 _ _ _), (below_set3 bb (by omega) _ _ _), (by first | omega | (simp; omega))⟩
      · go_wp2_with fail; go_meet; exact ⟨_, gb, gp, gn, gc, gq, gm, ge, rfl, rfl, (m10.set _ _ _), (x1.other3 (by omega) _ _ _), (x2.other3 (by omega) _ _ _), (B.box3 m10 _ _ _), (G.box3 m10 _ _ _), (below_set3 bb (by omega) _ _ _), (by first | omega | (simp; omega))⟩
    case rest =>
      obtain ⟨Y, db, dp, dn, dc, dq, dm, de, rfl, rfl, y, x1, x2, B, D, bb, hY⟩ := hcut
      by_cases h2 : E2 = 0
      · subst h2
        rw [hE2.out]
        have p0 := y.c0; have p1 := y.c1; have p2 := y.c2; have p3 := x1.c0; have p4 := x1.c1; have p5 := x1.c2
        have x2 := Lib.hid x2; have bb := Lib.hid bb; have B := Lib.hid B; have D := Lib.hid D
        clear y x1
        go_wp2_with fail
        refine (sub4_any cb cp cq cn cc cm ce R S db dp dq dn dc dm de (modT P Q R S) (modB P Q R S) _ B.out lB'.out D.out (mk_low hE2.out)).mono ?_
        rintro e w3 ⟨gb, gp, gn, gc, gq, gm, ge, rfl, hR, hb⟩
        have bb := below_then bb.out (Nat.le_refl _) hb
        have x2 := x2.out.later hb
        clear hb p0 p1 p2 p3 p4 p5 B D
        have q0 := x2.c0; have q1 := x2.c1; have q2 := x2.c2; have q3 := x2.fr 0; have q4 := x2.fr 1; have q5 := x2.fr 2
        have z := x2.set (.bool gb) (.slice gp gn gc) (.slice gq gm ge)
        have e0 := z.c0; have e1 := z.c1; have e2 := z.c2
        have x2' := Lib.hid x2; have bb' := Lib.hid bb; have hR' := Lib.hid hR
        clear z x2 bb hR 
        go_wp2_with fail
        refine bodyPost_ret (v := .tuple #[.agg #[.bool gb, .slice gp gn gc, .slice gq gm ge], .int .i64 (mkE (R * modB P Q R S + -modT P Q R S * S) (S * modB P Q R S))]) (by simp [results, Try.results23, go_sem, e0, e1, e2]) rfl ?_
        exact mod_ok hP'.out hE1.out hE2.out (ResPost.stored hR'.out x2'.out bb'.out (by omega))
      · rw [hE2.out]
        have h2' := Lib.hid h2
        clear y x1 B D
        have q0 := x2.c0; have q1 := x2.c1; have q2 := x2.c2; have q3 := x2.fr 0; have q4 := x2.fr 1; have q5 := x2.fr 2
        have z := x2.set (.bool false) (.slice none 0 0) (.slice none 0 0)
        have e0 := z.c0; have e1 := z.c1; have e2 := z.c2
        have x2' := Lib.hid x2; have bb' := Lib.hid bb
        clear z x2 bb 
        go_wp2_with fail
        refine bodyPost_ret (v := .tuple #[.agg #[.bool false, .slice none 0 0, .slice none 0 0], .int .i64 (E2)]) (by simp [results, Try.results23, go_sem, e0, e1, e2]) rfl ?_
        exact mod_two hP'.out hE1.out hE2.out h2'.out (ResPost.stored (rt_zero _) x2'.out bb'.out (by omega))
  · have h1' := Lib.hid h1
    refine ((div4_any cb cp cq cn cc cm ce R S ab ap aq an ac am ae P Q _ B.out lB'.out A.out lA'.out).mono fun _ _ => make_nz hE1.out h1'.out).mono ?_
    rintro e w2 ⟨db, dp, dn, dc, dq, dm, de, rfl, hD, hb⟩
    have bb := Lib.hid (below_then bb.out (Nat.le_refl _) hb)
    have x2 := Lib.hid (x2.out.later hb)
    clear hb hD A B x0 x1
    go_upto_region 4 with fail
    refine gen_wp (fun w' => Below w.heap.size w w' ∧ Box3 w' (w.heap.size + 2) (.bool false) (.slice none 0 0) (.slice none 0 0)) ⟨bb.out.alloc bb.out.size _, x2.out.alloc _⟩ ?_
    clear bb x2
    rintro u0 ⟨bb, x2⟩
    have q0 := x2.c0; have q1 := x2.c1; have q2 := x2.c2; have q3 := x2.fr 0; have q4 := x2.fr 1; have q5 := x2.fr 2
    have z := x2.set (.bool false) (.slice none 0 0) (.slice none 0 0)
    have e0 := z.c0; have e1 := z.c1; have e2 := z.c2
    have x2' := Lib.hid x2; have bb' := Lib.hid bb
    clear z x2 bb 
    go_wp2_with fail
    refine bodyPost_ret (v := .tuple #[.agg #[.bool false, .slice none 0 0, .slice none 0 0], .int .i64 (E1)]) (by simp [results, Try.results23, go_sem, e0, e1, e2]) rfl ?_
    exact mod_one hP'.out hE1.out h1'.out (ResPost.stored (rt_zero _) x2'.out bb'.out (by omega))

end Go.Proofs.Ytnnipciifjpooaa
