/-
  ratio.Floor, Ceil, Mod.
  scrimref04.Whole, Of, Neg, Mul, Div, Add, Sub, Cmp.
  What the laws of ratio ask for: a number as it is handed in; which ones are right; Make where it goes; brackets.
  slices.Equal of any limbs; ratio.Int, Gcd; scrimref04.IsWhole, Gcd.
  ratio.Gcd, Lcm; scrimref04.Gcd, Lcm.
-/
import Derived.Test.YtaepelipkkmeaaaGreatMgtA
import Derived.Test.YtaepelipkkmeaaaGreatMgtB
import Derived.Test.YtaepelipkkmeaaaGreatMgtC
import Derived.Test.YtaepelipkkmeaaaGreatMgtD
import Derived.Deep.LoopGhost
import Derived.WalkKit
import Derived.Lib.BitFns
import Derived.Laws.CopyOwn
import Derived.Deep.RegionWith
import Derived.Deep.RegionHeld3
import Derived.Deep.DrawnRows
import Derived.Deep.CutRange
import Derived.Lib.Small
import Derived.Lib.Walk
import Derived.Deep.QuietTactic
import Derived.BigQuiet
import Derived.WalkSpells
import Derived.WalkLawsBesides
import Derived.Lib.Hide
set_option maxRecDepth 20000
set_option maxHeartbeats 16000000
namespace Go.Proofs.YtaepelipkkmeaaaGreat
open Go.RowKit Num
attribute [local go_sem ↓] Go.wp_at_zero Go.wp_at_succ
def FDivPost (x y : Int) (w : World) (e : Ending) (w' : World) : Prop :=
 ∃ b ao n nc c bo m mc, e = .returned (.tuple #[.agg #[.bool b, .slice ao n nc], .agg #[.bool c, .slice bo m mc], .bool true]) ∧ Right w' b ao n nc (x.fdiv y) ∧ Right w' c bo m mc (x.fmod y) ∧ Below w.heap.size w w'
theorem IDivPost.nz {x y : Int} {w w' : World} {e : Ending} (hy : y ≠ 0) (h : IDivPost x y w e w') : FDivPost x y w e w' := by
 obtain ⟨hb, ⟨h0, _⟩ | ⟨_, b, ao, n, nc, c, bo, m, mc, rfl, h1, h2⟩⟩ := h
 ·exact absurd h0 hy
 ·exact ⟨b, ao, n, nc, c, bo, m, mc, rfl, h1, h2, hb⟩
theorem floor_any (ab : Bool) (ap aq : Option Addr) (an ac am ae : Nat) (P : Int) (Q : Nat) (w : World) (A : Rt w ab ap an ac aq am ae P Q) (lA : Low P Q) :
  Calls Tryz.prog 54 #[.agg #[.bool ab, .slice ap an ac, .slice aq am ae]] w (RatPost (P.fdiv Q) 1 w) := by
 have lA' := Lib.hid lA
 have A' := Lib.hid A
 clear lA A
 go_enter Tryz.func54, Tryz.ntmps54
 go_wp2_with fail
 refine gen_wp (fun w' => Below w.heap.size w w' ∧ Box3 w' w.heap.size (.bool ab) (.slice ap an ac) (.slice aq am ae) ∧ Box3 w' (w.heap.size + 1) (.bool false) (.slice none 0 0) (.slice none 0 0))
  ⟨(((Below.refl _ _).alloc (Nat.le_refl _) _).alloc (by simp <;> omega) _), ((Box3.new _ _ _ _ rfl).alloc _), (Box3.new _ _ _ _ (by simp <;> omega))⟩ ?_
 rintro u0 ⟨bb, x0, x1⟩
 have A := A'.out.below bb
 clear A'
 go_cut [3] from 15 to 17 (fun t wx => ∃ B eb eo en ec, t = .pointer (some ⟨B, 0, none⟩) ∧ Box wx B (.bool eb) (.slice eo en ec) ∧ Box3 wx (w.heap.size + 1) (.bool false) (.slice none 0 0) (.slice none 0 0) ∧ Right wx eb eo en ec (P.fdiv Q) ∧ Below w.heap.size w wx ∧ w.heap.size + 1 < B)
 case first =>
  have lx0 := x0.lt
  have lx1 := x1.lt
  have bs := bb.size
  have sa0 := True.intro
  go_region_held3 (fun w' => w'.cell? ⟨w.heap.size, 0, none⟩ = some (.bool ab) ∧ w'.cell? ⟨w.heap.size, 1, none⟩ = some (.slice ap an ac) ∧ w'.cell? ⟨w.heap.size, 2, none⟩ = some (.slice aq am ae))
   (first | with_reducible exact ⟨(x0.drew).c0, (x0.drew).c1, (x0.drew).c2⟩ | with_reducible exact ⟨((x0.alloc _).drew).c0, ((x0.alloc _).drew).c1, ((x0.alloc _).drew).c2⟩ | with_reducible exact ⟨(((x0.alloc _).alloc _).drew).c0, (((x0.alloc _).alloc _).drew).c1, (((x0.alloc _).alloc _).drew).c2⟩ | with_reducible exact ⟨x0.c0, x0.c1, x0.c2⟩ | with_reducible exact ⟨(x0.alloc _).c0, (x0.alloc _).c1, (x0.alloc _).c2⟩ | with_reducible exact ⟨((x0.alloc _).alloc _).c0, ((x0.alloc _).alloc _).c1, ((x0.alloc _).alloc _).c2⟩ | with_reducible exact ⟨(x0.other (by omega) _ _).c0, (x0.other (by omega) _ _).c1, (x0.other (by omega) _ _).c2⟩ | with_reducible exact ⟨((x0.other (by omega) _ _).alloc _).c0, ((x0.other (by omega) _ _).alloc _).c1, ((x0.other (by omega) _ _).alloc _).c2⟩ | with_reducible exact ⟨((x0.other (by omega) _ _).other (by omega) _ _).c0, ((x0.other (by omega) _ _).other (by omega) _ _).c1, ((x0.other (by omega) _ _).other (by omega) _ _).c2⟩ | go_keep)
   (first
   | (go_at_call 107; clear sa0; refine (upper_any ab ap aq an ac am ae _).mono ?_; rintro e u1 ⟨rfl, hb⟩; have hc : Below u0.heap.size u0 u1 := (by first | exact (Below.refl _ _).drew.trans hb | exact ((Below.refl _ _).alloc (by first | exact Nat.le_refl _ | (simp; done) | (simp; omega)) _).drew.trans (hb.mono (by simp <;> omega)) | exact (((Below.refl _ _).alloc (by first | exact Nat.le_refl _ | (simp; done) | (simp; omega)) _).alloc (by first | exact Nat.le_refl _ | (simp; done) | (simp; omega)) _).drew.trans (hb.mono (by simp <;> omega))); have hz0 := hc.size; have x0 := x0.later hc; have x1 := x1.later hc; have A := A.below hc; have bb := below_then bb (Nat.le_refl _) hc; (first | (with_reducible have mm := made2' hb; obtain ⟨m10, m11⟩ := mm) | (with_reducible have m10 := made1' hb) | skip); (try have k10 := m10.lt); (try have k11 := m11.lt); clear hb hc; have sa1 := True.intro)
   | (go_at_call 113; clear sa1; refine (lower_any ab ap aq an ac am ae _).mono ?_; rintro e u2 ⟨rfl, hb⟩; have hc : Below u1.heap.size u1 u2 := (by first | with_reducible exact hb | exact ((Below.refl _ _).alloc (by first | exact Nat.le_refl _ | (simp; done) | (simp; omega)) _).trans (hb.mono (by simp <;> omega)) | exact (((Below.refl _ _).alloc (by first | exact Nat.le_refl _ | (simp; done) | (simp; omega)) _).alloc (by first | exact Nat.le_refl _ | (simp; done) | (simp; omega)) _).trans (hb.mono (by simp <;> omega))); have hz1 := hc.size; have x0 := x0.later hc; have x1 := x1.later hc; have A := A.below hc; have bb := below_then bb (Nat.le_refl _) hc; (try have m10 := m10.later hc); (try have m11 := m11.later hc); (first | (with_reducible have mm := made2 hb; obtain ⟨m20, m21⟩ := mm) | (with_reducible have m20 := made1 hb) | skip); (try have k10 := m10.lt); (try have k11 := m11.lt); (try have k20 := m20.lt); (try have k21 := m21.lt); clear hb hc; have sa2 := True.intro)
   | (go_at_call 114; clear sa2; refine (((wDivMod_any ab false ap aq an ac am ae P Q _ ?_ ?_).mono fun _ _ => IDivPost.nz lA'.out.nz)).mono ?_; (first | with_reducible exact (A).upper lA'.out | with_reducible exact ((A.alloc _)).upper lA'.out | with_reducible exact (((A.alloc _).alloc _)).upper lA'.out); (first | with_reducible exact (A).lower lA'.out | with_reducible exact ((A.alloc _)).lower lA'.out | with_reducible exact (((A.alloc _).alloc _)).lower lA'.out); rintro e u3 ⟨eb, eo, en, ec, fb, fo, fn, fc, rfl, h1, h2, hb⟩; have hc : Below u2.heap.size u2 u3 := (by first | with_reducible exact hb | exact ((Below.refl _ _).alloc (by first | exact Nat.le_refl _ | (simp; done) | (simp; omega)) _).trans (hb.mono (by simp <;> omega)) | exact (((Below.refl _ _).alloc (by first | exact Nat.le_refl _ | (simp; done) | (simp; omega)) _).alloc (by first | exact Nat.le_refl _ | (simp; done) | (simp; omega)) _).trans (hb.mono (by simp <;> omega))); have hz2 := hc.size; have x0 := x0.later hc; have x1 := x1.later hc; have A := A.below hc; have bb := below_then bb (Nat.le_refl _) hc; (try have m10 := m10.later hc); (try have m11 := m11.later hc); (try have m20 := m20.later hc); (try have m21 := m21.later hc); (first | (with_reducible have mm := made2 hb; obtain ⟨m30, m31⟩ := mm) | (with_reducible have m30 := made1 hb) | skip); (try have k10 := m10.lt); (try have k11 := m11.lt); (try have k20 := m20.lt); (try have k21 := m21.lt); (try have k30 := m30.lt); (try have k31 := m31.lt); (try (have f100 := m10.c0; have f101 := m10.c1; have f102 := m10.fr 0; have f103 := m10.fr 1)); (try (have f110 := m11.c0; have f111 := m11.c1; have f112 := m11.fr 0; have f113 := m11.fr 1)); (try (have f200 := m20.c0; have f201 := m20.c1; have f202 := m20.fr 0; have f203 := m20.fr 1)); (try (have f210 := m21.c0; have f211 := m21.c1; have f212 := m21.fr 0; have f213 := m21.fr 1)); (try (have f300 := m30.c0; have f301 := m30.c1; have f302 := m30.fr 0; have f303 := m30.fr 1)); (try (have f310 := m31.c0; have f311 := m31.c1; have f312 := m31.fr 0; have f313 := m31.fr 1)); clear hb hc; have sa3 := True.intro))
  ·go_wp2_with fail; go_meet; exact ⟨_, eb, eo, en, ec, rfl, ((Box.new _ _ _ (by first | (simp; done) | rfl)).alloc _), ((x1.alloc _).alloc _), ((h1.alloc _).alloc _), (Below.alloc (Below.alloc bb (by first | omega | simp <;> omega) _) (by first | omega | simp <;> omega) _), (by first | omega | (simp; omega))⟩
  ·go_wp2_with fail; go_meet; exact ⟨_, eb, eo, en, ec, rfl, (Box.new _ _ _ (by first | (simp; done) | rfl)), ((x1.alloc _).alloc _), ((h1.alloc _).alloc _), (Below.alloc (Below.alloc bb (by first | omega | simp <;> omega) _) (by first | omega | simp <;> omega) _), (by first | omega | (simp; omega))⟩
  ·go_wp2_with fail; go_meet; exact ⟨_, eb, eo, en, ec, rfl, ((m30.set _ _).alloc _), ((x1.other (by omega) _ _).alloc _), ((h1.box m30 _ _).alloc _), (Below.alloc (below_set bb (by omega) _ _) (by first | omega | simp <;> omega) _), (by first | omega | (simp; omega))⟩
  ·go_wp2_with fail; go_meet; exact ⟨_, eb, eo, en, ec, rfl, ((m30.set _ _).other (by omega) _ _), ((x1.other (by omega) _ _).other (by omega) _ _), ((h1.box m30 _ _).box (m31.other (by omega) _ _) _ _), (below_set (below_set bb (by omega) _ _) (by omega) _ _), (by first | omega | (simp; omega))⟩
  ·go_wp2_with fail; go_meet; exact ⟨_, eb, eo, en, ec, rfl, (Box.new _ _ _ (by first | (simp; done) | rfl)), ((x1.other (by omega) _ _).alloc _), ((h1.box m30 _ _).alloc _), (Below.alloc (below_set bb (by omega) _ _) (by first | omega | simp <;> omega) _), (by first | omega | (simp; omega))⟩
  ·go_wp2_with fail; go_meet; exact ⟨_, eb, eo, en, ec, rfl, ((m31.set _ _).other (by omega) _ _), ((x1.other (by omega) _ _).other (by omega) _ _), ((h1.box m31 _ _).box (m30.other (by omega) _ _) _ _), (below_set (below_set bb (by omega) _ _) (by omega) _ _), (by first | omega | (simp; omega))⟩
  ·go_wp2_with fail; go_meet; exact ⟨_, eb, eo, en, ec, rfl, ((m20.set _ _).alloc _), ((x1.other (by omega) _ _).alloc _), ((h1.box m20 _ _).alloc _), (Below.alloc (below_set bb (by omega) _ _) (by first | omega | simp <;> omega) _), (by first | omega | (simp; omega))⟩
  ·go_wp2_with fail; go_meet; exact ⟨_, eb, eo, en, ec, rfl, ((m20.set _ _).other (by omega) _ _), ((x1.other (by omega) _ _).other (by omega) _ _), ((h1.box m20 _ _).box (m30.other (by omega) _ _) _ _), (below_set (below_set bb (by omega) _ _) (by omega) _ _), (by first | omega | (simp; omega))⟩
  ·go_wp2_with fail; go_meet; exact ⟨_, eb, eo, en, ec, rfl, ((m20.set _ _).other (by omega) _ _), ((x1.other (by omega) _ _).other (by omega) _ _), ((h1.box m20 _ _).box (m21.other (by omega) _ _) _ _), (below_set (below_set bb (by omega) _ _) (by omega) _ _), (by first | omega | (simp; omega))⟩
  ·go_wp2_with fail; go_meet; exact ⟨_, eb, eo, en, ec, rfl, (Box.new _ _ _ (by first | (simp; done) | rfl)), ((x1.other (by omega) _ _).alloc _), ((h1.box m20 _ _).alloc _), (Below.alloc (below_set bb (by omega) _ _) (by first | omega | simp <;> omega) _), (by first | omega | (simp; omega))⟩
  ·go_wp2_with fail; go_meet; exact ⟨_, eb, eo, en, ec, rfl, ((m30.set _ _).other (by omega) _ _), ((x1.other (by omega) _ _).other (by omega) _ _), ((h1.box m30 _ _).box (m20.other (by omega) _ _) _ _), (below_set (below_set bb (by omega) _ _) (by omega) _ _), (by first | omega | (simp; omega))⟩
  ·go_wp2_with fail; go_meet; exact ⟨_, eb, eo, en, ec, rfl, ((m21.set _ _).other (by omega) _ _), ((x1.other (by omega) _ _).other (by omega) _ _), ((h1.box m21 _ _).box (m20.other (by omega) _ _) _ _), (below_set (below_set bb (by omega) _ _) (by omega) _ _), (by first | omega | (simp; omega))⟩
  ·go_wp2_with fail; go_meet; exact ⟨_, eb, eo, en, ec, rfl, ((m10.set _ _).alloc _), ((x1.other (by omega) _ _).alloc _), ((h1.box m10 _ _).alloc _), (Below.alloc (below_set bb (by omega) _ _) (by first | omega | simp <;> omega) _), (by first | omega | (simp; omega))⟩
  ·go_wp2_with fail; go_meet; exact ⟨_, eb, eo, en, ec, rfl, ((m10.set _ _).other (by omega) _ _), ((x1.other (by omega) _ _).other (by omega) _ _), ((h1.box m10 _ _).box (m30.other (by omega) _ _) _ _), (below_set (below_set bb (by omega) _ _) (by omega) _ _), (by first | omega | (simp; omega))⟩
  ·go_wp2_with fail; go_meet; exact ⟨_, eb, eo, en, ec, rfl, ((m10.set _ _).other (by omega) _ _), ((x1.other (by omega) _ _).other (by omega) _ _), ((h1.box m10 _ _).box (m20.other (by omega) _ _) _ _), (below_set (below_set bb (by omega) _ _) (by omega) _ _), (by first | omega | (simp; omega))⟩
  ·go_wp2_with fail; go_meet; exact ⟨_, eb, eo, en, ec, rfl, ((m10.set _ _).other (by omega) _ _), ((x1.other (by omega) _ _).other (by omega) _ _), ((h1.box m10 _ _).box (m11.other (by omega) _ _) _ _), (below_set (below_set bb (by omega) _ _) (by omega) _ _), (by first | omega | (simp; omega))⟩
  ·go_wp2_with fail; go_meet; exact ⟨_, eb, eo, en, ec, rfl, (Box.new _ _ _ (by first | (simp; done) | rfl)), ((x1.other (by omega) _ _).alloc _), ((h1.box m10 _ _).alloc _), (Below.alloc (below_set bb (by omega) _ _) (by first | omega | simp <;> omega) _), (by first | omega | (simp; omega))⟩
  ·go_wp2_with fail; go_meet; exact ⟨_, eb, eo, en, ec, rfl, ((m30.set _ _).other (by omega) _ _), ((x1.other (by omega) _ _).other (by omega) _ _), ((h1.box m30 _ _).box (m10.other (by omega) _ _) _ _), (below_set (below_set bb (by omega) _ _) (by omega) _ _), (by first | omega | (simp; omega))⟩
  ·go_wp2_with fail; go_meet; exact ⟨_, eb, eo, en, ec, rfl, ((m20.set _ _).other (by omega) _ _), ((x1.other (by omega) _ _).other (by omega) _ _), ((h1.box m20 _ _).box (m10.other (by omega) _ _) _ _), (below_set (below_set bb (by omega) _ _) (by omega) _ _), (by first | omega | (simp; omega))⟩
  ·go_wp2_with fail; go_meet; exact ⟨_, eb, eo, en, ec, rfl, ((m11.set _ _).other (by omega) _ _), ((x1.other (by omega) _ _).other (by omega) _ _), ((h1.box m11 _ _).box (m10.other (by omega) _ _) _ _), (below_set (below_set bb (by omega) _ _) (by omega) _ _), (by first | omega | (simp; omega))⟩
 case rest =>
  obtain ⟨Y, eb, eo, en, ec, rfl, y, x1, h1, bb, hY⟩ := hcut
  have p0 := y.c0; have p1 := y.c1
  go_wp2_with fail
  refine (whole_any eb eo en ec (P.fdiv Q) _ (h1.whole32 (low_floor lA'.out).abs_lt) (low_floor lA'.out).abs_lt).mono ?_
  rintro e w2 ⟨gb, gp, gn, gc, gq, gm, ge, rfl, hR, hb⟩
  have bb := Lib.hid (below_then bb (Nat.le_refl _) hb)
  have x1 := x1.later hb
  have x1' := Lib.hid x1; have hR' := Lib.hid hR
  have q0 := x1.c0; have q1 := x1.c1; have q2 := x1.c2; have q3 := x1.fr 0; have q4 := x1.fr 1; have q5 := x1.fr 2
  have z := x1.set (.bool gb) (.slice gp gn gc) (.slice gq gm ge)
  have e0 := z.c0; have e1 := z.c1; have e2 := z.c2
  clear x1 hb z hR h1 y p0 p1
  go_wp2_with fail
  refine bodyPost_ret (v := .agg #[.bool gb, .slice gp gn gc, .slice gq gm ge]) (by simp [results, Tryz.results54, go_sem, e0, e1, e2]) rfl ?_
  exact RatPost.stored hR'.out x1'.out bb.out (by omega)
theorem ceil_any (ab : Bool) (ap aq : Option Addr) (an ac am ae : Nat) (P : Int) (Q : Nat) (w : World) (A : Rt w ab ap an ac aq am ae P Q) (lA : Low P Q) :
  Calls Tryz.prog 53 #[.agg #[.bool ab, .slice ap an ac, .slice aq am ae]] w (RatPost (-((-P).fdiv Q)) 1 w) := by
 have lA' := Lib.hid lA
 have A' := Lib.hid A
 clear lA A
 go_enter Tryz.func53, Tryz.ntmps53
 go_wp2_with fail
 refine gen_calls (fun w' => Below w.heap.size w w' ∧ Box3 w' w.heap.size (.bool ab) (.slice ap an ac) (.slice aq am ae) ∧ Box3 w' (w.heap.size + 1) (.bool false) (.slice none 0 0) (.slice none 0 0))
  ⟨(((Below.refl _ _).alloc (Nat.le_refl _) _).alloc (by simp <;> omega) _), ((Box3.new _ _ _ _ rfl).alloc _), (Box3.new _ _ _ _ (by simp <;> omega))⟩ ?_
 rintro w0 ⟨hb0, x0, x1⟩
 refine (neg_any ab ap aq an ac am ae P Q _ (A'.out.below hb0) lA'.out).mono ?_
 rintro e w1 ⟨db, dp, dn, dc, dq, dm, de, rfl, h1, hb⟩
 have x1 := Lib.hid (x1.later hb); have bb := Lib.hid (below_then hb0 (Nat.le_refl _) hb)
 have h1' := Lib.hid h1
 clear hb hb0 h1 x0
 go_wp2_with fail
 refine (floor_any db dp dq dn dc dm de (-P) Q _ h1'.out lA'.out.neg).mono ?_
 rintro e w2 ⟨eb, ep, en, ec, eq, em, ee, rfl, h2, hb⟩
 have x1 := Lib.hid (x1.out.later hb); have bb := Lib.hid (below_then bb.out (Nat.le_refl _) hb)
 have h2' := Lib.hid h2
 clear hb h2
 go_wp2_with fail
 refine (neg_any eb ep eq en ec em ee ((-P).fdiv Q) 1 _ h2'.out (low_floor lA'.out.neg)).mono ?_
 rintro e w3 ⟨gb, gp, gn, gc, gq, gm, ge, rfl, hR, hb⟩
 have bb := Lib.hid (below_then bb.out (Nat.le_refl _) hb)
 have x1 := x1.out.later hb
 have x1' := Lib.hid x1; have hR' := Lib.hid hR
 have q0 := x1.c0; have q1 := x1.c1; have q2 := x1.c2; have q3 := x1.fr 0; have q4 := x1.fr 1; have q5 := x1.fr 2
 have z := x1.set (.bool gb) (.slice gp gn gc) (.slice gq gm ge)
 have e0 := z.c0; have e1 := z.c1; have e2 := z.c2
 clear x1 hb z hR
 go_wp2_with fail
 refine bodyPost_ret (v := .agg #[.bool gb, .slice gp gn gc, .slice gq gm ge]) (by simp [results, Tryz.results53, go_sem, e0, e1, e2]) rfl ?_
 exact RatPost.stored hR'.out x1'.out bb.out (by omega)
theorem mul4_one (ab : Bool) (ap aq : Option Addr) (an ac am ae : Nat) (P : Int) (Q : Nat) (cb : Bool) (cp cq : Option Addr) (cn cc cm ce : Nat) (R : Int) (w : World) (A : Rt w ab ap an ac aq am ae P Q) (lA : Low P Q) (B : Rt w cb cp cn cc cq cm ce R 1) (lB : Low R 1) :
  Calls Tryz.prog 65 #[.agg #[.bool ab, .slice ap an ac, .slice aq am ae], .agg #[.bool cb, .slice cp cn cc, .slice cq cm ce]] w (MakePost (P * R) Q w) := by
 have h := mul4_any ab ap aq an ac am ae P Q cb cp cq cn cc cm ce R 1 w A lA B lB
 have e : (Q : Int) * ((1 : Nat) : Int) = Q := by omega
 rwa [e] at h
abbrev modF (P : Int) (Q : Nat) (R : Int) (S : Nat) : Int := (mkT (R * Q) (S * P)).fdiv (mkB (R * Q) (S * P))
abbrev modT (P : Int) (Q : Nat) (R : Int) (S : Nat) : Int := mkT (P * modF P Q R S) Q
abbrev modB (P : Int) (Q : Nat) (R : Int) (S : Nat) : Nat := mkB (P * modF P Q R S) Q
def modRes (P : Int) (Q : Nat) (R : Int) (S : Nat) : Int × Nat × Int :=
 if P = 0 then (R, S, 0) else if mkE (R * Q) (S * P) ≠ 0 then (0, 0, mkE (R * Q) (S * P)) else
 if mkE (P * modF P Q R S) Q ≠ 0 then (0, 0, mkE (P * modF P Q R S) Q) else
 (mkT (R * modB P Q R S + -modT P Q R S * S) (S * modB P Q R S), mkB (R * modB P Q R S + -modT P Q R S * S) (S * modB P Q R S), mkE (R * modB P Q R S + -modT P Q R S * S) (S * modB P Q R S))
def ModPost (P : Int) (Q : Nat) (R : Int) (S : Nat) := ResPost (modRes P Q R S).1 (modRes P Q R S).2.1 (modRes P Q R S).2.2
theorem mod_zero {P R : Int} {Q S : Nat} {w w' : World} {e : Ending} (h : P = 0) (k : ResPost R S 0 w e w') : ModPost P Q R S w e w' := by
 unfold ModPost modRes
 rw [if_pos h]; exact k
theorem mod_one {P R : Int} {Q S : Nat} {w w' : World} {e : Ending} {E : Int} (h : P ≠ 0) (h1 : mkE (R * Q) (S * P) = E) (hE : E ≠ 0) (k : ResPost 0 0 E w e w') : ModPost P Q R S w e w' := by
 unfold ModPost modRes
 rw [if_neg h, if_pos (by rw [h1]; exact hE), h1]; exact k
theorem mod_two {P R : Int} {Q S : Nat} {w w' : World} {e : Ending} {E : Int} (h : P ≠ 0) (h1 : mkE (R * Q) (S * P) = 0) (h2 : mkE (P * modF P Q R S) Q = E) (hE : E ≠ 0) (k : ResPost 0 0 E w e w') : ModPost P Q R S w e w' := by
 unfold ModPost modRes
 rw [if_neg h, if_neg (by rw [h1]; decide), if_pos (by rw [h2]; exact hE), h2]; exact k
theorem mod_ok {P R : Int} {Q S : Nat} {w w' : World} {e : Ending} (h : P ≠ 0) (h1 : mkE (R * Q) (S * P) = 0) (h2 : mkE (P * modF P Q R S) Q = 0) (k : MakePost (R * modB P Q R S + -modT P Q R S * S) (S * modB P Q R S) w e w') : ModPost P Q R S w e w' := by
 unfold ModPost modRes
 rw [if_neg h, if_neg (by rw [h1]; decide), if_neg (by rw [h2]; decide)]; exact k
theorem make_zero {p q : Int} {w w' : World} {E : Ending} (h : mkE p q = 0) (k : MakePost p q w E w') : ResPost (mkT p q) (mkB p q) 0 w E w' := by
 have k : ResPost (mkT p q) (mkB p q) (mkE p q) w E w' := k
 rwa [h] at k
theorem make_nz {p q e : Int} {w w' : World} {E : Ending} (h : mkE p q = e) (he : e ≠ 0) (k : MakePost p q w E w') : ResPost 0 0 e w E w' := by
 subst h
 have k : ResPost (mkT p q) (mkB p q) (mkE p q) w E w' := k
 rwa [(mk_bad he).1, (mk_bad he).2] at k
theorem mod4_any (ab : Bool) (ap aq : Option Addr) (an ac am ae : Nat) (P : Int) (Q : Nat) (cb : Bool) (cp cq : Option Addr) (cn cc cm ce : Nat) (R : Int) (S : Nat) (w : World) (A : Rt w ab ap an ac aq am ae P Q) (lA : Low P Q) (B : Rt w cb cp cn cc cq cm ce R S) (lB : Low R S) :
  Calls Tryz.prog 66 #[.agg #[.bool ab, .slice ap an ac, .slice aq am ae], .agg #[.bool cb, .slice cp cn cc, .slice cq cm ce]] w (ModPost P Q R S w) := by
 have lA' := Lib.hid lA; have lB' := Lib.hid lB
 have A' := Lib.hid A; have B' := Lib.hid B
 clear lA A lB B
 go_enter Tryz.func66, Tryz.ntmps66
 go_wp2_with fail
 refine gen_calls (fun w' => Below w.heap.size w w' ∧ Box3 w' w.heap.size (.bool ab) (.slice ap an ac) (.slice aq am ae) ∧ Box3 w' (w.heap.size + 1) (.bool cb) (.slice cp cn cc) (.slice cq cm ce) ∧ Box3 w' (w.heap.size + 2) (.bool false) (.slice none 0 0) (.slice none 0 0))
  ⟨((((Below.refl _ _).alloc (Nat.le_refl _) _).alloc (by simp <;> omega) _).alloc (by simp <;> omega) _), (((Box3.new _ _ _ _ rfl).alloc _).alloc _), ((Box3.new _ _ _ _ (by simp <;> omega)).alloc _), (Box3.new _ _ _ _ (by simp <;> omega))⟩ ?_
 rintro w0 ⟨hb0, x0, x1, x2⟩
 refine (sign_any ab ap aq an ac am ae P Q _ (A'.out.below hb0) lA'.out).mono ?_
 by_cases hP : P = 0
 ·have hs : P.sign = 0 := by rw [hP]; rfl
  rw [hs]
  have hP' := Lib.hid hP
  clear hs hP
  rintro e w1 ⟨rfl, hb⟩
  have bb := Lib.hid (below_then hb0 (Nat.le_refl _) hb)
  have x0 := Lib.hid (x0.later hb); have x1 := Lib.hid (x1.later hb); have x2 := Lib.hid (x2.later hb)
  clear hb hb0
  go_wp2_with fail
  have x0 := x0.out.drew; have x1 := x1.out.drew; have x2 := x2.out.drew; have bb := bb.out.drew
  have B := B'.out.below bb
  have sb0 := True.intro
  go_region_held3 (fun w' => w'.cell? ⟨(w.heap.size + 1), 0, none⟩ = some (.bool cb) ∧ w'.cell? ⟨(w.heap.size + 1), 1, none⟩ = some (.slice cp cn cc) ∧ w'.cell? ⟨(w.heap.size + 1), 2, none⟩ = some (.slice cq cm ce))
   (first | with_reducible exact ⟨x1.c0, x1.c1, x1.c2⟩ | with_reducible exact ⟨(x1.other3 (by omega) _ _ _).c0, (x1.other3 (by omega) _ _ _).c1, (x1.other3 (by omega) _ _ _).c2⟩ | go_keep)
   (first
   | (go_at_call 107; clear sb0; refine (upper_any cb cp cq cn cc cm ce _).mono ?_; rintro e w' ⟨rfl, hb⟩; have bb := below_then bb (Nat.le_refl _) hb; have x0 := x0.later hb; have x1 := x1.later hb; have x2 := x2.later hb; have B := B.below hb; clear hb; have sb1 := True.intro)
   | (go_at_call 113; clear sb1; refine (lower_any cb cp cq cn cc cm ce _).mono ?_; rintro e w' ⟨rfl, hb⟩; have bb := below_then bb (Nat.le_refl _) hb; have x0 := x0.later hb; have x1 := x1.later hb; have x2 := x2.later hb; have B := B.below hb; clear hb; have sb2 := True.intro)
   | (go_at_call 111; clear sb2; refine (make_any cb false cp cq cn cc cm ce R S _ (B.upper lB'.out) (B.lower lB'.out)).mono ?_; rintro e w' ⟨gb, gp, gn, gc, gq, gm, ge, rfl, hR, hb⟩; have bb := below_then bb (Nat.le_refl _) hb; have x0 := x0.later hb; have x1 := x1.later hb; have x2 := x2.later hb; have B := B.below hb; clear hb; have q0 := x2.c0; have q1 := x2.c1; have q2 := x2.c2; have q3 := x2.fr 0; have q4 := x2.fr 1; have q5 := x2.fr 2; have sb3 := True.intro))
  have z := x2.set (.bool gb) (.slice gp gn gc) (.slice gq gm ge)
  have e0 := z.c0; have e1 := z.c1; have e2 := z.c2
  have x2' := Lib.hid x2; have bb' := Lib.hid bb; have hR' := Lib.hid hR
  clear z x2 bb hR x0 x1 B
  go_wp2_with fail
  refine bodyPost_ret (v := .tuple #[.agg #[.bool gb, .slice gp gn gc, .slice gq gm ge], .int .i64 (mkE R S)]) (by simp [results, Tryz.results66, go_sem, e0, e1, e2]) rfl ?_
  obtain ⟨h1, h2, h3⟩ := mk_self lB'.out
  exact mod_zero hP'.out (by have := ResPost.stored (E := mkE R S) hR'.out x2'.out bb'.out (Nat.le_add_right _ 2); rw [h1, h2, h3] at this; rw [h1]; exact this)
 have hs : ¬ P.sign = 0 := fun e => hP (Int.sign_eq_zero_iff_zero.1 e)
 have hP' := Lib.hid hP
 clear hP
 rintro e w1 ⟨rfl, hb⟩
 have bb := Lib.hid (below_then hb0 (Nat.le_refl _) hb)
 have x0 := x0.later hb; have x1 := x1.later hb; have x2 := Lib.hid (x2.later hb)
 have A := Lib.hid (A'.out.below bb.out); have B := Lib.hid (B'.out.below bb.out)
 have p0 := x0.c0; have p1 := x0.c1; have p2 := x0.c2; have p3 := x1.c0; have p4 := x1.c1; have p5 := x1.c2
 have x0 := Lib.hid x0; have x1 := Lib.hid x1
 clear hb hb0 A' B'
 go_wp2_with fail
 clear p0 p1 p2 p3 p4 p5 hs
 obtain ⟨E1, hE1⟩ : ∃ E1, Hid (mkE (R * Q) (S * P) = E1) := ⟨_, Lib.hid rfl⟩
 by_cases h1 : E1 = 0
 ·subst h1
  refine ((div4_any cb cp cq cn cc cm ce R S ab ap aq an ac am ae P Q _ B.out lB'.out A.out lA'.out).mono fun _ _ => make_zero hE1.out).mono ?_
  rintro e w2 ⟨db, dp, dn, dc, dq, dm, de, rfl, hD, hb⟩
  have bb := Lib.hid (below_then bb.out (Nat.le_refl _) hb)
  have x0 := Lib.hid (x0.out.later hb); have x1 := Lib.hid (x1.out.later hb); have x2 := Lib.hid (x2.out.later hb)
  have A := Lib.hid (A.out.below hb); have B := Lib.hid (B.out.below hb); have hD := Lib.hid hD
  clear hb
  go_wp2_with fail
  refine gen_wp (fun w' => Below w.heap.size w w' ∧ Box3 w' w.heap.size (.bool ab) (.slice ap an ac) (.slice aq am ae) ∧ Box3 w' (w.heap.size + 1) (.bool cb) (.slice cp cn cc) (.slice cq cm ce) ∧ Box3 w' (w.heap.size + 2) (.bool false) (.slice none 0 0) (.slice none 0 0) ∧ Box3 w' w2.heap.size (.bool db) (.slice dp dn dc) (.slice dq dm de) ∧ Rt w' ab ap an ac aq am ae P Q ∧ Rt w' cb cp cn cc cq cm ce R S ∧ Rt w' db dp dn dc dq dm de (mkT (R * Q) (S * P)) (mkB (R * Q) (S * P)))
   ⟨bb.out.alloc bb.out.size _, x0.out.alloc _, x1.out.alloc _, x2.out.alloc _, Box3.new _ _ _ _ rfl, A.out.alloc _, B.out.alloc _, hD.out.alloc _⟩ ?_
  have hY : w.heap.size + 2 < w2.heap.size := x2.out.lt
  clear bb x0 x1 x2 A B hD
  rintro u0 ⟨bb, x0, x1, x2, x3, A, B, D⟩
  obtain ⟨E2, hE2⟩ : ∃ E2, Hid (mkE (P * modF P Q R S) Q = E2) := ⟨_, Lib.hid rfl⟩
  go_cut [7, 8] from 36 to 45 (fun s t wx => ∃ B gb gp gn gc gq gm ge, s = .int .i64 (mkE (P * modF P Q R S) Q) ∧ t = .pointer (some ⟨B, 0, none⟩) ∧ Box3 wx B (.bool gb) (.slice gp gn gc) (.slice gq gm ge) ∧ Box3 wx (w.heap.size + 1) (.bool cb) (.slice cp cn cc) (.slice cq cm ce) ∧ Box3 wx (w.heap.size + 2) (.bool false) (.slice none 0 0) (.slice none 0 0) ∧ Rt wx cb cp cn cc cq cm ce R S ∧ Rt wx gb gp gn gc gq gm ge (modT P Q R S) (modB P Q R S) ∧ Below w.heap.size w wx ∧ w.heap.size + 2 < B)
  case first =>
   have lx0 := x0.lt
   have lx1 := x1.lt
   have lx2 := x2.lt
   have lx3 := x3.lt
   have bs := bb.size
   have sc0 := True.intro
   go_region_held3 (fun w' => w'.cell? ⟨w.heap.size, 0, none⟩ = some (.bool ab) ∧ w'.cell? ⟨w.heap.size, 1, none⟩ = some (.slice ap an ac) ∧ w'.cell? ⟨w.heap.size, 2, none⟩ = some (.slice aq am ae) ∧ w'.cell? ⟨w2.heap.size, 0, none⟩ = some (.bool db) ∧ w'.cell? ⟨w2.heap.size, 1, none⟩ = some (.slice dp dn dc) ∧ w'.cell? ⟨w2.heap.size, 2, none⟩ = some (.slice dq dm de))
    (first | with_reducible exact ⟨(x0.drew).c0, (x0.drew).c1, (x0.drew).c2, (x3.drew).c0, (x3.drew).c1, (x3.drew).c2⟩ | with_reducible exact ⟨((x0.alloc _).drew).c0, ((x0.alloc _).drew).c1, ((x0.alloc _).drew).c2, ((x3.alloc _).drew).c0, ((x3.alloc _).drew).c1, ((x3.alloc _).drew).c2⟩ | with_reducible exact ⟨x0.c0, x0.c1, x0.c2, x3.c0, x3.c1, x3.c2⟩ | with_reducible exact ⟨(x0.alloc _).c0, (x0.alloc _).c1, (x0.alloc _).c2, (x3.alloc _).c0, (x3.alloc _).c1, (x3.alloc _).c2⟩ | with_reducible exact ⟨(x0.other3 (by omega) _ _ _).c0, (x0.other3 (by omega) _ _ _).c1, (x0.other3 (by omega) _ _ _).c2, (x3.other3 (by omega) _ _ _).c0, (x3.other3 (by omega) _ _ _).c1, (x3.other3 (by omega) _ _ _).c2⟩ | go_keep)
    (first
    | (go_at_call 54; clear sc0; refine (floor_any db dp dq dn dc dm de (mkT (R * Q) (S * P)) (mkB (R * Q) (S * P)) _ ?_ (mk_low hE1.out)).mono ?_; (first | with_reducible exact (D.drew) | with_reducible exact ((D.alloc _).drew)); rintro e u1 ⟨fb, fp, fn, fc, fq, fm, fe, rfl, F, hb⟩; have hc : Below u0.heap.size u0 u1 := (by first | exact (Below.refl _ _).drew.trans hb | exact ((Below.refl _ _).alloc (by first | exact Nat.le_refl _ | (simp; done) | (simp; omega)) _).drew.trans (hb.mono (by simp <;> omega))); have hz0 := hc.size; have x0 := x0.later hc; have x1 := x1.later hc; have x2 := x2.later hc; have x3 := x3.later hc; have A := A.below hc; have B := B.below hc; have D := D.below hc; have bb := below_then bb (Nat.le_refl _) hc; (first | (with_reducible have m10 := made13' hb) | skip); (try have k10 := m10.lt); clear hb hc; have sc1 := True.intro)
    | (go_at_call 65; clear sc1; refine (mul4_one ab ap aq an ac am ae P Q fb fp fq fn fc fm fe (modF P Q R S) _ ?_ lA'.out ?_ (low_floor (mk_low hE1.out))).mono ?_; (first | with_reducible exact A | with_reducible exact (A.alloc _)); (first | with_reducible exact F | with_reducible exact (F.alloc _)); rintro e u2 ⟨gb, gp, gn, gc, gq, gm, ge, rfl, G, hb⟩; have hc : Below u1.heap.size u1 u2 := (by first | with_reducible exact hb | exact ((Below.refl _ _).alloc (by first | exact Nat.le_refl _ | (simp; done) | (simp; omega)) _).trans (hb.mono (by simp <;> omega))); have hz1 := hc.size; have x0 := x0.later hc; have x1 := x1.later hc; have x2 := x2.later hc; have x3 := x3.later hc; have A := A.below hc; have B := B.below hc; have D := D.below hc; have F := F.below hc; have bb := below_then bb (Nat.le_refl _) hc; (try have m10 := m10.later hc); (first | (with_reducible have m20 := made13 hb) | skip); (try have k10 := m10.lt); (try have k20 := m20.lt); (try (have f100 := m10.c0; have f101 := m10.c1; have f102 := m10.fr 0; have f103 := m10.fr 1; have f104 := m10.c2; have f105 := m10.fr 2)); (try (have f200 := m20.c0; have f201 := m20.c1; have f202 := m20.fr 0; have f203 := m20.fr 1; have f204 := m20.c2; have f205 := m20.fr 2)); clear hb hc; have sc2 := True.intro))
   ·go_wp2_with fail; go_meet; exact ⟨_, gb, gp, gn, gc, gq, gm, ge, rfl, rfl, (Box3.new _ _ _ _ (by first | (simp; done) | rfl)), (x1.alloc _), (x2.alloc _), (B.alloc _), (G.alloc _), (Below.alloc bb (by first | omega | simp <;> omega) _), (by first | omega | (simp; omega))⟩
   ·go_wp2_with fail; go_meet; exact ⟨_, gb, gp, gn, gc, gq, gm, ge, rfl, rfl, (m20.set _ _ _), (x1.other3 (by omega) _ _ _), (x2.other3 (by omega) _ _ _), (B.box3 m20 _ _ _), (G.box3 m20 _ _ _), (below_set3 bb (by omega) _ _ _), (by first | omega | (simp; omega))⟩
   ·go_wp2_with fail; go_meet; exact ⟨_, gb, gp, gn, gc, gq, gm, ge, rfl, rfl, (m10.set _ _ _), (x1.other3 (by omega) _ _ _), (x2.other3 (by omega) _ _ _), (B.box3 m10 _ _ _), (G.box3 m10 _ _ _), (below_set3 bb (by omega) _ _ _), (by first | omega | (simp; omega))⟩
  case rest =>
   obtain ⟨Y, db, dp, dn, dc, dq, dm, de, rfl, rfl, y, x1, x2, B, D, bb, hY⟩ := hcut
   by_cases h2 : E2 = 0
   ·subst h2
    rw [hE2.out]
    have p0 := y.c0; have p1 := y.c1; have p2 := y.c2; have p3 := x1.c0; have p4 := x1.c1; have p5 := x1.c2
    have x2 := Lib.hid x2; have bb := Lib.hid bb; have B := Lib.hid B; have D := Lib.hid D
    clear y x1
    go_wp2_with fail
    refine (sub4_any cb cp cq cn cc cm ce R S db dp dq dn dc dm de (modT P Q R S) (modB P Q R S) _ B.out lB'.out D.out (mk_low hE2.out)).mono ?_
    rintro e w3 ⟨gb, gp, gn, gc, gq, gm, ge, rfl, hR, hb⟩
    have bb := below_then bb.out (Nat.le_refl _) hb
    have x2 := x2.out.later hb
    clear hb p0 p1 p2 p3 p4 p5 B D
    have q0 := x2.c0; have q1 := x2.c1; have q2 := x2.c2; have q3 := x2.fr 0; have q4 := x2.fr 1; have q5 := x2.fr 2
    have z := x2.set (.bool gb) (.slice gp gn gc) (.slice gq gm ge)
    have e0 := z.c0; have e1 := z.c1; have e2 := z.c2
    have x2' := Lib.hid x2; have bb' := Lib.hid bb; have hR' := Lib.hid hR
    clear z x2 bb hR 
    go_wp2_with fail
    refine bodyPost_ret (v := .tuple #[.agg #[.bool gb, .slice gp gn gc, .slice gq gm ge], .int .i64 (mkE (R * modB P Q R S + -modT P Q R S * S) (S * modB P Q R S))]) (by simp [results, Tryz.results66, go_sem, e0, e1, e2]) rfl ?_
    exact mod_ok hP'.out hE1.out hE2.out (ResPost.stored hR'.out x2'.out bb'.out (by omega))
   ·rw [hE2.out]
    have h2' := Lib.hid h2
    clear y x1 B D
    have q0 := x2.c0; have q1 := x2.c1; have q2 := x2.c2; have q3 := x2.fr 0; have q4 := x2.fr 1; have q5 := x2.fr 2
    have z := x2.set (.bool false) (.slice none 0 0) (.slice none 0 0)
    have e0 := z.c0; have e1 := z.c1; have e2 := z.c2
    have x2' := Lib.hid x2; have bb' := Lib.hid bb
    clear z x2 bb 
    go_wp2_with fail
    refine bodyPost_ret (v := .tuple #[.agg #[.bool false, .slice none 0 0, .slice none 0 0], .int .i64 (E2)]) (by simp [results, Tryz.results66, go_sem, e0, e1, e2]) rfl ?_
    exact mod_two hP'.out hE1.out hE2.out h2'.out (ResPost.stored (rt_zero _) x2'.out bb'.out (by omega))
 ·have h1' := Lib.hid h1
  refine ((div4_any cb cp cq cn cc cm ce R S ab ap aq an ac am ae P Q _ B.out lB'.out A.out lA'.out).mono fun _ _ => make_nz hE1.out h1'.out).mono ?_
  rintro e w2 ⟨db, dp, dn, dc, dq, dm, de, rfl, hD, hb⟩
  have bb := Lib.hid (below_then bb.out (Nat.le_refl _) hb)
  have x2 := Lib.hid (x2.out.later hb)
  clear hb hD A B x0 x1
  go_upto_region 4 with fail
  refine gen_wp (fun w' => Below w.heap.size w w' ∧ Box3 w' (w.heap.size + 2) (.bool false) (.slice none 0 0) (.slice none 0 0)) ⟨bb.out.alloc bb.out.size _, x2.out.alloc _⟩ ?_
  clear bb x2
  rintro u0 ⟨bb, x2⟩
  have q0 := x2.c0; have q1 := x2.c1; have q2 := x2.c2; have q3 := x2.fr 0; have q4 := x2.fr 1; have q5 := x2.fr 2
  have z := x2.set (.bool false) (.slice none 0 0) (.slice none 0 0)
  have e0 := z.c0; have e1 := z.c1; have e2 := z.c2
  have x2' := Lib.hid x2; have bb' := Lib.hid bb
  clear z x2 bb 
  go_wp2_with fail
  refine bodyPost_ret (v := .tuple #[.agg #[.bool false, .slice none 0 0, .slice none 0 0], .int .i64 (E1)]) (by simp [results, Tryz.results66, go_sem, e0, e1, e2]) rfl ?_
  exact mod_one hP'.out hE1.out h1'.out (ResPost.stored (rt_zero _) x2'.out bb'.out (by omega))
end Go.Proofs.YtaepelipkkmeaaaGreat
namespace Go.Proofs.YtaepelipkkmeaaaGreat
open Go.RowKit Num
attribute [local go_sem ↓] Go.wp_at_zero Go.wp_at_succ
theorem rWhole_any (b : Bool) (ao : Option Addr) (n nc : Nat) (x : Int) (w : World) (A : Whole w b ao n nc x) :
  Calls Tryz.prog 103 #[.agg #[.bool b, .slice ao n nc]] w (RatPost x 1 w) := by
 have A' := Lib.hid A
 clear A
 go_enter Tryz.func103, Tryz.ntmps103
 go_wp2_with fail
 refine gen_calls (fun w' => Below w.heap.size w w' ∧ Box w' w.heap.size (.bool b) (.slice ao n nc) ∧ Box3 w' (w.heap.size + 1) (.bool false) (.slice none 0 0) (.slice none 0 0))
  ⟨(((Below.refl _ _).alloc (Nat.le_refl _) _).alloc (by simp <;> omega) _), ((Box.new _ _ _ rfl).alloc _), (Box3.new _ _ _ _ (by simp <;> omega))⟩ ?_
 rintro w0 ⟨hb0, x0, x1⟩
 refine (rNorm_any b ao n nc x _ (A'.out.below hb0)).mono ?_
 rintro e w1 ⟨eb, eo, en, ec, rfl, h1, hb⟩
 have x1 := x1.later hb
 have bb := Lib.hid (below_then hb0 (Nat.le_refl _) hb)
 have h1' := Lib.hid h1; have x1' := Lib.hid x1
 clear x0 x1 h1 hb hb0
 go_upto_region 2 with fail
 refine gen_wp (fun w' => Below w.heap.size w w' ∧ Box3 w' (w.heap.size + 1) (.bool false) (.slice none 0 0) (.slice none 0 0) ∧ Box w' w1.heap.size (.bool eb) (.slice eo en ec) ∧ Right w' eb eo en ec x) ⟨bb.out.alloc bb.out.size _, x1'.out.alloc _, Box.new _ _ _ rfl, h1'.out.alloc _⟩ ?_
 clear bb x1' h1'
 rintro w2 ⟨bb, x1, y, h1⟩
 have p0 := y.c0; have p1 := y.c1; have lx := x1.lt
 have q0 := x1.c0; have q1 := x1.c1; have q2 := x1.c2; have q3 := x1.fr 0; have q4 := x1.fr 1; have q5 := x1.fr 2
 have e0 : ∀ o, ((((w2.setCell ⟨w.heap.size + 1, 0, none⟩ (.bool eb)).setCell ⟨w.heap.size + 1, 1, none⟩ (.slice eo en ec)).setCell ⟨w.heap.size + 1, 2, none⟩ (.slice (some ⟨w2.heap.size, 0, none⟩) 1 1)).alloc o).cell? ⟨w.heap.size + 1, 0, none⟩ = some (.bool eb) := fun o => ((x1.set _ _ _).alloc o).c0
 have e1 : ∀ o, ((((w2.setCell ⟨w.heap.size + 1, 0, none⟩ (.bool eb)).setCell ⟨w.heap.size + 1, 1, none⟩ (.slice eo en ec)).setCell ⟨w.heap.size + 1, 2, none⟩ (.slice (some ⟨w2.heap.size, 0, none⟩) 1 1)).alloc o).cell? ⟨w.heap.size + 1, 1, none⟩ = some (.slice eo en ec) := fun o => ((x1.set _ _ _).alloc o).c1
 have e2 : ∀ o, ((((w2.setCell ⟨w.heap.size + 1, 0, none⟩ (.bool eb)).setCell ⟨w.heap.size + 1, 1, none⟩ (.slice eo en ec)).setCell ⟨w.heap.size + 1, 2, none⟩ (.slice (some ⟨w2.heap.size, 0, none⟩) 1 1)).alloc o).cell? ⟨w.heap.size + 1, 2, none⟩ = some (.slice (some ⟨w2.heap.size, 0, none⟩) 1 1) := fun o => ((x1.set _ _ _).alloc o).c2
 have bb' := Lib.hid bb; have x1' := Lib.hid x1; have h1' := Lib.hid h1
 clear bb x1 h1 y
 go_wp2_with fail
 refine bodyPost_ret (v := .agg #[.bool eb, .slice eo en ec, .slice (some ⟨w2.heap.size, 0, none⟩) 1 1]) (by simp [results, Tryz.results103, go_sem, e0, e1, e2]) rfl ?_
 exact ⟨_, _, _, _, _, _, _, rfl, ⟨(h1'.out.box3 x1'.out _ _ _).alloc _, ⟨fun _ => 1, Nat.le_refl _, by omega, sl_one _ (by simp) rfl, ⟨fun _ _ => (by decide : 1 < 4294967296), .inr (by decide), rfl⟩, rfl⟩⟩, (below_set3 bb'.out (by omega) _ _ _).alloc (by have := bb'.out.size; simp; omega) _⟩
theorem of4_any (x : Int) (w : World) (h0 : -9223372036854775808 ≤ x) (h1 : x ≤ 9223372036854775807) :
  Calls Tryz.prog 47 #[.int .i64 x] w (RatPost x 1 w) := by
 have hx := Lib.hid (int_32 h0 h1)
 have k0 := Lib.hid h0; have k1 := Lib.hid h1
 clear h0 h1
 go_enter Tryz.func47, Tryz.ntmps47
 go_wp2_with fail
 refine gen_calls (fun w' => Below w.heap.size w w' ∧ Box3 w' w.heap.size (.bool false) (.slice none 0 0) (.slice none 0 0))
  ⟨((Below.refl _ _).alloc (Nat.le_refl _) _), (Box3.new _ _ _ _ rfl)⟩ ?_
 rintro w0 ⟨hb0, x0⟩
 refine (rOf_any x _ k0.out k1.out).mono ?_
 rintro e w1 ⟨eb, eo, en, ec, rfl, h1, hb⟩
 have x0 := x0.later hb; have bb := below_then hb0 (Nat.le_refl _) hb
 clear hb0 hb
 go_wp2_with fail
 refine (rWhole_any eb eo en ec x _ (h1.whole32 hx.out)).mono ?_
 rintro e w2 ⟨gb, gp, gn, gc, gq, gm, ge, rfl, hR, hb⟩
 have bb := Lib.hid (below_then bb (Nat.le_refl _) hb)
 have x0 := x0.later hb
 have x0' := Lib.hid x0; have hR' := Lib.hid hR
 have q0 := x0.c0; have q1 := x0.c1; have q2 := x0.c2; have q3 := x0.fr 0; have q4 := x0.fr 1; have q5 := x0.fr 2
 have z := x0.set (.bool gb) (.slice gp gn gc) (.slice gq gm ge)
 have e0 := z.c0; have e1 := z.c1; have e2 := z.c2
 clear x0 hb z hR
 go_wp2_with fail
 refine bodyPost_ret (v := .agg #[.bool gb, .slice gp gn gc, .slice gq gm ge]) (by simp [results, Tryz.results47, go_sem, e0, e1, e2]) rfl ?_
 exact RatPost.stored hR'.out x0'.out bb.out (by omega)
theorem Right.flip {w : World} {b : Bool} {ao : Option Addr} {n nc : Nat} {x : Int} (h : Right w b ao n nc x) (hx : x ≠ 0) : Right w (!b) ao n nc (-x) := by
 obtain ⟨f, h1, h2, h3, h4, rfl⟩ := h.ex
 refine ⟨f, h1, h2, h3, by rw [Int.natAbs_neg]; exact h4, ?_⟩
 rw [← decide_not, decide_eq_decide]
 omega
theorem Right.len_zero {w : World} {b : Bool} {ao : Option Addr} {n nc : Nat} {x : Int} (h : Right w b ao n nc x) : n = 0 ↔ x = 0 := by
 obtain ⟨f, _, _, _, h4, _⟩ := h.ex
 rw [h4.ne_zero]; omega
theorem neg4_any (ab : Bool) (ap aq : Option Addr) (an ac am ae : Nat) (P : Int) (Q : Nat) (w : World) (A : Rt w ab ap an ac aq am ae P Q) (lA : Low P Q) :
  Calls Tryz.prog 58 #[.agg #[.bool ab, .slice ap an ac, .slice aq am ae]] w (RatPost (-P) Q w) := by
 have l0 := A.top.len_zero
 by_cases h0 : an = 0
 ·obtain rfl := l0.1 h0
  obtain rfl := low_zero lA
  subst h0
  clear lA A l0
  go_enter Tryz.func58, Tryz.ntmps58
  go_wp2_with fail
  refine gen_calls (fun w' => Below w.heap.size w w' ∧ Box3 w' w.heap.size (.bool ab) (.slice ap 0 ac) (.slice aq am ae) ∧ Box3 w' (w.heap.size + 1) (.bool false) (.slice none 0 0) (.slice none 0 0))
   ⟨(((Below.refl _ _).alloc (Nat.le_refl _) _).alloc (by simp <;> omega) _), ((Box3.new _ _ _ _ rfl).alloc _), (Box3.new _ _ _ _ (by simp <;> omega))⟩ ?_
  rintro w0 ⟨hb0, x0, x1⟩
  refine (of4_any 0 _ (by decide) (by decide)).mono ?_
  rintro e w2 ⟨gb, gp, gn, gc, gq, gm, ge, rfl, hR, hb⟩
  have bb := hb0
  clear x0 hb0
  have bb := Lib.hid (below_then bb (Nat.le_refl _) hb)
  have x1 := x1.later hb
  have x1' := Lib.hid x1; have hR' := Lib.hid hR
  have q0 := x1.c0; have q1 := x1.c1; have q2 := x1.c2; have q3 := x1.fr 0; have q4 := x1.fr 1; have q5 := x1.fr 2
  have z := x1.set (.bool gb) (.slice gp gn gc) (.slice gq gm ge)
  have e0 := z.c0; have e1 := z.c1; have e2 := z.c2
  clear x1 hb z hR
  go_wp2_with fail
  refine bodyPost_ret (v := .agg #[.bool gb, .slice gp gn gc, .slice gq gm ge]) (by simp [results, Tryz.results58, go_sem, e0, e1, e2]) rfl ?_
  exact RatPost.stored hR'.out x1'.out bb.out (by omega)
 ·have hP : Hid (P ≠ 0) := Lib.hid (fun e => h0 (l0.2 e))
  have A' := Lib.hid A
  clear l0 lA A
  have hd : ((an : Int) == 0) = false := by rw [beq_eq_false_iff_ne]; omega
  go_enter Tryz.func58, Tryz.ntmps58
  go_upto_region 1 with fail
  refine gen_wp (fun w' => Below w.heap.size w w' ∧ Box3 w' w.heap.size (.bool ab) (.slice ap an ac) (.slice aq am ae) ∧ Box3 w' (w.heap.size + 1) (.bool false) (.slice none 0 0) (.slice none 0 0))
   ⟨(((Below.refl _ _).alloc (Nat.le_refl _) _).alloc (by simp <;> omega) _), ((Box3.new _ _ _ _ rfl).alloc _), (Box3.new _ _ _ _ (by simp <;> omega))⟩ ?_
  rintro w0 ⟨bb, x0, x1⟩
  have p0 := x0.c0; have p1 := x0.c1; have p2 := x0.c2
  have x1' := Lib.hid x1; have bb' := Lib.hid bb
  have q0 := x1.c0; have q1 := x1.c1; have q2 := x1.c2; have q3 := x1.fr 0; have q4 := x1.fr 1; have q5 := x1.fr 2
  have z := x1.set (.bool (!ab)) (.slice ap an ac) (.slice aq am ae)
  have e0 := z.c0; have e1 := z.c1; have e2 := z.c2
  clear x0 x1 bb z
  go_wp2_with fail
  refine bodyPost_ret (v := .agg #[.bool (!ab), .slice ap an ac, .slice aq am ae]) (by simp [results, Tryz.results58, go_sem, e0, e1, e2]) rfl ?_
  exact RatPost.stored (T := -P) (Q := Q) ⟨(A'.out.top.below bb'.out).flip hP.out, A'.out.bot.below bb'.out⟩ x1'.out bb'.out (by omega)
theorem rMul4_any (ab : Bool) (ap aq : Option Addr) (an ac am ae : Nat) (P : Int) (Q : Nat) (cb : Bool) (cp cq : Option Addr) (cn cc cm ce : Nat) (R : Int) (S : Nat) (w : World) (A : Rt w ab ap an ac aq am ae P Q) (lA : Low P Q) (B : Rt w cb cp cn cc cq cm ce R S) (lB : Low R S) :
  Calls Tryz.prog 73 #[.agg #[.bool ab, .slice ap an ac, .slice aq am ae], .agg #[.bool cb, .slice cp cn cc, .slice cq cm ce]] w (MakePost (P * R) ((Q : Int) * S) w) := by
 have lA' := Lib.hid lA; have lB' := Lib.hid lB
 have A' := Lib.hid A; have B' := Lib.hid B
 clear lA A lB B
 go_enter Tryz.func73, Tryz.ntmps73
 go_wp2_with fail
 refine gen_wp (fun w' => Below w.heap.size w w' ∧ Box3 w' w.heap.size (.bool ab) (.slice ap an ac) (.slice aq am ae) ∧ Box3 w' (w.heap.size + 1) (.bool cb) (.slice cp cn cc) (.slice cq cm ce) ∧ Box3 w' (w.heap.size + 2) (.bool false) (.slice none 0 0) (.slice none 0 0))
  ⟨((((Below.refl _ _).alloc (Nat.le_refl _) _).alloc (by simp <;> omega) _).alloc (by simp <;> omega) _), (((Box3.new _ _ _ _ rfl).alloc _).alloc _), ((Box3.new _ _ _ _ (by simp <;> omega)).alloc _), (Box3.new _ _ _ _ (by simp <;> omega))⟩ ?_
 rintro w0 ⟨bb, x0, x1, x2⟩
 have bb := bb.drew; have x0 := x0.drew; have x1 := x1.drew; have x2 := x2.drew
 have A := A'.out.below bb; have B := B'.out.below bb
 clear A' B'
 have sa0 := True.intro
 go_region_held3 (fun w' => w'.cell? ⟨w.heap.size, 0, none⟩ = some (.bool ab) ∧ w'.cell? ⟨w.heap.size, 1, none⟩ = some (.slice ap an ac) ∧ w'.cell? ⟨w.heap.size, 2, none⟩ = some (.slice aq am ae) ∧ w'.cell? ⟨(w.heap.size + 1), 0, none⟩ = some (.bool cb) ∧ w'.cell? ⟨(w.heap.size + 1), 1, none⟩ = some (.slice cp cn cc) ∧ w'.cell? ⟨(w.heap.size + 1), 2, none⟩ = some (.slice cq cm ce))
  (first | with_reducible exact ⟨x0.c0, x0.c1, x0.c2, x1.c0, x1.c1, x1.c2⟩ | with_reducible exact ⟨(x0.other3 (by omega) _ _ _).c0, (x0.other3 (by omega) _ _ _).c1, (x0.other3 (by omega) _ _ _).c2, (x1.other3 (by omega) _ _ _).c0, (x1.other3 (by omega) _ _ _).c1, (x1.other3 (by omega) _ _ _).c2⟩ | go_keep)
  (first
  | (go_at_call 41; clear sa0; refine (rTop_any ab ap aq an ac am ae P _ (A.upper lA'.out)).mono ?_; rintro e w' ⟨nb, no, nn, nc, rfl, n1, hb⟩; have bb := below_then bb (Nat.le_refl _) hb; have x0 := x0.later hb; have x1 := x1.later hb; have x2 := x2.later hb; have A := A.below hb; have B := B.below hb; clear hb; have sa1 := True.intro)
  | (go_at_call 41; clear sa1; refine (rTop_any cb cp cq cn cc cm ce R _ (B.upper lB'.out)).mono ?_; rintro e w' ⟨fb, fo, fn, fc, rfl, f1, hb⟩; have bb := below_then bb (Nat.le_refl _) hb; have x0 := x0.later hb; have x1 := x1.later hb; have x2 := x2.later hb; have A := A.below hb; have B := B.below hb; have n1 := n1.below hb; clear hb; have sa2 := True.intro)
  | (go_at_call 120; clear sa2; refine (rMul_any nb fb no fo nn nc fn fc P R _ (n1.whole32 lA'.out.abs_lt) (f1.whole32 lB'.out.abs_lt) 32 (by omega) lA'.out.abs_lt lB'.out.abs_lt).mono ?_; rintro e w' ⟨mb, mo, mn, mc, rfl, m1, hb⟩; have bb := below_then bb (Nat.le_refl _) hb; have x0 := x0.later hb; have x1 := x1.later hb; have x2 := x2.later hb; have A := A.below hb; have B := B.below hb; have n1 := n1.below hb; have f1 := f1.below hb; clear hb; have sa3 := True.intro)
  | (go_at_call 43; clear sa3; refine (rBot_any ab ap aq an ac am ae Q _ (A.lower lA'.out)).mono ?_; rintro e w' ⟨vb, vo, vn, vc, rfl, v1, hb⟩; have bb := below_then bb (Nat.le_refl _) hb; have x0 := x0.later hb; have x1 := x1.later hb; have x2 := x2.later hb; have A := A.below hb; have B := B.below hb; have n1 := n1.below hb; have f1 := f1.below hb; have m1 := m1.below hb; clear hb; have sa4 := True.intro)
  | (go_at_call 43; clear sa4; refine (rBot_any cb cp cq cn cc cm ce S _ (B.lower lB'.out)).mono ?_; rintro e w' ⟨jb, jo, jn, jc, rfl, j1, hb⟩; have bb := below_then bb (Nat.le_refl _) hb; have x0 := x0.later hb; have x1 := x1.later hb; have x2 := x2.later hb; have A := A.below hb; have B := B.below hb; have n1 := n1.below hb; have f1 := f1.below hb; have m1 := m1.below hb; have v1 := v1.below hb; clear hb; have sa5 := True.intro)
  | (go_at_call 120; clear sa5; refine (rMul_any vb jb vo jo vn vc jn jc Q S _ (v1.whole32 lA'.out.bot_lt) (j1.whole32 lB'.out.bot_lt) 32 (by omega) lA'.out.bot_lt lB'.out.bot_lt).mono ?_; rintro e w' ⟨kb, ko, kn, kc, rfl, k1, hb⟩; have bb := below_then bb (Nat.le_refl _) hb; have x0 := x0.later hb; have x1 := x1.later hb; have x2 := x2.later hb; have A := A.below hb; have B := B.below hb; have n1 := n1.below hb; have f1 := f1.below hb; have m1 := m1.below hb; have v1 := v1.below hb; have j1 := j1.below hb; clear hb; have sa6 := True.intro)
  | (go_at_call 42; clear sa6; refine (rMake_any mb kb mo ko mn mc kn kc (P * R) ((Q : Int) * S) _ (m1.whole (mul_32 lA'.out.abs_lt lB'.out.abs_lt) (by omega)) (k1.whole (mul_32 lA'.out.bot_lt lB'.out.bot_lt) (by omega)) 64 (by omega) (mul_32 lA'.out.abs_lt lB'.out.abs_lt) (mul_32 lA'.out.bot_lt lB'.out.bot_lt)).mono ?_; rintro e w' ⟨gb, gp, gn, gc, gq, gm, ge, rfl, hR, hb⟩; have bb := below_then bb (Nat.le_refl _) hb; have x0 := x0.later hb; have x1 := x1.later hb; have x2 := x2.later hb; have A := A.below hb; have B := B.below hb; have n1 := n1.below hb; have f1 := f1.below hb; have m1 := m1.below hb; have v1 := v1.below hb; have j1 := j1.below hb; have k1 := k1.below hb; clear hb; have q0 := x2.c0; have q1 := x2.c1; have q2 := x2.c2; have q3 := x2.fr 0; have q4 := x2.fr 1; have q5 := x2.fr 2; have sa7 := True.intro))
 have z := x2.set (.bool gb) (.slice gp gn gc) (.slice gq gm ge)
 have e0 := z.c0; have e1 := z.c1; have e2 := z.c2
 have x2' := Lib.hid x2; have bb' := Lib.hid bb; have hR' := Lib.hid hR
 clear z x2 bb x0 x1 A B hR f1 j1 k1 m1 n1 v1
 go_wp2_with fail
 refine bodyPost_ret (v := .tuple #[.agg #[.bool gb, .slice gp gn gc, .slice gq gm ge], .int .i64 (mkE (P * R) ((Q : Int) * S))]) (by simp [results, Tryz.results73, go_sem, e0, e1, e2]) rfl ?_
 exact ResPost.stored hR'.out x2'.out bb'.out (by omega)
theorem rDiv4_any (ab : Bool) (ap aq : Option Addr) (an ac am ae : Nat) (P : Int) (Q : Nat) (cb : Bool) (cp cq : Option Addr) (cn cc cm ce : Nat) (R : Int) (S : Nat) (w : World) (A : Rt w ab ap an ac aq am ae P Q) (lA : Low P Q) (B : Rt w cb cp cn cc cq cm ce R S) (lB : Low R S) :
  Calls Tryz.prog 60 #[.agg #[.bool ab, .slice ap an ac, .slice aq am ae], .agg #[.bool cb, .slice cp cn cc, .slice cq cm ce]] w (MakePost (P * S) ((Q : Int) * R) w) := by
 have lA' := Lib.hid lA; have lB' := Lib.hid lB
 have A' := Lib.hid A; have B' := Lib.hid B
 clear lA A lB B
 go_enter Tryz.func60, Tryz.ntmps60
 go_wp2_with fail
 refine gen_wp (fun w' => Below w.heap.size w w' ∧ Box3 w' w.heap.size (.bool ab) (.slice ap an ac) (.slice aq am ae) ∧ Box3 w' (w.heap.size + 1) (.bool cb) (.slice cp cn cc) (.slice cq cm ce) ∧ Box3 w' (w.heap.size + 2) (.bool false) (.slice none 0 0) (.slice none 0 0))
  ⟨((((Below.refl _ _).alloc (Nat.le_refl _) _).alloc (by simp <;> omega) _).alloc (by simp <;> omega) _), (((Box3.new _ _ _ _ rfl).alloc _).alloc _), ((Box3.new _ _ _ _ (by simp <;> omega)).alloc _), (Box3.new _ _ _ _ (by simp <;> omega))⟩ ?_
 rintro w0 ⟨bb, x0, x1, x2⟩
 have bb := bb.drew; have x0 := x0.drew; have x1 := x1.drew; have x2 := x2.drew
 have A := A'.out.below bb; have B := B'.out.below bb
 clear A' B'
 have sb0 := True.intro
 go_region_held3 (fun w' => w'.cell? ⟨w.heap.size, 0, none⟩ = some (.bool ab) ∧ w'.cell? ⟨w.heap.size, 1, none⟩ = some (.slice ap an ac) ∧ w'.cell? ⟨w.heap.size, 2, none⟩ = some (.slice aq am ae) ∧ w'.cell? ⟨(w.heap.size + 1), 0, none⟩ = some (.bool cb) ∧ w'.cell? ⟨(w.heap.size + 1), 1, none⟩ = some (.slice cp cn cc) ∧ w'.cell? ⟨(w.heap.size + 1), 2, none⟩ = some (.slice cq cm ce))
  (first | with_reducible exact ⟨x0.c0, x0.c1, x0.c2, x1.c0, x1.c1, x1.c2⟩ | with_reducible exact ⟨(x0.other3 (by omega) _ _ _).c0, (x0.other3 (by omega) _ _ _).c1, (x0.other3 (by omega) _ _ _).c2, (x1.other3 (by omega) _ _ _).c0, (x1.other3 (by omega) _ _ _).c1, (x1.other3 (by omega) _ _ _).c2⟩ | go_keep)
  (first
  | (go_at_call 41; clear sb0; refine (rTop_any ab ap aq an ac am ae P _ (A.upper lA'.out)).mono ?_; rintro e w' ⟨nb, no, nn, nc, rfl, n1, hb⟩; have bb := below_then bb (Nat.le_refl _) hb; have x0 := x0.later hb; have x1 := x1.later hb; have x2 := x2.later hb; have A := A.below hb; have B := B.below hb; clear hb; have sb1 := True.intro)
  | (go_at_call 43; clear sb1; refine (rBot_any cb cp cq cn cc cm ce S _ (B.lower lB'.out)).mono ?_; rintro e w' ⟨fb, fo, fn, fc, rfl, f1, hb⟩; have bb := below_then bb (Nat.le_refl _) hb; have x0 := x0.later hb; have x1 := x1.later hb; have x2 := x2.later hb; have A := A.below hb; have B := B.below hb; have n1 := n1.below hb; clear hb; have sb2 := True.intro)
  | (go_at_call 120; clear sb2; refine (rMul_any nb fb no fo nn nc fn fc P S _ (n1.whole32 lA'.out.abs_lt) (f1.whole32 lB'.out.bot_lt) 32 (by omega) lA'.out.abs_lt lB'.out.bot_lt).mono ?_; rintro e w' ⟨mb, mo, mn, mc, rfl, m1, hb⟩; have bb := below_then bb (Nat.le_refl _) hb; have x0 := x0.later hb; have x1 := x1.later hb; have x2 := x2.later hb; have A := A.below hb; have B := B.below hb; have n1 := n1.below hb; have f1 := f1.below hb; clear hb; have sb3 := True.intro)
  | (go_at_call 43; clear sb3; refine (rBot_any ab ap aq an ac am ae Q _ (A.lower lA'.out)).mono ?_; rintro e w' ⟨vb, vo, vn, vc, rfl, v1, hb⟩; have bb := below_then bb (Nat.le_refl _) hb; have x0 := x0.later hb; have x1 := x1.later hb; have x2 := x2.later hb; have A := A.below hb; have B := B.below hb; have n1 := n1.below hb; have f1 := f1.below hb; have m1 := m1.below hb; clear hb; have sb4 := True.intro)
  | (go_at_call 41; clear sb4; refine (rTop_any cb cp cq cn cc cm ce R _ (B.upper lB'.out)).mono ?_; rintro e w' ⟨jb, jo, jn, jc, rfl, j1, hb⟩; have bb := below_then bb (Nat.le_refl _) hb; have x0 := x0.later hb; have x1 := x1.later hb; have x2 := x2.later hb; have A := A.below hb; have B := B.below hb; have n1 := n1.below hb; have f1 := f1.below hb; have m1 := m1.below hb; have v1 := v1.below hb; clear hb; have sb5 := True.intro)
  | (go_at_call 120; clear sb5; refine (rMul_any vb jb vo jo vn vc jn jc Q R _ (v1.whole32 lA'.out.bot_lt) (j1.whole32 lB'.out.abs_lt) 32 (by omega) lA'.out.bot_lt lB'.out.abs_lt).mono ?_; rintro e w' ⟨kb, ko, kn, kc, rfl, k1, hb⟩; have bb := below_then bb (Nat.le_refl _) hb; have x0 := x0.later hb; have x1 := x1.later hb; have x2 := x2.later hb; have A := A.below hb; have B := B.below hb; have n1 := n1.below hb; have f1 := f1.below hb; have m1 := m1.below hb; have v1 := v1.below hb; have j1 := j1.below hb; clear hb; have sb6 := True.intro)
  | (go_at_call 42; clear sb6; refine (rMake_any mb kb mo ko mn mc kn kc (P * S) ((Q : Int) * R) _ (m1.whole (mul_32 lA'.out.abs_lt lB'.out.bot_lt) (by omega)) (k1.whole (mul_32 lA'.out.bot_lt lB'.out.abs_lt) (by omega)) 64 (by omega) (mul_32 lA'.out.abs_lt lB'.out.bot_lt) (mul_32 lA'.out.bot_lt lB'.out.abs_lt)).mono ?_; rintro e w' ⟨gb, gp, gn, gc, gq, gm, ge, rfl, hR, hb⟩; have bb := below_then bb (Nat.le_refl _) hb; have x0 := x0.later hb; have x1 := x1.later hb; have x2 := x2.later hb; have A := A.below hb; have B := B.below hb; have n1 := n1.below hb; have f1 := f1.below hb; have m1 := m1.below hb; have v1 := v1.below hb; have j1 := j1.below hb; have k1 := k1.below hb; clear hb; have q0 := x2.c0; have q1 := x2.c1; have q2 := x2.c2; have q3 := x2.fr 0; have q4 := x2.fr 1; have q5 := x2.fr 2; have sb7 := True.intro))
 have z := x2.set (.bool gb) (.slice gp gn gc) (.slice gq gm ge)
 have e0 := z.c0; have e1 := z.c1; have e2 := z.c2
 have x2' := Lib.hid x2; have bb' := Lib.hid bb; have hR' := Lib.hid hR
 clear z x2 bb x0 x1 A B hR f1 j1 k1 m1 n1 v1
 go_wp2_with fail
 refine bodyPost_ret (v := .tuple #[.agg #[.bool gb, .slice gp gn gc, .slice gq gm ge], .int .i64 (mkE (P * S) ((Q : Int) * R))]) (by simp [results, Tryz.results60, go_sem, e0, e1, e2]) rfl ?_
 exact ResPost.stored hR'.out x2'.out bb'.out (by omega)
theorem grow_65 {x : Int} (h : x.natAbs < pw 64) : x.natAbs < pw 65 := Nat.lt_of_lt_of_le h (pw_le (by omega))
theorem rAdd4_any (ab : Bool) (ap aq : Option Addr) (an ac am ae : Nat) (P : Int) (Q : Nat) (cb : Bool) (cp cq : Option Addr) (cn cc cm ce : Nat) (R : Int) (S : Nat) (w : World) (A : Rt w ab ap an ac aq am ae P Q) (lA : Low P Q) (B : Rt w cb cp cn cc cq cm ce R S) (lB : Low R S) :
  Calls Tryz.prog 71 #[.agg #[.bool ab, .slice ap an ac, .slice aq am ae], .agg #[.bool cb, .slice cp cn cc, .slice cq cm ce]] w (MakePost (P * S + R * Q) ((Q : Int) * S) w) := by
 have lA' := Lib.hid lA; have lB' := Lib.hid lB
 have A' := Lib.hid A; have B' := Lib.hid B
 clear lA A lB B
 go_enter Tryz.func71, Tryz.ntmps71
 go_wp2_with fail
 refine gen_wp (fun w' => Below w.heap.size w w' ∧ Box3 w' w.heap.size (.bool ab) (.slice ap an ac) (.slice aq am ae) ∧ Box3 w' (w.heap.size + 1) (.bool cb) (.slice cp cn cc) (.slice cq cm ce) ∧ Box3 w' (w.heap.size + 2) (.bool false) (.slice none 0 0) (.slice none 0 0))
  ⟨((((Below.refl _ _).alloc (Nat.le_refl _) _).alloc (by simp <;> omega) _).alloc (by simp <;> omega) _), (((Box3.new _ _ _ _ rfl).alloc _).alloc _), ((Box3.new _ _ _ _ (by simp <;> omega)).alloc _), (Box3.new _ _ _ _ (by simp <;> omega))⟩ ?_
 rintro w0 ⟨bb, x0, x1, x2⟩
 have bb := bb.drew; have x0 := x0.drew; have x1 := x1.drew; have x2 := x2.drew
 have A := A'.out.below bb; have B := B'.out.below bb
 clear A' B'
 have sc0 := True.intro
 go_region_held3 (fun w' => w'.cell? ⟨w.heap.size, 0, none⟩ = some (.bool ab) ∧ w'.cell? ⟨w.heap.size, 1, none⟩ = some (.slice ap an ac) ∧ w'.cell? ⟨w.heap.size, 2, none⟩ = some (.slice aq am ae) ∧ w'.cell? ⟨(w.heap.size + 1), 0, none⟩ = some (.bool cb) ∧ w'.cell? ⟨(w.heap.size + 1), 1, none⟩ = some (.slice cp cn cc) ∧ w'.cell? ⟨(w.heap.size + 1), 2, none⟩ = some (.slice cq cm ce))
  (first | with_reducible exact ⟨x0.c0, x0.c1, x0.c2, x1.c0, x1.c1, x1.c2⟩ | with_reducible exact ⟨(x0.other3 (by omega) _ _ _).c0, (x0.other3 (by omega) _ _ _).c1, (x0.other3 (by omega) _ _ _).c2, (x1.other3 (by omega) _ _ _).c0, (x1.other3 (by omega) _ _ _).c1, (x1.other3 (by omega) _ _ _).c2⟩ | go_keep)
  (first
  | (go_at_call 41; clear sc0; refine (rTop_any ab ap aq an ac am ae P _ (A.upper lA'.out)).mono ?_; rintro e w' ⟨nb, no, nn, nc, rfl, n1, hb⟩; have bb := below_then bb (Nat.le_refl _) hb; have x0 := x0.later hb; have x1 := x1.later hb; have x2 := x2.later hb; have A := A.below hb; have B := B.below hb; clear hb; have sc1 := True.intro)
  | (go_at_call 43; clear sc1; refine (rBot_any cb cp cq cn cc cm ce S _ (B.lower lB'.out)).mono ?_; rintro e w' ⟨fb, fo, fn, fc, rfl, f1, hb⟩; have bb := below_then bb (Nat.le_refl _) hb; have x0 := x0.later hb; have x1 := x1.later hb; have x2 := x2.later hb; have A := A.below hb; have B := B.below hb; have n1 := n1.below hb; clear hb; have sc2 := True.intro)
  | (go_at_call 120; clear sc2; refine (rMul_any nb fb no fo nn nc fn fc P S _ (n1.whole32 lA'.out.abs_lt) (f1.whole32 lB'.out.bot_lt) 32 (by omega) lA'.out.abs_lt lB'.out.bot_lt).mono ?_; rintro e w' ⟨mb, mo, mn, mc, rfl, m1, hb⟩; have bb := below_then bb (Nat.le_refl _) hb; have x0 := x0.later hb; have x1 := x1.later hb; have x2 := x2.later hb; have A := A.below hb; have B := B.below hb; have n1 := n1.below hb; have f1 := f1.below hb; clear hb; have sc3 := True.intro)
  | (go_at_call 41; clear sc3; refine (rTop_any cb cp cq cn cc cm ce R _ (B.upper lB'.out)).mono ?_; rintro e w' ⟨vb, vo, vn, vc, rfl, v1, hb⟩; have bb := below_then bb (Nat.le_refl _) hb; have x0 := x0.later hb; have x1 := x1.later hb; have x2 := x2.later hb; have A := A.below hb; have B := B.below hb; have n1 := n1.below hb; have f1 := f1.below hb; have m1 := m1.below hb; clear hb; have sc4 := True.intro)
  | (go_at_call 43; clear sc4; refine (rBot_any ab ap aq an ac am ae Q _ (A.lower lA'.out)).mono ?_; rintro e w' ⟨jb, jo, jn, jc, rfl, j1, hb⟩; have bb := below_then bb (Nat.le_refl _) hb; have x0 := x0.later hb; have x1 := x1.later hb; have x2 := x2.later hb; have A := A.below hb; have B := B.below hb; have n1 := n1.below hb; have f1 := f1.below hb; have m1 := m1.below hb; have v1 := v1.below hb; clear hb; have sc5 := True.intro)
  | (go_at_call 120; clear sc5; refine (rMul_any vb jb vo jo vn vc jn jc R Q _ (v1.whole32 lB'.out.abs_lt) (j1.whole32 lA'.out.bot_lt) 32 (by omega) lB'.out.abs_lt lA'.out.bot_lt).mono ?_; rintro e w' ⟨kb, ko, kn, kc, rfl, k1, hb⟩; have bb := below_then bb (Nat.le_refl _) hb; have x0 := x0.later hb; have x1 := x1.later hb; have x2 := x2.later hb; have A := A.below hb; have B := B.below hb; have n1 := n1.below hb; have f1 := f1.below hb; have m1 := m1.below hb; have v1 := v1.below hb; have j1 := j1.below hb; clear hb; have sc6 := True.intro)
  | (go_at_call 128; clear sc6; refine (rAdd_any mb kb mo ko mn mc kn kc (P * S) (R * Q) _ (m1.whole (mul_32 lA'.out.abs_lt lB'.out.bot_lt) (by omega)) (k1.whole (mul_32 lB'.out.abs_lt lA'.out.bot_lt) (by omega)) 64 (by omega) (mul_32 lA'.out.abs_lt lB'.out.bot_lt) (mul_32 lB'.out.abs_lt lA'.out.bot_lt)).mono ?_; rintro e w' ⟨lb, lo, ln, lc, rfl, l1, hb⟩; have bb := below_then bb (Nat.le_refl _) hb; have x0 := x0.later hb; have x1 := x1.later hb; have x2 := x2.later hb; have A := A.below hb; have B := B.below hb; have n1 := n1.below hb; have f1 := f1.below hb; have m1 := m1.below hb; have v1 := v1.below hb; have j1 := j1.below hb; have k1 := k1.below hb; clear hb; have sc7 := True.intro)
  | (go_at_call 43; clear sc7; refine (rBot_any ab ap aq an ac am ae Q _ (A.lower lA'.out)).mono ?_; rintro e w' ⟨rb, ro, rn, rc, rfl, r1, hb⟩; have bb := below_then bb (Nat.le_refl _) hb; have x0 := x0.later hb; have x1 := x1.later hb; have x2 := x2.later hb; have A := A.below hb; have B := B.below hb; have n1 := n1.below hb; have f1 := f1.below hb; have m1 := m1.below hb; have v1 := v1.below hb; have j1 := j1.below hb; have k1 := k1.below hb; have l1 := l1.below hb; clear hb; have sc8 := True.intro)
  | (go_at_call 43; clear sc8; refine (rBot_any cb cp cq cn cc cm ce S _ (B.lower lB'.out)).mono ?_; rintro e w' ⟨sb, so, sn, sc, rfl, s1, hb⟩; have bb := below_then bb (Nat.le_refl _) hb; have x0 := x0.later hb; have x1 := x1.later hb; have x2 := x2.later hb; have A := A.below hb; have B := B.below hb; have n1 := n1.below hb; have f1 := f1.below hb; have m1 := m1.below hb; have v1 := v1.below hb; have j1 := j1.below hb; have k1 := k1.below hb; have l1 := l1.below hb; have r1 := r1.below hb; clear hb; have sc9 := True.intro)
  | (go_at_call 120; clear sc9; refine (rMul_any rb sb ro so rn rc sn sc Q S _ (r1.whole32 lA'.out.bot_lt) (s1.whole32 lB'.out.bot_lt) 32 (by omega) lA'.out.bot_lt lB'.out.bot_lt).mono ?_; rintro e w' ⟨tb, to_, tn, tc, rfl, t1, hb⟩; have bb := below_then bb (Nat.le_refl _) hb; have x0 := x0.later hb; have x1 := x1.later hb; have x2 := x2.later hb; have A := A.below hb; have B := B.below hb; have n1 := n1.below hb; have f1 := f1.below hb; have m1 := m1.below hb; have v1 := v1.below hb; have j1 := j1.below hb; have k1 := k1.below hb; have l1 := l1.below hb; have r1 := r1.below hb; have s1 := s1.below hb; clear hb; have sc10 := True.intro)
  | (go_at_call 42; clear sc10; refine (rMake_any lb tb lo to_ ln lc tn tc (P * S + R * Q) ((Q : Int) * S) _ (l1.whole (sum_64 (mul_32 lA'.out.abs_lt lB'.out.bot_lt) (mul_32 lB'.out.abs_lt lA'.out.bot_lt)) (by omega)) (t1.whole (mul_32 lA'.out.bot_lt lB'.out.bot_lt) (by omega)) 65 (by omega) (sum_64 (mul_32 lA'.out.abs_lt lB'.out.bot_lt) (mul_32 lB'.out.abs_lt lA'.out.bot_lt)) (grow_65 (mul_32 lA'.out.bot_lt lB'.out.bot_lt))).mono ?_; rintro e w' ⟨gb, gp, gn, gc, gq, gm, ge, rfl, hR, hb⟩; have bb := below_then bb (Nat.le_refl _) hb; have x0 := x0.later hb; have x1 := x1.later hb; have x2 := x2.later hb; have A := A.below hb; have B := B.below hb; have n1 := n1.below hb; have f1 := f1.below hb; have m1 := m1.below hb; have v1 := v1.below hb; have j1 := j1.below hb; have k1 := k1.below hb; have l1 := l1.below hb; have r1 := r1.below hb; have s1 := s1.below hb; have t1 := t1.below hb; clear hb; have q0 := x2.c0; have q1 := x2.c1; have q2 := x2.c2; have q3 := x2.fr 0; have q4 := x2.fr 1; have q5 := x2.fr 2; have sc11 := True.intro))
 have z := x2.set (.bool gb) (.slice gp gn gc) (.slice gq gm ge)
 have e0 := z.c0; have e1 := z.c1; have e2 := z.c2
 have x2' := Lib.hid x2; have bb' := Lib.hid bb; have hR' := Lib.hid hR
 clear z x2 bb x0 x1 A B hR f1 j1 k1 l1 m1 n1 r1 s1 t1 v1
 go_wp2_with fail
 refine bodyPost_ret (v := .tuple #[.agg #[.bool gb, .slice gp gn gc, .slice gq gm ge], .int .i64 (mkE (P * S + R * Q) ((Q : Int) * S))]) (by simp [results, Tryz.results71, go_sem, e0, e1, e2]) rfl ?_
 exact ResPost.stored hR'.out x2'.out bb'.out (by omega)
theorem rSub4_any (ab : Bool) (ap aq : Option Addr) (an ac am ae : Nat) (P : Int) (Q : Nat) (cb : Bool) (cp cq : Option Addr) (cn cc cm ce : Nat) (R : Int) (S : Nat) (w : World) (A : Rt w ab ap an ac aq am ae P Q) (lA : Low P Q) (B : Rt w cb cp cn cc cq cm ce R S) (lB : Low R S) :
  Calls Tryz.prog 72 #[.agg #[.bool ab, .slice ap an ac, .slice aq am ae], .agg #[.bool cb, .slice cp cn cc, .slice cq cm ce]] w (MakePost (P * S + -R * Q) ((Q : Int) * S) w) := by
 have lA' := Lib.hid lA; have lB' := Lib.hid lB
 have A' := Lib.hid A; have B' := Lib.hid B
 clear lA A lB B
 go_enter Tryz.func72, Tryz.ntmps72
 go_wp2_with fail
 refine gen_wp (fun w' => Below w.heap.size w w' ∧ Box3 w' w.heap.size (.bool ab) (.slice ap an ac) (.slice aq am ae) ∧ Box3 w' (w.heap.size + 1) (.bool cb) (.slice cp cn cc) (.slice cq cm ce) ∧ Box3 w' (w.heap.size + 2) (.bool false) (.slice none 0 0) (.slice none 0 0))
  ⟨((((Below.refl _ _).alloc (Nat.le_refl _) _).alloc (by simp <;> omega) _).alloc (by simp <;> omega) _), (((Box3.new _ _ _ _ rfl).alloc _).alloc _), ((Box3.new _ _ _ _ (by simp <;> omega)).alloc _), (Box3.new _ _ _ _ (by simp <;> omega))⟩ ?_
 rintro w0 ⟨bb, x0, x1, x2⟩
 have bb := bb.drew; have x0 := x0.drew; have x1 := x1.drew; have x2 := x2.drew
 have A := A'.out.below bb; have B := B'.out.below bb
 clear A' B'
 have sd0 := True.intro
 go_region_held3 (fun w' => w'.cell? ⟨w.heap.size, 0, none⟩ = some (.bool ab) ∧ w'.cell? ⟨w.heap.size, 1, none⟩ = some (.slice ap an ac) ∧ w'.cell? ⟨w.heap.size, 2, none⟩ = some (.slice aq am ae) ∧ w'.cell? ⟨(w.heap.size + 1), 0, none⟩ = some (.bool cb) ∧ w'.cell? ⟨(w.heap.size + 1), 1, none⟩ = some (.slice cp cn cc) ∧ w'.cell? ⟨(w.heap.size + 1), 2, none⟩ = some (.slice cq cm ce))
  (first | with_reducible exact ⟨x0.c0, x0.c1, x0.c2, x1.c0, x1.c1, x1.c2⟩ | with_reducible exact ⟨(x0.other3 (by omega) _ _ _).c0, (x0.other3 (by omega) _ _ _).c1, (x0.other3 (by omega) _ _ _).c2, (x1.other3 (by omega) _ _ _).c0, (x1.other3 (by omega) _ _ _).c1, (x1.other3 (by omega) _ _ _).c2⟩ | go_keep)
  (first
  | (go_at_call 58; clear sd0; refine (neg4_any cb cp cq cn cc cm ce R S _ B lB'.out).mono ?_; rintro e w' ⟨db, dp, dn, dc, dq, dm, de, rfl, N, hb⟩; have bb := below_then bb (Nat.le_refl _) hb; have x0 := x0.later hb; have x1 := x1.later hb; have x2 := x2.later hb; have A := A.below hb; have B := B.below hb; clear hb; have sd1 := True.intro)
  | (go_at_call 71; clear sd1; refine (rAdd4_any ab ap aq an ac am ae P Q db dp dq dn dc dm de (-R) S _ A lA'.out N lB'.out.neg).mono ?_; rintro e w' ⟨gb, gp, gn, gc, gq, gm, ge, rfl, hR, hb⟩; have bb := below_then bb (Nat.le_refl _) hb; have x0 := x0.later hb; have x1 := x1.later hb; have x2 := x2.later hb; have A := A.below hb; have B := B.below hb; have N := N.below hb; clear hb; have q0 := x2.c0; have q1 := x2.c1; have q2 := x2.c2; have q3 := x2.fr 0; have q4 := x2.fr 1; have q5 := x2.fr 2; have sd2 := True.intro))
 have z := x2.set (.bool gb) (.slice gp gn gc) (.slice gq gm ge)
 have e0 := z.c0; have e1 := z.c1; have e2 := z.c2
 have x2' := Lib.hid x2; have bb' := Lib.hid bb; have hR' := Lib.hid hR
 clear z x2 bb x0 x1 A B hR N
 go_wp2_with fail
 refine bodyPost_ret (v := .tuple #[.agg #[.bool gb, .slice gp gn gc, .slice gq gm ge], .int .i64 (mkE (P * S + -R * Q) ((Q : Int) * S))]) (by simp [results, Tryz.results72, go_sem, e0, e1, e2]) rfl ?_
 exact ResPost.stored hR'.out x2'.out bb'.out (by omega)
theorem cmp_diff (x y : Int) : (x - y).sign = cmpI x y := by
 unfold cmpI
 rcases Int.lt_trichotomy x y with h | h | h
 ·rw [Int.sign_eq_neg_one_of_neg (by omega)]; simp [h] <;> omega
 ·rw [h, Int.sub_self]; simp
 ·rw [Int.sign_eq_one_of_pos (by omega)]; simp [Int.not_lt.2 (Int.le_of_lt h)] <;> omega
theorem rCmp4_any (ab : Bool) (ap aq : Option Addr) (an ac am ae : Nat) (P : Int) (Q : Nat) (cb : Bool) (cp cq : Option Addr) (cn cc cm ce : Nat) (R : Int) (S : Nat) (w : World) (A : Rt w ab ap an ac aq am ae P Q) (lA : Low P Q) (B : Rt w cb cp cn cc cq cm ce R S) (lB : Low R S) :
  Calls Tryz.prog 59 #[.agg #[.bool ab, .slice ap an ac, .slice aq am ae], .agg #[.bool cb, .slice cp cn cc, .slice cq cm ce]] w (Says (.int .i64 (cmpI (P * S) (R * Q))) w) := by
 have lA' := Lib.hid lA; have lB' := Lib.hid lB
 have A' := Lib.hid A; have B' := Lib.hid B
 clear lA A lB B
 go_enter Tryz.func59, Tryz.ntmps59
 go_wp2_with fail
 refine gen_wp (fun w' => Below w.heap.size w w' ∧ Box3 w' w.heap.size (.bool ab) (.slice ap an ac) (.slice aq am ae) ∧ Box3 w' (w.heap.size + 1) (.bool cb) (.slice cp cn cc) (.slice cq cm ce))
  ⟨(((Below.refl _ _).alloc (Nat.le_refl _) _).alloc (by simp <;> omega) _), ((Box3.new _ _ _ _ rfl).alloc _), (Box3.new _ _ _ _ (by simp <;> omega))⟩ ?_
 rintro w0 ⟨bb, x0, x1⟩
 have bb := bb.drew; have x0 := x0.drew; have x1 := x1.drew
 have A := A'.out.below bb; have B := B'.out.below bb
 clear A' B'
 have se0 := True.intro
 go_region_held3 (fun w' => w'.cell? ⟨w.heap.size, 0, none⟩ = some (.bool ab) ∧ w'.cell? ⟨w.heap.size, 1, none⟩ = some (.slice ap an ac) ∧ w'.cell? ⟨w.heap.size, 2, none⟩ = some (.slice aq am ae) ∧ w'.cell? ⟨(w.heap.size + 1), 0, none⟩ = some (.bool cb) ∧ w'.cell? ⟨(w.heap.size + 1), 1, none⟩ = some (.slice cp cn cc) ∧ w'.cell? ⟨(w.heap.size + 1), 2, none⟩ = some (.slice cq cm ce))
  (first | with_reducible exact ⟨x0.c0, x0.c1, x0.c2, x1.c0, x1.c1, x1.c2⟩ | go_keep)
  (first
  | (go_at_call 41; clear se0; refine (rTop_any ab ap aq an ac am ae P _ (A.upper lA'.out)).mono ?_; rintro e w' ⟨nb, no, nn, nc, rfl, n1, hb⟩; have bb := below_then bb (Nat.le_refl _) hb; have x0 := x0.later hb; have x1 := x1.later hb; have A := A.below hb; have B := B.below hb; clear hb; have se1 := True.intro)
  | (go_at_call 43; clear se1; refine (rBot_any cb cp cq cn cc cm ce S _ (B.lower lB'.out)).mono ?_; rintro e w' ⟨fb, fo, fn, fc, rfl, f1, hb⟩; have bb := below_then bb (Nat.le_refl _) hb; have x0 := x0.later hb; have x1 := x1.later hb; have A := A.below hb; have B := B.below hb; have n1 := n1.below hb; clear hb; have se2 := True.intro)
  | (go_at_call 120; clear se2; refine (rMul_any nb fb no fo nn nc fn fc P S _ (n1.whole32 lA'.out.abs_lt) (f1.whole32 lB'.out.bot_lt) 32 (by omega) lA'.out.abs_lt lB'.out.bot_lt).mono ?_; rintro e w' ⟨mb, mo, mn, mc, rfl, m1, hb⟩; have bb := below_then bb (Nat.le_refl _) hb; have x0 := x0.later hb; have x1 := x1.later hb; have A := A.below hb; have B := B.below hb; have n1 := n1.below hb; have f1 := f1.below hb; clear hb; have se3 := True.intro)
  | (go_at_call 41; clear se3; refine (rTop_any cb cp cq cn cc cm ce R _ (B.upper lB'.out)).mono ?_; rintro e w' ⟨vb, vo, vn, vc, rfl, v1, hb⟩; have bb := below_then bb (Nat.le_refl _) hb; have x0 := x0.later hb; have x1 := x1.later hb; have A := A.below hb; have B := B.below hb; have n1 := n1.below hb; have f1 := f1.below hb; have m1 := m1.below hb; clear hb; have se4 := True.intro)
  | (go_at_call 43; clear se4; refine (rBot_any ab ap aq an ac am ae Q _ (A.lower lA'.out)).mono ?_; rintro e w' ⟨jb, jo, jn, jc, rfl, j1, hb⟩; have bb := below_then bb (Nat.le_refl _) hb; have x0 := x0.later hb; have x1 := x1.later hb; have A := A.below hb; have B := B.below hb; have n1 := n1.below hb; have f1 := f1.below hb; have m1 := m1.below hb; have v1 := v1.below hb; clear hb; have se5 := True.intro)
  | (go_at_call 120; clear se5; refine (rMul_any vb jb vo jo vn vc jn jc R Q _ (v1.whole32 lB'.out.abs_lt) (j1.whole32 lA'.out.bot_lt) 32 (by omega) lB'.out.abs_lt lA'.out.bot_lt).mono ?_; rintro e w' ⟨kb, ko, kn, kc, rfl, k1, hb⟩; have bb := below_then bb (Nat.le_refl _) hb; have x0 := x0.later hb; have x1 := x1.later hb; have A := A.below hb; have B := B.below hb; have n1 := n1.below hb; have f1 := f1.below hb; have m1 := m1.below hb; have v1 := v1.below hb; have j1 := j1.below hb; clear hb; have se6 := True.intro)
  | (go_at_call 119; clear se6; refine (rSub_any mb kb mo ko mn mc kn kc (P * S) (R * Q) _ (m1.whole (mul_32 lA'.out.abs_lt lB'.out.bot_lt) (by omega)) (k1.whole (mul_32 lB'.out.abs_lt lA'.out.bot_lt) (by omega)) 64 (by omega) (mul_32 lA'.out.abs_lt lB'.out.bot_lt) (mul_32 lB'.out.abs_lt lA'.out.bot_lt)).mono ?_; rintro e w' ⟨lb, lo, ln, lc, rfl, l1, hb⟩; have bb := below_then bb (Nat.le_refl _) hb; have x0 := x0.later hb; have x1 := x1.later hb; have A := A.below hb; have B := B.below hb; have n1 := n1.below hb; have f1 := f1.below hb; have m1 := m1.below hb; have v1 := v1.below hb; have j1 := j1.below hb; have k1 := k1.below hb; clear hb; have se7 := True.intro)
  | (go_at_call 118; clear se7; refine (rSign_any lb lo ln lc (P * S - R * Q) _ (l1.whole (sub_abs (mul_32 lA'.out.abs_lt lB'.out.bot_lt) (mul_32 lB'.out.abs_lt lA'.out.bot_lt)) (by omega))).mono ?_; rintro e w' ⟨rfl, hb⟩; have bb := below_then bb (Nat.le_refl _) hb; have x0 := x0.later hb; have x1 := x1.later hb; have A := A.below hb; have B := B.below hb; have n1 := n1.below hb; have f1 := f1.below hb; have m1 := m1.below hb; have v1 := v1.below hb; have j1 := j1.below hb; have k1 := k1.below hb; have l1 := l1.below hb; clear hb; have se8 := True.intro))
 have bb' := Lib.hid bb
 clear bb x0 x1 A B
 rw [cmp_diff]
 go_wp2_with fail
 go_ret
 exact ⟨rfl, bb'.out⟩
end Go.Proofs.YtaepelipkkmeaaaGreat
namespace Go.Proofs.YtaepelipkkmeaaaGreat
open Go.RowKit Num
attribute [local go_sem ↓] Go.wp_at_zero Go.wp_at_succ
structure In (w : World) (ao : Option Addr) (n nc : Nat) (f : Nat → Nat) : Prop where
 len : n ≤ nc
 cap : nc ≤ 9223372036854775807
 sl : Sl w ao n f
 lim : Lim f n
theorem In.arg {w : World} {ao : Option Addr} {n nc : Nat} {f : Nat → Nat} (h : In w ao n nc f) (hn : n ≤ 32) : Arg w ao n nc f := ⟨h.len, h.cap, by omega, h.sl, h.lim⟩
theorem right4_long (ab : Bool) (ap aq : Option Addr) (an ac am ae : Nat) (w : World) (h : 32 < an ∨ 32 < am) :
  Calls Tryz.prog 14 #[.agg #[.bool ab, .slice ap an ac, .slice aq am ae]] w (RightPost ab ap an ac aq am ae w) := by
 by_cases ht : 32 < an
 ·have hd : decide ((32 : Int) < (an : Int)) = true := by rw [decide_eq_true_iff]; omega
  have ht' := Lib.hid ht
  clear ht h
  go_enter Tryz.func14, Tryz.ntmps14
  go_wp2_with fail
  go_ret
  exact ⟨false, rfl, (fun h => by cases h), fun P Q l R => absurd (R.top.le_len l.abs_lt) (Nat.not_le.2 ht'.out), (Below.refl _ _).alloc (Nat.le_refl _) _⟩
 have hd : decide ((32 : Int) < (an : Int)) = false := by rw [decide_eq_false_iff_not]; omega
 have hu' : Hid (32 < am) := Lib.hid (h.resolve_left ht)
 have hd2 : decide ((32 : Int) < (am : Int)) = true := by have := hu'.out; rw [decide_eq_true_iff]; omega
 clear ht h
 go_enter Tryz.func14, Tryz.ntmps14
 go_wp2_with fail
 go_ret
 exact ⟨false, rfl, (fun h => by cases h), fun P Q l R => absurd (R.bot.le_len l.bot_lt) (Nat.not_le.2 hu'.out), (Below.refl _ _).alloc (Nat.le_refl _) _⟩
theorem right4_in (ab : Bool) (ap aq : Option Addr) (an ac am ae : Nat) (f g : Nat → Nat) (w : World) (A : In w ap an ac f) (B : In w aq am ae g) :
  Calls Tryz.prog 14 #[.agg #[.bool ab, .slice ap an ac, .slice aq am ae]] w (RightPost ab ap an ac aq am ae w) := by
 by_cases h : 32 < an ∨ 32 < am
 ·exact right4_long ab ap aq an ac am ae w h
 ·exact right4_any ab ap aq an ac am ae f g w (A.arg (by omega)) (B.arg (by omega))
theorem make_is {p q : Int} {P : Int} {Q : Nat} {w w' : World} {e : Ending} (a : Low P Q) (hq : q ≠ 0) (h : p * Q = P * q) (k : MakePost p q w e w') : ResPost P Q 0 w e w' := by
 obtain ⟨h1, h2, h3⟩ := mk_of_low a hq h
 have k : ResPost (mkT p q) (mkB p q) (mkE p q) w e w' := k
 rwa [h1, h2, h3] at k
end Go.Proofs.YtaepelipkkmeaaaGreat
namespace Go.Proofs.YtaepelipkkmeaaaGreat
open Go.RowKit Num
theorem eqB_any (ao bo : Option Addr) (n nc m mc : Nat) (f g : Nat → Nat) (w : World) (hn : n ≤ 9223372036854775807) (hf : Sl w ao n f) (hg : Sl w bo m g) :
  Calls Tryz.prog 158 #[.slice ao n nc, .slice bo m mc] w (SameBPost n m f g w) := by
 by_cases hnm : n = m
 ·subst hnm
  go_enter Tryz.func158, Tryz.ntmps158
  go_wp2_with fail
  go_loopw [13] (fun i wr => ∃ j : Nat, j ≤ n ∧ i = .int .i64 j ∧ Hid (∀ i, i < j → f i = g i) ∧ ∃ q, wr = w.drewN q) (fun i _ => n - (intOf i).toNat)
  case atStart => exact ⟨0, Nat.zero_le _, rfl, Lib.hid (fun i hi => absurd hi (Nat.not_lt_zero _)), 0, rfl⟩
  case round =>
   obtain ⟨j, hj, rfl, heq, q, rfl⟩ := hrel
   by_cases hlt : j < n
   ·rcases hf with h | ⟨b, off, rfl, hc⟩
    ·omega
    rcases hg with h | ⟨b', off', rfl, hc'⟩
    ·omega
    have c1 := hc j hlt
    have c2 := hc' j hlt
    clear hc hc'
    by_cases he : f j = g j
    ·rw [← he] at c2
     have heq' : Hid (∀ i, i < j + 1 → f i = g i) := Lib.hid (fun i hi => by
      by_cases hij : i < j
      ·exact heq.out i hij
      ·have : i = j := by omega
       subst this; exact he)
     clear he heq
     go_wp2_with fail
     go_quiet (fail)
     go_wp2_with fail
     go_roundw
     case rel => exact ⟨j + 1, by omega, by go_num, heq', _, rfl⟩
     case measure => simp [intOf]; omega
    ·have he' : ((f j : Int) == (g j : Int)) = false := by rw [beq_eq_false_iff_ne]; omega
     have hid := Lib.hid he
     have hlt' := Lib.hid hlt
     go_wp2_with fail
     go_quiet (fail)
     go_wp2_with fail
     go_ret
     exact ⟨false, rfl, ⟨(fun h => by cases h), fun h => absurd (h.2 j hlt'.out) hid.out⟩, below_drewN (below_drewN (Below.refl _ _) _) _⟩
   ·have : j = n := by omega
    subst this
    go_wp2_with fail
    go_ret
    exact ⟨true, rfl, ⟨fun _ => ⟨rfl, heq.out⟩, fun _ => rfl⟩, below_drewN (Below.refl _ _) _⟩
 ·have hd : ((n : Int) == (m : Int)) = false := by rw [beq_eq_false_iff_ne]; omega
  have hnm' := Lib.hid hnm
  clear hf hg
  go_enter Tryz.func158, Tryz.ntmps158
  go_wp2_with fail
  go_ret
  exact ⟨false, rfl, ⟨(fun h => by cases h), fun h => absurd h.1 hnm'.out⟩, Below.refl _ _⟩
attribute [local go_sem ↓] Go.wp_at_zero Go.wp_at_succ
theorem one_or {w : World} {b : Bool} {ao : Option Addr} {n nc Q : Nat} (h : Right w b ao n nc (Q : Int)) : ∃ f, n ≤ nc ∧ nc ≤ 9223372036854775807 ∧ Sl w ao n f ∧ Lim f n ∧ ((Q = 1 ∧ n = 1 ∧ f 0 = 1) ∨ (Q ≠ 1 ∧ (n = 1 → f 0 ≠ 1))) := by
 obtain ⟨f, h1, h2, h3, h4, _⟩ := h.ex
 rw [Int.natAbs_natCast] at h4
 refine ⟨f, h1, h2, h3, h4.lim, ?_⟩
 have c1 : Canon 1 1 (fun _ => 1) := ⟨fun _ _ => (by decide : 1 < 4294967296), .inr (by decide), rfl⟩
 by_cases hQ : Q = 1
 ·subst hQ
  have e := h4.len c1
  exact .inl ⟨rfl, e, by have := h4.eq c1 0 (by omega); exact this⟩
 ·refine .inr ⟨hQ, fun e h0 => hQ ?_⟩
  have := h4.val
  rw [e] at this
  simpa [val, pw, h0] using this.symm
def IntOfPost (P : Int) (Q : Nat) (w : World) (e : Ending) (w' : World) : Prop :=
 ∃ b ao n nc, e = .returned (.tuple #[.agg #[.bool b, .slice ao n nc], .bool (decide (Q = 1))]) ∧ Right w' b ao n nc (if Q = 1 then P else 0) ∧ Below w.heap.size w w'
theorem int_any (ab : Bool) (ap aq : Option Addr) (an ac am ae : Nat) (P : Int) (Q : Nat) (w : World) (A : Rt w ab ap an ac aq am ae P Q) (lA : Low P Q) :
  Calls Tryz.prog 117 #[.agg #[.bool ab, .slice ap an ac, .slice aq am ae]] w (IntOfPost P Q w) := by
 obtain ⟨h, h1, h2, h3, h4, h5⟩ := one_or A.bot
 have lA' := Lib.hid lA
 have A' := Lib.hid A
 replace h3 := Lib.hid h3; replace h4 := Lib.hid h4; replace h5 := Lib.hid h5
 clear lA A
 go_enter Tryz.func117, Tryz.ntmps117
 go_upto_region 1 with fail
 refine gen_wp (fun w' => Below w.heap.size w w' ∧ Box3 w' w.heap.size (.bool ab) (.slice ap an ac) (.slice aq am ae) ∧ Box w' (w.heap.size + 1) (.bool false) (.slice none 0 0))
  ⟨(((Below.refl _ _).alloc (Nat.le_refl _) _).alloc (by simp <;> omega) _), ((Box3.new _ _ _ _ rfl).alloc _), (Box.new _ _ _ (by simp <;> omega))⟩ ?_
 rintro w0 ⟨bb, x0, x1⟩
 have p0 := x0.c2
 replace x0 := Lib.hid x0; replace x1 := Lib.hid x1; replace bb := Lib.hid bb
 go_wp2_with fail
 refine gen_calls (fun w' => Below w.heap.size w w' ∧ Box3 w' w.heap.size (.bool ab) (.slice ap an ac) (.slice aq am ae) ∧ Box w' (w.heap.size + 1) (.bool false) (.slice none 0 0) ∧ Sl w' (some ⟨w0.heap.size, 0, none⟩) 1 (fun _ => 1)) ⟨bb.out.alloc bb.out.size _, x0.out.alloc _, x1.out.alloc _, sl_new1 w0 _ _ _ rfl⟩ ?_
 clear bb x0 x1 p0
 rintro w1 ⟨bb, x0, x1, hs⟩
 refine (eqB_any aq (some ⟨w0.heap.size, 0, none⟩) am ae 1 1 h (fun _ => 1) _ (by omega) (h3.out.below bb) hs).mono ?_
 rintro e w2 ⟨r, rfl, hr, hb⟩
 replace hr := Lib.hid hr
 replace x0 := x0.later hb; replace x1 := Lib.hid (x1.later hb); replace bb := Lib.hid (below_then bb (Nat.le_refl _) hb)
 clear hb hs h1 h2
 rcases h5.out with ⟨hQ, he, hz⟩ | ⟨hQ, hz⟩
 ·have : r = true := hr.out.2 ⟨he, fun j hj => (by have hj0 : j = 0 := (by omega); subst hj0; exact hz)⟩
  subst this hQ
  clear he hz hr h5
  have p0 := x0.c0; have p1 := x0.c1; have p2 := x0.c2
  clear x0
  go_wp2_with fail
  refine (upper_any ab ap aq an ac am ae _).mono ?_
  rintro e w3 ⟨rfl, hb⟩
  replace x1 := Lib.hid (x1.out.later hb); replace bb := Lib.hid (below_then bb.out (Nat.le_refl _) hb)
  clear hb p0 p1 p2
  go_wp2_with fail
  refine (wNorm_any ab ap an ac P _ ((A'.out.below bb.out).upper lA'.out)).mono ?_
  rintro e w4 ⟨eb, eo, en, ec, rfl, hR, hb⟩
  replace x1 := x1.out.later hb; replace bb := Lib.hid (below_then bb.out (Nat.le_refl _) hb)
  replace hR := Lib.hid hR
  have x1' := Lib.hid x1
  have q0 := x1.c0; have q1 := x1.c1; have q2 := x1.fr 0; have q3 := x1.fr 1
  have z := x1.set (.bool eb) (.slice eo en ec)
  have e0 := z.c0; have e1 := z.c1
  clear x1 hb z
  go_wp2_with fail
  refine bodyPost_ret (v := .tuple #[.agg #[.bool eb, .slice eo en ec], .bool true]) (by simp [results, Tryz.results117, go_sem, e0, e1]) rfl ?_
  exact ⟨eb, eo, en, ec, by simp, by rw [if_pos rfl]; exact hR.out.box x1'.out _ _, below_set bb.out (by omega) _ _⟩
 ·have : r = false := by
   cases r
   ·rfl
   ·exact absurd ((hr.out.1 rfl).2 0 (by have := (hr.out.1 rfl).1; omega)) (hz (hr.out.1 rfl).1)
  subst this
  have hQ' := Lib.hid hQ
  clear hQ hz hr h5 x0
  replace x1 := x1.out
  have x1' := Lib.hid x1
  have q0 := x1.c0; have q1 := x1.c1; have q2 := x1.fr 0; have q3 := x1.fr 1
  have z := x1.set (.bool false) (.slice none 0 0)
  have e0 := z.c0; have e1 := z.c1
  clear x1 z
  go_wp2_with fail
  refine bodyPost_ret (v := .tuple #[.agg #[.bool false, .slice none 0 0], .bool false]) (by simp [results, Tryz.results117, go_sem, e0, e1]) rfl ?_
  exact ⟨false, none, 0, 0, by simp [hQ'.out], by rw [if_neg hQ'.out]; exact (zero_right _).box x1'.out _ _, below_set bb.out (by omega) _ _⟩
theorem isWhole_any (ab : Bool) (ap aq : Option Addr) (an ac am ae : Nat) (P : Int) (Q : Nat) (w : World) (A : Rt w ab ap an ac aq am ae P Q) :
  Calls Tryz.prog 39 #[.agg #[.bool ab, .slice ap an ac, .slice aq am ae]] w (Says (.bool (decide (Q = 1))) w) := by
 obtain ⟨h, h1, h2, h3, h4, h5⟩ := one_or A.bot
 clear A
 rcases h5 with ⟨hQ, rfl, hz⟩ | ⟨hQ, hz⟩
 ·subst hQ
  rcases h3 with h | ⟨b, off, rfl, hc⟩
  ·omega
  have c1 := hc 0 (by omega)
  rw [Nat.add_zero] at c1
  rw [hz] at c1
  have hl := World.block_lt_of_cell? w _ c1
  have hne : ∀ o : Obj, (w.alloc o).cell? ⟨b, off, none⟩ = some (.int .u32 ((1 : Nat) : Int)) := fun o => (((Below.refl _ w).alloc (Nat.le_refl _) o).cell hl).trans c1
  clear hc hz h4 h1 h2
  go_enter Tryz.func39, Tryz.ntmps39
  go_wp2_with fail
  go_ret
  exact ⟨by simp, (Below.refl _ w).alloc (Nat.le_refl _) _⟩
 ·by_cases h0 : am = 1
  ·subst h0
   rcases h3 with h | ⟨b, off, rfl, hc⟩
   ·omega
   have c1 := hc 0 (by omega)
   rw [Nat.add_zero] at c1
   have hz' : ((h 0 : Int) == 1) = false := by rw [beq_eq_false_iff_ne]; have := hz rfl; omega
   have hl := World.block_lt_of_cell? w _ c1
   have hne : ∀ o : Obj, (w.alloc o).cell? ⟨b, off, none⟩ = some (.int .u32 (h 0)) := fun o => (((Below.refl _ w).alloc (Nat.le_refl _) o).cell hl).trans c1
   have hQ' := Lib.hid hQ
   clear hc hz h4 h1 h2 hQ
   go_enter Tryz.func39, Tryz.ntmps39
   go_wp2_with fail
   go_ret
   exact ⟨by simp [hQ'.out], (Below.refl _ w).alloc (Nat.le_refl _) _⟩
  ·have hd : ((am : Int) == 1) = false := by rw [beq_eq_false_iff_ne]; omega
   have hQ' := Lib.hid hQ
   clear hz h3 h4 h1 h2 hQ h0
   go_enter Tryz.func39, Tryz.ntmps39
   go_wp2_with fail
   go_ret
   exact ⟨by simp [hQ'.out], (Below.refl _ w).alloc (Nat.le_refl _) _⟩
end Go.Proofs.YtaepelipkkmeaaaGreat
namespace Go.Proofs.YtaepelipkkmeaaaGreat
open Go.RowKit Num
attribute [local go_sem ↓] Go.wp_at_zero Go.wp_at_succ
def gcdRes (P : Int) (Q : Nat) (R : Int) (S : Nat) : Int × Nat × Int := if Q = 1 ∧ S = 1 then ((Nat.gcd P.natAbs R.natAbs : Int), 1, 0) else (0, 0, 3)
def GcdPost (P : Int) (Q : Nat) (R : Int) (S : Nat) := ResPost (gcdRes P Q R S).1 (gcdRes P Q R S).2.1 (gcdRes P Q R S).2.2
theorem gcd_yes {P R : Int} {Q S : Nat} {w w' : World} {e : Ending} (h : Q = 1 ∧ S = 1) : GcdPost P Q R S w e w' ↔ ResPost (Nat.gcd P.natAbs R.natAbs) 1 0 w e w' := by
 unfold GcdPost gcdRes; rw [if_pos h]
theorem gcd_no {P R : Int} {Q S : Nat} {w w' : World} {e : Ending} (h : ¬ (Q = 1 ∧ S = 1)) : GcdPost P Q R S w e w' ↔ ResPost 0 0 3 w e w' := by
 unfold GcdPost gcdRes; rw [if_neg h]
theorem gcd_32 {P R : Int} (hP : P.natAbs < pw 32) (hR : R.natAbs < pw 32) : ((Nat.gcd P.natAbs R.natAbs : Nat) : Int).natAbs < pw 32 := by
 rw [Int.natAbs_natCast]
 by_cases h : P.natAbs = 0
 ·rw [h, Nat.gcd_zero_left]; exact hR
 ·exact Nat.lt_of_le_of_lt (Nat.gcd_le_left _ (Nat.pos_of_ne_zero h)) hP
theorem gcd_whole {w : World} {b c : Bool} {ao bo : Option Addr} {n nc m mc : Nat} {x y : Int} (h : Whole w b ao n nc x) (k : Whole w c bo m mc y) : ∃ f g, Arg w ao n nc f ∧ Arg w bo m mc g ∧ val f n = x.natAbs ∧ val g m = y.natAbs := by
 obtain ⟨f, A, e⟩ := whole_abs h
 obtain ⟨g, B, d⟩ := whole_abs k
 exact ⟨f, g, A, B, e, d⟩
theorem nat_whole {w : World} {ao : Option Addr} {n nc v : Nat} {f : Nat → Nat} (h1 : n ≤ nc) (h2 : nc ≤ 9223372036854775807) (h3 : Sl w ao n f) (h4 : Canon v n f) (hv : (v : Int).natAbs < pw 32) : Whole w false ao n nc (v : Int) := by
 rw [Int.natAbs_natCast] at hv
 exact ⟨f, ⟨h1, h2, Nat.le_trans (h4.len_le hv) (by omega), h3, h4.lim⟩, by rw [h4.val]; rfl⟩
theorem gcd4_any (ab : Bool) (ap aq : Option Addr) (an ac am ae : Nat) (P : Int) (Q : Nat)  (cb : Bool) (cp cq : Option Addr) (cn cc cm ce : Nat) (R : Int) (S : Nat) (w : World) (Ra : Rt w ab ap an ac aq am ae P Q) (la : Low P Q) (Rb : Rt w cb cp cn cc cq cm ce R S) (lb : Low R S) :
  Calls Tryz.prog 69 #[.agg #[.bool ab, .slice ap an ac, .slice aq am ae], .agg #[.bool cb, .slice cp cn cc, .slice cq cm ce]] w (GcdPost P Q R S w) := by
 replace Ra := Lib.hid Ra; replace la := Lib.hid la; replace Rb := Lib.hid Rb; replace lb := Lib.hid lb
 go_enter Tryz.func69, Tryz.ntmps69
 go_upto_region 1 with fail
 refine gen_wp (fun w' => Below w.heap.size w w' ∧ Box3 w' w.heap.size (.bool ab) (.slice ap an ac) (.slice aq am ae) ∧ Box3 w' (w.heap.size + 1) (.bool cb) (.slice cp cn cc) (.slice cq cm ce) ∧ Box3 w' (w.heap.size + 2) (.bool false) (.slice none 0 0) (.slice none 0 0))
  ⟨((((Below.refl _ _).alloc (Nat.le_refl _) _).alloc (by simp <;> omega) _).alloc (by simp <;> omega) _), (((Box3.new _ _ _ _ rfl).alloc _).alloc _), ((Box3.new _ _ _ _ (by simp <;> omega)).alloc _), (Box3.new _ _ _ _ (by simp <;> omega))⟩ ?_
 rintro w0 ⟨bb, Xa, Xb, X2⟩
 replace Ra := Ra.out.below bb; replace Rb := Rb.out.below bb
 replace bb := Lib.hid bb; replace Xa := Lib.hid Xa; replace Xb := Lib.hid Xb; replace X2 := Lib.hid X2; replace Ra := Lib.hid Ra; replace Rb := Lib.hid Rb
 have p00 := Xa.out.c0; have p01 := Xa.out.c1; have p02 := Xa.out.c2
 go_wp2_with fail
 clear p00 p01 p02
 refine (int_any ab ap aq an ac am ae P Q _ Ra.out la.out).mono ?_
 rintro e v1 ⟨db, dp, dn, dc, rfl, D, hb⟩
 replace bb := Lib.hid (below_then bb.out (Nat.le_refl _) hb); replace Xa := Lib.hid (Xa.out.later hb); replace Xb := Lib.hid (Xb.out.later hb); replace X2 := Lib.hid (X2.out.later hb); replace Ra := Lib.hid (Ra.out.below hb); replace Rb := Lib.hid (Rb.out.below hb)
 replace D := Lib.hid D
 clear hb
 go_upto_region 2 with fail
 refine gen_wp (fun w' => Below w.heap.size w w' ∧ Box3 w' w.heap.size (.bool ab) (.slice ap an ac) (.slice aq am ae) ∧ Box3 w' (w.heap.size + 1) (.bool cb) (.slice cp cn cc) (.slice cq cm ce) ∧ Box3 w' (w.heap.size + 2) (.bool false) (.slice none 0 0) (.slice none 0 0) ∧ Box w' v1.heap.size (.bool db) (.slice dp dn dc) ∧ Rt w' ab ap an ac aq am ae P Q ∧ Rt w' cb cp cn cc cq cm ce R S ∧ Right w' db dp dn dc (if Q = 1 then P else 0))
  ⟨bb.out.alloc bb.out.size _, Xa.out.alloc _, Xb.out.alloc _, X2.out.alloc _, Box.new _ _ _ rfl, Ra.out.alloc _, Rb.out.alloc _, D.out.alloc _⟩ ?_
 clear bb Xa Xb X2 Ra Rb D
 rintro x1 ⟨bb, Xa, Xb, X2, Xd, Ra, Rb, D⟩
 replace bb := Lib.hid bb; replace Xa := Lib.hid Xa; replace Xb := Lib.hid Xb; replace X2 := Lib.hid X2; replace Xd := Lib.hid Xd; replace Ra := Lib.hid Ra; replace Rb := Lib.hid Rb; replace D := Lib.hid D
 have p00 := Xb.out.c0; have p01 := Xb.out.c1; have p02 := Xb.out.c2
 go_wp2_with fail
 clear p00 p01 p02
 refine (int_any cb cp cq cn cc cm ce R S _ Rb.out lb.out).mono ?_
 rintro e v2 ⟨eb, ep, en, ec, rfl, E, hb⟩
 replace bb := Lib.hid (below_then bb.out (Nat.le_refl _) hb); replace Xa := Lib.hid (Xa.out.later hb); replace Xb := Lib.hid (Xb.out.later hb); replace X2 := Lib.hid (X2.out.later hb); replace Xd := Lib.hid (Xd.out.later hb); replace Ra := Lib.hid (Ra.out.below hb); replace Rb := Lib.hid (Rb.out.below hb); replace D := Lib.hid (D.out.below hb)
 replace E := Lib.hid E
 clear hb
 go_upto_region 3 with fail
 refine gen_wp (fun w' => Below w.heap.size w w' ∧ Box3 w' w.heap.size (.bool ab) (.slice ap an ac) (.slice aq am ae) ∧ Box3 w' (w.heap.size + 1) (.bool cb) (.slice cp cn cc) (.slice cq cm ce) ∧ Box3 w' (w.heap.size + 2) (.bool false) (.slice none 0 0) (.slice none 0 0) ∧ Box w' v1.heap.size (.bool db) (.slice dp dn dc) ∧ Box w' v2.heap.size (.bool eb) (.slice ep en ec) ∧ Rt w' ab ap an ac aq am ae P Q ∧ Rt w' cb cp cn cc cq cm ce R S ∧ Right w' db dp dn dc (if Q = 1 then P else 0) ∧ Right w' eb ep en ec (if S = 1 then R else 0))
  ⟨bb.out.alloc bb.out.size _, Xa.out.alloc _, Xb.out.alloc _, X2.out.alloc _, Xd.out.alloc _, Box.new _ _ _ rfl, Ra.out.alloc _, Rb.out.alloc _, D.out.alloc _, E.out.alloc _⟩ ?_
 clear bb Xa Xb X2 Xd Ra Rb D E
 rintro x2 ⟨bb, Xa, Xb, X2, Xd, Xe, Ra, Rb, D, E⟩
 replace bb := Lib.hid bb; replace Xa := Lib.hid Xa; replace Xb := Lib.hid Xb; replace X2 := Lib.hid X2; replace Xd := Lib.hid Xd; replace Xe := Lib.hid Xe; replace Ra := Lib.hid Ra; replace Rb := Lib.hid Rb; replace D := Lib.hid D; replace E := Lib.hid E
 by_cases hQ : Q = 1
 ·subst hQ
  by_cases hS : S = 1
  ·subst hS
   rw [if_pos rfl] at D E
   have pd := Xd.out.c1; have pe := Xe.out.c1
   go_wp2_with fail
   clear pd pe
   obtain ⟨f, g, hf, hg, vf, vg⟩ := gcd_whole (D.out.whole32 la.out.abs_lt) (E.out.whole32 lb.out.abs_lt)
   replace vf := Lib.hid vf; replace vg := Lib.hid vg
   refine (gcd_any dp ep dn dc en ec f g _ hf hg).mono ?_
   rw [vf.out, vg.out]
   clear hf hg
   rintro e v9 ⟨go, gn, gc, gf, rfl, k1, k2, k3, k4, hb⟩
   have G := Lib.hid (nat_whole k1 k2 k3 k4 (gcd_32 la.out.abs_lt lb.out.abs_lt))
   clear k1 k2 k3 k4
   replace bb := Lib.hid (below_then bb.out (Nat.le_refl _) hb); replace Xa := Lib.hid (Xa.out.later hb); replace Xb := Lib.hid (Xb.out.later hb); replace X2 := Lib.hid (X2.out.later hb); replace Xd := Lib.hid (Xd.out.later hb); replace Xe := Lib.hid (Xe.out.later hb); replace Ra := Lib.hid (Ra.out.below hb); replace Rb := Lib.hid (Rb.out.below hb); replace D := Lib.hid (D.out.below hb); replace E := Lib.hid (E.out.below hb)
   clear hb D E Ra Rb Xa Xb Xd Xe
   go_wp2_with fail
   refine (whole_any false go gn gc _ _ G.out (gcd_32 la.out.abs_lt lb.out.abs_lt)).mono ?_
   rintro e v10 ⟨zb, zp, zn, zc, zq, zm, ze, rfl, N, hb⟩
   replace N := Lib.hid N
   replace bb := Lib.hid (below_then bb.out (Nat.le_refl _) hb); replace X2 := Lib.hid (X2.out.later hb)
   clear hb G
   replace X2 := X2.out
   replace bb := bb.out
   have q0 := X2.c0; have q1 := X2.c1; have q2 := X2.c2; have q3 := X2.fr 0; have q4 := X2.fr 1; have q5 := X2.fr 2
   have zz := X2.set (.bool zb) (.slice zp zn zc) (.slice zq zm ze)
   have e0 := zz.c0; have e1 := zz.c1; have e2 := zz.c2
   have Y2 := Lib.hid X2; have bb' := Lib.hid bb
   clear zz X2 bb
   go_wp2_with fail
   refine bodyPost_ret (v := .tuple #[.agg #[.bool zb, .slice zp zn zc, .slice zq zm ze], .int .i64 (0)]) (by simp [results, Tryz.results69, go_sem, e0, e1, e2]) rfl ?_
   exact (gcd_yes ⟨rfl, rfl⟩).2 (ResPost.stored N.out Y2.out bb'.out (by omega))
  ·have hd : decide (S = 1) = false := decide_eq_false hS
   have hS' := Lib.hid hS
   clear hS D E Ra Rb Xa Xb Xd Xe
   replace X2 := X2.out
   replace bb := bb.out
   have q0 := X2.c0; have q1 := X2.c1; have q2 := X2.c2; have q3 := X2.fr 0; have q4 := X2.fr 1; have q5 := X2.fr 2
   have zz := X2.set (.bool false) (.slice none 0 0) (.slice none 0 0)
   have e0 := zz.c0; have e1 := zz.c1; have e2 := zz.c2
   have Y2 := Lib.hid X2; have bb' := Lib.hid bb
   clear zz X2 bb
   go_wp2_with fail
   refine bodyPost_ret (v := .tuple #[.agg #[.bool false, .slice none 0 0, .slice none 0 0], .int .i64 (3)]) (by simp [results, Tryz.results69, go_sem, e0, e1, e2]) rfl ?_
   exact (gcd_no (fun h => hS'.out h.2)).2 (ResPost.stored (rt_zero _) Y2.out bb'.out (by omega))
 ·have hd : decide (Q = 1) = false := decide_eq_false hQ
  have hQ' := Lib.hid hQ
  clear hQ D E Ra Rb Xa Xb Xd Xe
  replace X2 := X2.out
  replace bb := bb.out
  have q0 := X2.c0; have q1 := X2.c1; have q2 := X2.c2; have q3 := X2.fr 0; have q4 := X2.fr 1; have q5 := X2.fr 2
  have zz := X2.set (.bool false) (.slice none 0 0) (.slice none 0 0)
  have e0 := zz.c0; have e1 := zz.c1; have e2 := zz.c2
  have Y2 := Lib.hid X2; have bb' := Lib.hid bb
  clear zz X2 bb
  go_wp2_with fail
  refine bodyPost_ret (v := .tuple #[.agg #[.bool false, .slice none 0 0, .slice none 0 0], .int .i64 (3)]) (by simp [results, Tryz.results69, go_sem, e0, e1, e2]) rfl ?_
  exact (gcd_no (fun h => hQ'.out h.1)).2 (ResPost.stored (rt_zero _) Y2.out bb'.out (by omega))
theorem rGcd4_any (ab : Bool) (ap aq : Option Addr) (an ac am ae : Nat) (P : Int) (Q : Nat)  (cb : Bool) (cp cq : Option Addr) (cn cc cm ce : Nat) (R : Int) (S : Nat) (w : World) (Ra : Rt w ab ap an ac aq am ae P Q) (la : Low P Q) (Rb : Rt w cb cp cn cc cq cm ce R S) (lb : Low R S) :
  Calls Tryz.prog 78 #[.agg #[.bool ab, .slice ap an ac, .slice aq am ae], .agg #[.bool cb, .slice cp cn cc, .slice cq cm ce]] w (GcdPost P Q R S w) := by
 replace Ra := Lib.hid Ra; replace la := Lib.hid la; replace Rb := Lib.hid Rb; replace lb := Lib.hid lb
 go_enter Tryz.func78, Tryz.ntmps78
 go_upto_region 1 with fail
 refine gen_wp (fun w' => Below w.heap.size w w' ∧ Box3 w' w.heap.size (.bool ab) (.slice ap an ac) (.slice aq am ae) ∧ Box3 w' (w.heap.size + 1) (.bool cb) (.slice cp cn cc) (.slice cq cm ce) ∧ Box3 w' (w.heap.size + 2) (.bool false) (.slice none 0 0) (.slice none 0 0))
  ⟨((((Below.refl _ _).alloc (Nat.le_refl _) _).alloc (by simp <;> omega) _).alloc (by simp <;> omega) _), (((Box3.new _ _ _ _ rfl).alloc _).alloc _), ((Box3.new _ _ _ _ (by simp <;> omega)).alloc _), (Box3.new _ _ _ _ (by simp <;> omega))⟩ ?_
 rintro w0 ⟨bb, Xa, Xb, X2⟩
 replace Ra := Ra.out.below bb; replace Rb := Rb.out.below bb
 replace bb := Lib.hid bb; replace Xa := Lib.hid Xa; replace Xb := Lib.hid Xb; replace X2 := Lib.hid X2; replace Ra := Lib.hid Ra; replace Rb := Lib.hid Rb
 by_cases hQ : Q = 1
 ·subst hQ
  have p00 := Xa.out.c0; have p01 := Xa.out.c1; have p02 := Xa.out.c2
  go_wp2_with fail
  clear p00 p01 p02
  refine (isWhole_any ab ap aq an ac am ae P 1 _ Ra.out).mono ?_
  rintro e v1 ⟨rfl, hb⟩
  replace bb := Lib.hid (below_then bb.out (Nat.le_refl _) hb); replace Xa := Lib.hid (Xa.out.later hb); replace Xb := Lib.hid (Xb.out.later hb); replace X2 := Lib.hid (X2.out.later hb); replace Ra := Lib.hid (Ra.out.below hb); replace Rb := Lib.hid (Rb.out.below hb)
  clear hb
  by_cases hS : S = 1
  ·subst hS
   have p00 := Xb.out.c0; have p01 := Xb.out.c1; have p02 := Xb.out.c2
   go_wp2_with fail
   clear p00 p01 p02
   refine (isWhole_any cb cp cq cn cc cm ce R 1 _ Rb.out).mono ?_
   rintro e v2 ⟨rfl, hb⟩
   replace bb := Lib.hid (below_then bb.out (Nat.le_refl _) hb); replace Xa := Lib.hid (Xa.out.later hb); replace Xb := Lib.hid (Xb.out.later hb); replace X2 := Lib.hid (X2.out.later hb); replace Ra := Lib.hid (Ra.out.below hb); replace Rb := Lib.hid (Rb.out.below hb)
   clear hb
   have pd := Xa.out.c1; have pe := Xb.out.c1
   go_wp2_with fail
   clear pd pe
   obtain ⟨f, g, hf, hg, vf, vg⟩ := gcd_whole (Ra.out.upper la.out) (Rb.out.upper lb.out)
   replace vf := Lib.hid vf; replace vg := Lib.hid vg
   refine (refGcdL_any ap cp an ac cn cc f g _ hf hg 32 (by omega) (Ra.out.top.le_len la.out.abs_lt) (Rb.out.top.le_len lb.out.abs_lt)).mono ?_
   rw [vf.out, vg.out]
   clear hf hg
   rintro e v9 ⟨go, gn, gc, gf, rfl, k1, k2, k3, k4, hb⟩
   have G := Lib.hid (nat_whole k1 k2 k3 k4 (gcd_32 la.out.abs_lt lb.out.abs_lt))
   clear k1 k2 k3 k4
   replace bb := Lib.hid (below_then bb.out (Nat.le_refl _) hb); replace Xa := Lib.hid (Xa.out.later hb); replace Xb := Lib.hid (Xb.out.later hb); replace X2 := Lib.hid (X2.out.later hb); replace Ra := Lib.hid (Ra.out.below hb); replace Rb := Lib.hid (Rb.out.below hb)
   clear hb Ra Rb Xa Xb
   go_wp2_with fail
   refine (rWhole_any false go gn gc _ _ G.out).mono ?_
   rintro e v10 ⟨zb, zp, zn, zc, zq, zm, ze, rfl, N, hb⟩
   replace N := Lib.hid N
   replace bb := Lib.hid (below_then bb.out (Nat.le_refl _) hb); replace X2 := Lib.hid (X2.out.later hb)
   clear hb G
   replace X2 := X2.out
   replace bb := bb.out
   have q0 := X2.c0; have q1 := X2.c1; have q2 := X2.c2; have q3 := X2.fr 0; have q4 := X2.fr 1; have q5 := X2.fr 2
   have zz := X2.set (.bool zb) (.slice zp zn zc) (.slice zq zm ze)
   have e0 := zz.c0; have e1 := zz.c1; have e2 := zz.c2
   have Y2 := Lib.hid X2; have bb' := Lib.hid bb
   clear zz X2 bb
   go_wp2_with fail
   refine bodyPost_ret (v := .tuple #[.agg #[.bool zb, .slice zp zn zc, .slice zq zm ze], .int .i64 (0)]) (by simp [results, Tryz.results78, go_sem, e0, e1, e2]) rfl ?_
   exact (gcd_yes ⟨rfl, rfl⟩).2 (ResPost.stored N.out Y2.out bb'.out (by omega))
  ·have p00 := Xb.out.c0; have p01 := Xb.out.c1; have p02 := Xb.out.c2
   go_wp2_with fail
   clear p00 p01 p02
   refine (isWhole_any cb cp cq cn cc cm ce R S _ Rb.out).mono ?_
   rintro e v2 ⟨rfl, hb⟩
   replace bb := Lib.hid (below_then bb.out (Nat.le_refl _) hb); replace Xa := Lib.hid (Xa.out.later hb); replace Xb := Lib.hid (Xb.out.later hb); replace X2 := Lib.hid (X2.out.later hb); replace Ra := Lib.hid (Ra.out.below hb); replace Rb := Lib.hid (Rb.out.below hb)
   clear hb
   have hd : decide (S = 1) = false := decide_eq_false hS
   have hS' := Lib.hid hS
   clear hS Ra Rb Xa Xb
   replace X2 := X2.out
   replace bb := bb.out
   have q0 := X2.c0; have q1 := X2.c1; have q2 := X2.c2; have q3 := X2.fr 0; have q4 := X2.fr 1; have q5 := X2.fr 2
   have zz := X2.set (.bool false) (.slice none 0 0) (.slice none 0 0)
   have e0 := zz.c0; have e1 := zz.c1; have e2 := zz.c2
   have Y2 := Lib.hid X2; have bb' := Lib.hid bb
   clear zz X2 bb
   go_wp2_with fail
   refine bodyPost_ret (v := .tuple #[.agg #[.bool false, .slice none 0 0, .slice none 0 0], .int .i64 (3)]) (by simp [results, Tryz.results78, go_sem, e0, e1, e2]) rfl ?_
   exact (gcd_no (fun h => hS'.out h.2)).2 (ResPost.stored (rt_zero _) Y2.out bb'.out (by omega))
 ·have p00 := Xa.out.c0; have p01 := Xa.out.c1; have p02 := Xa.out.c2
  go_wp2_with fail
  clear p00 p01 p02
  refine (isWhole_any ab ap aq an ac am ae P Q _ Ra.out).mono ?_
  rintro e v1 ⟨rfl, hb⟩
  replace bb := Lib.hid (below_then bb.out (Nat.le_refl _) hb); replace Xa := Lib.hid (Xa.out.later hb); replace Xb := Lib.hid (Xb.out.later hb); replace X2 := Lib.hid (X2.out.later hb); replace Ra := Lib.hid (Ra.out.below hb); replace Rb := Lib.hid (Rb.out.below hb)
  clear hb
  have hd : decide (Q = 1) = false := decide_eq_false hQ
  have hQ' := Lib.hid hQ
  clear hQ Ra Rb Xa Xb
  replace X2 := X2.out
  replace bb := bb.out
  have q0 := X2.c0; have q1 := X2.c1; have q2 := X2.c2; have q3 := X2.fr 0; have q4 := X2.fr 1; have q5 := X2.fr 2
  have zz := X2.set (.bool false) (.slice none 0 0) (.slice none 0 0)
  have e0 := zz.c0; have e1 := zz.c1; have e2 := zz.c2
  have Y2 := Lib.hid X2; have bb' := Lib.hid bb
  clear zz X2 bb
  go_wp2_with fail
  refine bodyPost_ret (v := .tuple #[.agg #[.bool false, .slice none 0 0, .slice none 0 0], .int .i64 (3)]) (by simp [results, Tryz.results78, go_sem, e0, e1, e2]) rfl ?_
  exact (gcd_no (fun h => hQ'.out h.1)).2 (ResPost.stored (rt_zero _) Y2.out bb'.out (by omega))
def lcmD (P R : Int) : Int := P / (Nat.gcd P.natAbs R.natAbs : Int)
def lcmRes (P : Int) (Q : Nat) (R : Int) (S : Nat) : Int × Nat × Int :=
 if Q = 1 ∧ S = 1 then (if Nat.gcd P.natAbs R.natAbs = 0 then (0, 1, 0) else (mkT (lcmD P R * R) (((1 : Nat) : Int) * ((1 : Nat) : Int)), mkB (lcmD P R * R) (((1 : Nat) : Int) * ((1 : Nat) : Int)), mkE (lcmD P R * R) (((1 : Nat) : Int) * ((1 : Nat) : Int)))) else (0, 0, 3)
def LcmPost (P : Int) (Q : Nat) (R : Int) (S : Nat) := ResPost (lcmRes P Q R S).1 (lcmRes P Q R S).2.1 (lcmRes P Q R S).2.2
theorem lcm_no {P R : Int} {Q S : Nat} {w w' : World} {e : Ending} (h : ¬ (Q = 1 ∧ S = 1)) (k : ResPost 0 0 3 w e w') : LcmPost P Q R S w e w' := by
 unfold LcmPost lcmRes; rw [if_neg h]; exact k
theorem lcm_zero {P R : Int} {w w' : World} {e : Ending} (h : Nat.gcd P.natAbs R.natAbs = 0) (k : ResPost 0 1 0 w e w') : LcmPost P 1 R 1 w e w' := by
 unfold LcmPost lcmRes; rw [if_pos ⟨rfl, rfl⟩, if_pos h]; exact k
theorem lcm_yes {P R : Int} {w w' : World} {e : Ending} (h : Nat.gcd P.natAbs R.natAbs ≠ 0) (k : MakePost (lcmD P R * R) (((1 : Nat) : Int) * ((1 : Nat) : Int)) w e w') : LcmPost P 1 R 1 w e w' := by
 unfold LcmPost lcmRes; rw [if_pos ⟨rfl, rfl⟩, if_neg h]; exact k
theorem lcm_div (P R : Int) : lcmD P R * (Nat.gcd P.natAbs R.natAbs : Int) = P := Int.ediv_mul_cancel (Int.ofNat_dvd_left.2 (Nat.gcd_dvd_left _ _))
theorem lcm_low {P R : Int} (hP : P.natAbs < pw 32) (h : Nat.gcd P.natAbs R.natAbs ≠ 0) : Low (lcmD P R) 1 := by
 refine low_one (Nat.lt_of_le_of_lt ?_ hP)
 have e := congrArg Int.natAbs (lcm_div P R)
 rw [Int.natAbs_mul, Int.natAbs_natCast] at e
 have : (lcmD P R).natAbs * 1 ≤ (lcmD P R).natAbs * Nat.gcd P.natAbs R.natAbs := Nat.mul_le_mul_left _ (Nat.pos_of_ne_zero h)
 omega
theorem lcm_part {P R : Int} : P * ((1 : Nat) : Int) * ((1 : Nat) : Int) = lcmD P R * (((1 : Nat) : Int) * (Nat.gcd P.natAbs R.natAbs : Int)) := by
 have := lcm_div P R
 grind
theorem lcm4_any (ab : Bool) (ap aq : Option Addr) (an ac am ae : Nat) (P : Int) (Q : Nat)  (cb : Bool) (cp cq : Option Addr) (cn cc cm ce : Nat) (R : Int) (S : Nat) (w : World) (Ra : Rt w ab ap an ac aq am ae P Q) (la : Low P Q) (Rb : Rt w cb cp cn cc cq cm ce R S) (lb : Low R S) :
  Calls Tryz.prog 68 #[.agg #[.bool ab, .slice ap an ac, .slice aq am ae], .agg #[.bool cb, .slice cp cn cc, .slice cq cm ce]] w (LcmPost P Q R S w) := by
 replace Ra := Lib.hid Ra; replace la := Lib.hid la; replace Rb := Lib.hid Rb; replace lb := Lib.hid lb
 go_enter Tryz.func68, Tryz.ntmps68
 go_upto_region 1 with fail
 refine gen_wp (fun w' => Below w.heap.size w w' ∧ Box3 w' w.heap.size (.bool ab) (.slice ap an ac) (.slice aq am ae) ∧ Box3 w' (w.heap.size + 1) (.bool cb) (.slice cp cn cc) (.slice cq cm ce) ∧ Box3 w' (w.heap.size + 2) (.bool false) (.slice none 0 0) (.slice none 0 0))
  ⟨((((Below.refl _ _).alloc (Nat.le_refl _) _).alloc (by simp <;> omega) _).alloc (by simp <;> omega) _), (((Box3.new _ _ _ _ rfl).alloc _).alloc _), ((Box3.new _ _ _ _ (by simp <;> omega)).alloc _), (Box3.new _ _ _ _ (by simp <;> omega))⟩ ?_
 rintro w0 ⟨bb, Xa, Xb, X2⟩
 replace Ra := Ra.out.below bb; replace Rb := Rb.out.below bb
 replace bb := Lib.hid bb; replace Xa := Lib.hid Xa; replace Xb := Lib.hid Xb; replace X2 := Lib.hid X2; replace Ra := Lib.hid Ra; replace Rb := Lib.hid Rb
 by_cases hQS : Q = 1 ∧ S = 1
 ·obtain ⟨hQ, hS⟩ := hQS
  subst hQ hS
  obtain ⟨G, hG⟩ : ∃ G, Hid (Nat.gcd P.natAbs R.natAbs = G) := ⟨_, Lib.hid rfl⟩
  have hlG : Hid (Low (G : Int) 1) := Lib.hid (low_one (by rw [← hG.out]; exact gcd_32 la.out.abs_lt lb.out.abs_lt))
  have p00 := Xa.out.c0; have p01 := Xa.out.c1; have p02 := Xa.out.c2; have p10 := Xb.out.c0; have p11 := Xb.out.c1; have p12 := Xb.out.c2
  go_wp2_with fail
  clear p00 p01 p02 p10 p11 p12
  refine ((gcd4_any ab ap aq an ac am ae P 1 cb cp cq cn cc cm ce R 1 _ Ra.out la.out Rb.out lb.out).mono fun _ _ => (gcd_yes ⟨rfl, rfl⟩).1).mono ?_
  rw [hG.out]
  rintro e v1 ⟨db, dp, dn, dc, dq, dm, de, rfl, D, hb⟩
  replace bb := Lib.hid (below_then bb.out (Nat.le_refl _) hb); replace Xa := Lib.hid (Xa.out.later hb); replace Xb := Lib.hid (Xb.out.later hb); replace X2 := Lib.hid (X2.out.later hb); replace Ra := Lib.hid (Ra.out.below hb); replace Rb := Lib.hid (Rb.out.below hb)
  replace D := Lib.hid D
  clear hb
  go_upto_region 2 with fail
  refine gen_wp (fun w' => Below w.heap.size w w' ∧ Box3 w' w.heap.size (.bool ab) (.slice ap an ac) (.slice aq am ae) ∧ Box3 w' (w.heap.size + 1) (.bool cb) (.slice cp cn cc) (.slice cq cm ce) ∧ Box3 w' (w.heap.size + 2) (.bool false) (.slice none 0 0) (.slice none 0 0) ∧ Box3 w' v1.heap.size (.bool db) (.slice dp dn dc) (.slice dq dm de) ∧ Rt w' ab ap an ac aq am ae P 1 ∧ Rt w' cb cp cn cc cq cm ce R 1 ∧ Rt w' db dp dn dc dq dm de ((G : Int)) (1))
   ⟨bb.out.alloc bb.out.size _, Xa.out.alloc _, Xb.out.alloc _, X2.out.alloc _, Box3.new _ _ _ _ rfl, Ra.out.alloc _, Rb.out.alloc _, D.out.alloc _⟩ ?_
  clear bb Xa Xb X2 Ra Rb D
  rintro x1 ⟨bb, Xa, Xb, X2, Xd, Ra, Rb, D⟩
  replace bb := Lib.hid bb; replace Xa := Lib.hid Xa; replace Xb := Lib.hid Xb; replace X2 := Lib.hid X2; replace Xd := Lib.hid Xd; replace Ra := Lib.hid Ra; replace Rb := Lib.hid Rb; replace D := Lib.hid D
  go_upto_region 4 with fail
  by_cases hG0 : G = 0
  ·subst hG0
   have p00 := Xd.out.c0; have p01 := Xd.out.c1; have p02 := Xd.out.c2
   go_wp2_with fail
   clear p00 p01 p02
   refine (sign_any db dp dq dn dc dm de 0 1 _ D.out hlG.out).mono ?_
   rintro e v2 ⟨rfl, hb⟩
   replace bb := Lib.hid (below_then bb.out (Nat.le_refl _) hb); replace Xa := Lib.hid (Xa.out.later hb); replace Xb := Lib.hid (Xb.out.later hb); replace X2 := Lib.hid (X2.out.later hb); replace Xd := Lib.hid (Xd.out.later hb); replace Ra := Lib.hid (Ra.out.below hb); replace Rb := Lib.hid (Rb.out.below hb); replace D := Lib.hid (D.out.below hb)
   clear hb
   go_wp2_with fail
   refine (of_any 0 _ (by decide) (by decide)).mono ?_
   rintro e v10 ⟨zb, zp, zn, zc, zq, zm, ze, rfl, N, hb⟩
   replace N := Lib.hid N
   clear Xa Xb Xd Ra Rb D
   replace bb := Lib.hid (below_then bb.out (Nat.le_refl _) hb); replace X2 := Lib.hid (X2.out.later hb)
   clear hb
   replace X2 := X2.out
   replace bb := bb.out
   have q0 := X2.c0; have q1 := X2.c1; have q2 := X2.c2; have q3 := X2.fr 0; have q4 := X2.fr 1; have q5 := X2.fr 2
   have zz := X2.set (.bool zb) (.slice zp zn zc) (.slice zq zm ze)
   have e0 := zz.c0; have e1 := zz.c1; have e2 := zz.c2
   have Y2 := Lib.hid X2; have bb' := Lib.hid bb
   clear zz X2 bb
   go_wp2_with fail
   refine bodyPost_ret (v := .tuple #[.agg #[.bool zb, .slice zp zn zc, .slice zq zm ze], .int .i64 (0)]) (by simp [results, Tryz.results68, go_sem, e0, e1, e2]) rfl ?_
   exact lcm_zero hG.out (ResPost.stored N.out Y2.out bb'.out (by omega))
  ·have hG1 : Hid (Nat.gcd P.natAbs R.natAbs ≠ 0) := Lib.hid (by rw [hG.out]; exact hG0)
   have hGz : Hid ((G : Int) ≠ 0) := Lib.hid (by omega)
   have hs : ¬ (G : Int).sign = 0 := fun e => hG0 (by have := Int.sign_eq_zero_iff_zero.1 e; omega)
   clear hG0
   have p00 := Xd.out.c0; have p01 := Xd.out.c1; have p02 := Xd.out.c2
   go_wp2_with fail
   clear p00 p01 p02
   refine (sign_any db dp dq dn dc dm de G 1 _ D.out hlG.out).mono ?_
   rintro e v2 ⟨rfl, hb⟩
   replace bb := Lib.hid (below_then bb.out (Nat.le_refl _) hb); replace Xa := Lib.hid (Xa.out.later hb); replace Xb := Lib.hid (Xb.out.later hb); replace X2 := Lib.hid (X2.out.later hb); replace Xd := Lib.hid (Xd.out.later hb); replace Ra := Lib.hid (Ra.out.below hb); replace Rb := Lib.hid (Rb.out.below hb); replace D := Lib.hid (D.out.below hb)
   clear hb
   go_upto_region 6 with fail
   clear hs
   have p00 := Xa.out.c0; have p01 := Xa.out.c1; have p02 := Xa.out.c2; have p10 := Xd.out.c0; have p11 := Xd.out.c1; have p12 := Xd.out.c2
   go_wp2_with fail
   clear p00 p01 p02 p10 p11 p12
   refine ((div4_any ab ap aq an ac am ae P 1 db dp dq dn dc dm de G 1 _ Ra.out la.out D.out hlG.out).mono fun _ _ => make_is (lcm_low la.out.abs_lt hG1.out) (Int.mul_ne_zero (by decide) hGz.out) (by rw [← hG.out]; exact lcm_part)).mono ?_
   rintro e v3 ⟨fb, fp, fn, fc, fq, fm, fe, rfl, F, hb⟩
   replace bb := Lib.hid (below_then bb.out (Nat.le_refl _) hb); replace Xa := Lib.hid (Xa.out.later hb); replace Xb := Lib.hid (Xb.out.later hb); replace X2 := Lib.hid (X2.out.later hb); replace Xd := Lib.hid (Xd.out.later hb); replace Ra := Lib.hid (Ra.out.below hb); replace Rb := Lib.hid (Rb.out.below hb); replace D := Lib.hid (D.out.below hb)
   replace F := Lib.hid F
   clear hb
   go_upto_region 7 with fail
   refine gen_wp (fun w' => Below w.heap.size w w' ∧ Box3 w' w.heap.size (.bool ab) (.slice ap an ac) (.slice aq am ae) ∧ Box3 w' (w.heap.size + 1) (.bool cb) (.slice cp cn cc) (.slice cq cm ce) ∧ Box3 w' (w.heap.size + 2) (.bool false) (.slice none 0 0) (.slice none 0 0) ∧ Box3 w' v1.heap.size (.bool db) (.slice dp dn dc) (.slice dq dm de) ∧ Box3 w' v3.heap.size (.bool fb) (.slice fp fn fc) (.slice fq fm fe) ∧ Rt w' ab ap an ac aq am ae P 1 ∧ Rt w' cb cp cn cc cq cm ce R 1 ∧ Rt w' db dp dn dc dq dm de ((G : Int)) (1) ∧ Rt w' fb fp fn fc fq fm fe (lcmD P R) (1))
    ⟨bb.out.alloc bb.out.size _, Xa.out.alloc _, Xb.out.alloc _, X2.out.alloc _, Xd.out.alloc _, Box3.new _ _ _ _ rfl, Ra.out.alloc _, Rb.out.alloc _, D.out.alloc _, F.out.alloc _⟩ ?_
   clear bb Xa Xb X2 Xd Ra Rb D F
   rintro x3 ⟨bb, Xa, Xb, X2, Xd, Xf, Ra, Rb, D, F⟩
   replace bb := Lib.hid bb; replace Xa := Lib.hid Xa; replace Xb := Lib.hid Xb; replace X2 := Lib.hid X2; replace Xd := Lib.hid Xd; replace Xf := Lib.hid Xf; replace Ra := Lib.hid Ra; replace Rb := Lib.hid Rb; replace D := Lib.hid D; replace F := Lib.hid F
   have p00 := Xf.out.c0; have p01 := Xf.out.c1; have p02 := Xf.out.c2; have p10 := Xb.out.c0; have p11 := Xb.out.c1; have p12 := Xb.out.c2
   go_wp2_with fail
   clear p00 p01 p02 p10 p11 p12
   refine (mul4_any fb fp fq fn fc fm fe (lcmD P R) 1 cb cp cq cn cc cm ce R 1 _ F.out (lcm_low la.out.abs_lt hG1.out) Rb.out lb.out).mono ?_
   rintro e v4 ⟨zb, zp, zn, zc, zq, zm, ze, rfl, N, hb⟩
   replace bb := Lib.hid (below_then bb.out (Nat.le_refl _) hb); replace Xa := Lib.hid (Xa.out.later hb); replace Xb := Lib.hid (Xb.out.later hb); replace X2 := Lib.hid (X2.out.later hb); replace Xd := Lib.hid (Xd.out.later hb); replace Xf := Lib.hid (Xf.out.later hb); replace Ra := Lib.hid (Ra.out.below hb); replace Rb := Lib.hid (Rb.out.below hb); replace D := Lib.hid (D.out.below hb); replace F := Lib.hid (F.out.below hb)
   replace N := Lib.hid N
   clear hb Xa Xb Xd Xf Ra Rb D F
   replace X2 := X2.out
   replace bb := bb.out
   have q0 := X2.c0; have q1 := X2.c1; have q2 := X2.c2; have q3 := X2.fr 0; have q4 := X2.fr 1; have q5 := X2.fr 2
   have zz := X2.set (.bool zb) (.slice zp zn zc) (.slice zq zm ze)
   have e0 := zz.c0; have e1 := zz.c1; have e2 := zz.c2
   have Y2 := Lib.hid X2; have bb' := Lib.hid bb
   clear zz X2 bb
   go_wp2_with fail
   refine bodyPost_ret (v := .tuple #[.agg #[.bool zb, .slice zp zn zc, .slice zq zm ze], .int .i64 (mkE (lcmD P R * R) (((1 : Nat) : Int) * ((1 : Nat) : Int)))]) (by simp [results, Tryz.results68, go_sem, e0, e1, e2]) rfl ?_
   exact lcm_yes hG1.out (ResPost.stored N.out Y2.out bb'.out (by omega))
 ·replace hQS := Lib.hid hQS
  have p00 := Xa.out.c0; have p01 := Xa.out.c1; have p02 := Xa.out.c2; have p10 := Xb.out.c0; have p11 := Xb.out.c1; have p12 := Xb.out.c2
  go_wp2_with fail
  clear p00 p01 p02 p10 p11 p12
  refine ((gcd4_any ab ap aq an ac am ae P Q cb cp cq cn cc cm ce R S _ Ra.out la.out Rb.out lb.out).mono fun _ _ => (gcd_no hQS.out).1).mono ?_
  rintro e v1 ⟨db, dp, dn, dc, dq, dm, de, rfl, D, hb⟩
  replace bb := Lib.hid (below_then bb.out (Nat.le_refl _) hb); replace Xa := Lib.hid (Xa.out.later hb); replace Xb := Lib.hid (Xb.out.later hb); replace X2 := Lib.hid (X2.out.later hb); replace Ra := Lib.hid (Ra.out.below hb); replace Rb := Lib.hid (Rb.out.below hb)
  replace D := Lib.hid D
  clear hb
  go_upto_region 2 with fail
  refine gen_wp (fun w' => Below w.heap.size w w' ∧ Box3 w' w.heap.size (.bool ab) (.slice ap an ac) (.slice aq am ae) ∧ Box3 w' (w.heap.size + 1) (.bool cb) (.slice cp cn cc) (.slice cq cm ce) ∧ Box3 w' (w.heap.size + 2) (.bool false) (.slice none 0 0) (.slice none 0 0) ∧ Box3 w' v1.heap.size (.bool db) (.slice dp dn dc) (.slice dq dm de) ∧ Rt w' ab ap an ac aq am ae P Q ∧ Rt w' cb cp cn cc cq cm ce R S ∧ Rt w' db dp dn dc dq dm de (0) (0))
   ⟨bb.out.alloc bb.out.size _, Xa.out.alloc _, Xb.out.alloc _, X2.out.alloc _, Box3.new _ _ _ _ rfl, Ra.out.alloc _, Rb.out.alloc _, D.out.alloc _⟩ ?_
  clear bb Xa Xb X2 Ra Rb D
  rintro x1 ⟨bb, Xa, Xb, X2, Xd, Ra, Rb, D⟩
  replace bb := Lib.hid bb; replace Xa := Lib.hid Xa; replace Xb := Lib.hid Xb; replace X2 := Lib.hid X2; replace Xd := Lib.hid Xd; replace Ra := Lib.hid Ra; replace Rb := Lib.hid Rb; replace D := Lib.hid D
  clear Xa Xb Xd Ra Rb D
  replace X2 := X2.out
  replace bb := bb.out
  have q0 := X2.c0; have q1 := X2.c1; have q2 := X2.c2; have q3 := X2.fr 0; have q4 := X2.fr 1; have q5 := X2.fr 2
  have zz := X2.set (.bool false) (.slice none 0 0) (.slice none 0 0)
  have e0 := zz.c0; have e1 := zz.c1; have e2 := zz.c2
  have Y2 := Lib.hid X2; have bb' := Lib.hid bb
  clear zz X2 bb
  go_wp2_with fail
  refine bodyPost_ret (v := .tuple #[.agg #[.bool false, .slice none 0 0, .slice none 0 0], .int .i64 (3)]) (by simp [results, Tryz.results68, go_sem, e0, e1, e2]) rfl ?_
  exact lcm_no hQS.out (ResPost.stored (rt_zero _) Y2.out bb'.out (by omega))
theorem rLcm4_any (ab : Bool) (ap aq : Option Addr) (an ac am ae : Nat) (P : Int) (Q : Nat)  (cb : Bool) (cp cq : Option Addr) (cn cc cm ce : Nat) (R : Int) (S : Nat) (w : World) (Ra : Rt w ab ap an ac aq am ae P Q) (la : Low P Q) (Rb : Rt w cb cp cn cc cq cm ce R S) (lb : Low R S) :
  Calls Tryz.prog 77 #[.agg #[.bool ab, .slice ap an ac, .slice aq am ae], .agg #[.bool cb, .slice cp cn cc, .slice cq cm ce]] w (LcmPost P Q R S w) := by
 replace Ra := Lib.hid Ra; replace la := Lib.hid la; replace Rb := Lib.hid Rb; replace lb := Lib.hid lb
 go_enter Tryz.func77, Tryz.ntmps77
 go_upto_region 1 with fail
 refine gen_wp (fun w' => Below w.heap.size w w' ∧ Box3 w' w.heap.size (.bool ab) (.slice ap an ac) (.slice aq am ae) ∧ Box3 w' (w.heap.size + 1) (.bool cb) (.slice cp cn cc) (.slice cq cm ce) ∧ Box3 w' (w.heap.size + 2) (.bool false) (.slice none 0 0) (.slice none 0 0))
  ⟨((((Below.refl _ _).alloc (Nat.le_refl _) _).alloc (by simp <;> omega) _).alloc (by simp <;> omega) _), (((Box3.new _ _ _ _ rfl).alloc _).alloc _), ((Box3.new _ _ _ _ (by simp <;> omega)).alloc _), (Box3.new _ _ _ _ (by simp <;> omega))⟩ ?_
 rintro w0 ⟨bb, Xa, Xb, X2⟩
 replace Ra := Ra.out.below bb; replace Rb := Rb.out.below bb
 replace bb := Lib.hid bb; replace Xa := Lib.hid Xa; replace Xb := Lib.hid Xb; replace X2 := Lib.hid X2; replace Ra := Lib.hid Ra; replace Rb := Lib.hid Rb
 by_cases hQS : Q = 1 ∧ S = 1
 ·obtain ⟨hQ, hS⟩ := hQS
  subst hQ hS
  obtain ⟨G, hG⟩ : ∃ G, Hid (Nat.gcd P.natAbs R.natAbs = G) := ⟨_, Lib.hid rfl⟩
  have hlG : Hid (Low (G : Int) 1) := Lib.hid (low_one (by rw [← hG.out]; exact gcd_32 la.out.abs_lt lb.out.abs_lt))
  have p00 := Xa.out.c0; have p01 := Xa.out.c1; have p02 := Xa.out.c2; have p10 := Xb.out.c0; have p11 := Xb.out.c1; have p12 := Xb.out.c2
  go_wp2_with fail
  clear p00 p01 p02 p10 p11 p12
  refine ((rGcd4_any ab ap aq an ac am ae P 1 cb cp cq cn cc cm ce R 1 _ Ra.out la.out Rb.out lb.out).mono fun _ _ => (gcd_yes ⟨rfl, rfl⟩).1).mono ?_
  rw [hG.out]
  rintro e v1 ⟨db, dp, dn, dc, dq, dm, de, rfl, D, hb⟩
  replace bb := Lib.hid (below_then bb.out (Nat.le_refl _) hb); replace Xa := Lib.hid (Xa.out.later hb); replace Xb := Lib.hid (Xb.out.later hb); replace X2 := Lib.hid (X2.out.later hb); replace Ra := Lib.hid (Ra.out.below hb); replace Rb := Lib.hid (Rb.out.below hb)
  replace D := Lib.hid D
  clear hb
  go_upto_region 2 with fail
  refine gen_wp (fun w' => Below w.heap.size w w' ∧ Box3 w' w.heap.size (.bool ab) (.slice ap an ac) (.slice aq am ae) ∧ Box3 w' (w.heap.size + 1) (.bool cb) (.slice cp cn cc) (.slice cq cm ce) ∧ Box3 w' (w.heap.size + 2) (.bool false) (.slice none 0 0) (.slice none 0 0) ∧ Box3 w' v1.heap.size (.bool db) (.slice dp dn dc) (.slice dq dm de) ∧ Rt w' ab ap an ac aq am ae P 1 ∧ Rt w' cb cp cn cc cq cm ce R 1 ∧ Rt w' db dp dn dc dq dm de ((G : Int)) (1))
   ⟨bb.out.alloc bb.out.size _, Xa.out.alloc _, Xb.out.alloc _, X2.out.alloc _, Box3.new _ _ _ _ rfl, Ra.out.alloc _, Rb.out.alloc _, D.out.alloc _⟩ ?_
  clear bb Xa Xb X2 Ra Rb D
  rintro x1 ⟨bb, Xa, Xb, X2, Xd, Ra, Rb, D⟩
  replace bb := Lib.hid bb; replace Xa := Lib.hid Xa; replace Xb := Lib.hid Xb; replace X2 := Lib.hid X2; replace Xd := Lib.hid Xd; replace Ra := Lib.hid Ra; replace Rb := Lib.hid Rb; replace D := Lib.hid D
  go_upto_region 4 with fail
  by_cases hG0 : G = 0
  ·subst hG0
   have hdn : Hid (dn = 0) := Lib.hid (D.out.top.len_zero.2 rfl)
   obtain rfl := hdn.out
   clear hdn
   have p00 := Xd.out.c0; have p01 := Xd.out.c1; have p02 := Xd.out.c2
   clear Xa Xb Xd Ra Rb
   replace X2 := X2.out
   replace bb := bb.out
   have q0 := X2.c0; have q1 := X2.c1; have q2 := X2.c2; have q3 := X2.fr 0; have q4 := X2.fr 1; have q5 := X2.fr 2
   have zz := X2.set (.bool db) (.slice dp 0 dc) (.slice dq dm de)
   have e0 := zz.c0; have e1 := zz.c1; have e2 := zz.c2
   have Y2 := Lib.hid X2; have bb' := Lib.hid bb
   clear zz X2 bb
   go_wp2_with fail
   refine bodyPost_ret (v := .tuple #[.agg #[.bool db, .slice dp 0 dc, .slice dq dm de], .int .i64 (0)]) (by simp [results, Tryz.results77, go_sem, e0, e1, e2]) rfl ?_
   exact lcm_zero hG.out (ResPost.stored D.out Y2.out bb'.out (by omega))
  ·have hG1 : Hid (Nat.gcd P.natAbs R.natAbs ≠ 0) := Lib.hid (by rw [hG.out]; exact hG0)
   have hGz : Hid ((G : Int) ≠ 0) := Lib.hid (by omega)
   have hdn : ((dn : Int) == 0) = false := by rw [beq_eq_false_iff_ne]; intro e; exact hGz.out (D.out.top.len_zero.1 (by omega))
   clear hG0
   have p00 := Xd.out.c0; have p01 := Xd.out.c1; have p02 := Xd.out.c2
   go_upto_region 6 with fail
   clear p00 p01 p02
   clear hdn
   have p00 := Xa.out.c0; have p01 := Xa.out.c1; have p02 := Xa.out.c2; have p10 := Xd.out.c0; have p11 := Xd.out.c1; have p12 := Xd.out.c2
   go_wp2_with fail
   clear p00 p01 p02 p10 p11 p12
   refine ((rDiv4_any ab ap aq an ac am ae P 1 db dp dq dn dc dm de G 1 _ Ra.out la.out D.out hlG.out).mono fun _ _ => make_is (lcm_low la.out.abs_lt hG1.out) (Int.mul_ne_zero (by decide) hGz.out) (by rw [← hG.out]; exact lcm_part)).mono ?_
   rintro e v2 ⟨fb, fp, fn, fc, fq, fm, fe, rfl, F, hb⟩
   replace bb := Lib.hid (below_then bb.out (Nat.le_refl _) hb); replace Xa := Lib.hid (Xa.out.later hb); replace Xb := Lib.hid (Xb.out.later hb); replace X2 := Lib.hid (X2.out.later hb); replace Xd := Lib.hid (Xd.out.later hb); replace Ra := Lib.hid (Ra.out.below hb); replace Rb := Lib.hid (Rb.out.below hb); replace D := Lib.hid (D.out.below hb)
   replace F := Lib.hid F
   clear hb
   go_upto_region 7 with fail
   refine gen_wp (fun w' => Below w.heap.size w w' ∧ Box3 w' w.heap.size (.bool ab) (.slice ap an ac) (.slice aq am ae) ∧ Box3 w' (w.heap.size + 1) (.bool cb) (.slice cp cn cc) (.slice cq cm ce) ∧ Box3 w' (w.heap.size + 2) (.bool false) (.slice none 0 0) (.slice none 0 0) ∧ Box3 w' v1.heap.size (.bool db) (.slice dp dn dc) (.slice dq dm de) ∧ Box3 w' v2.heap.size (.bool fb) (.slice fp fn fc) (.slice fq fm fe) ∧ Rt w' ab ap an ac aq am ae P 1 ∧ Rt w' cb cp cn cc cq cm ce R 1 ∧ Rt w' db dp dn dc dq dm de ((G : Int)) (1) ∧ Rt w' fb fp fn fc fq fm fe (lcmD P R) (1))
    ⟨bb.out.alloc bb.out.size _, Xa.out.alloc _, Xb.out.alloc _, X2.out.alloc _, Xd.out.alloc _, Box3.new _ _ _ _ rfl, Ra.out.alloc _, Rb.out.alloc _, D.out.alloc _, F.out.alloc _⟩ ?_
   clear bb Xa Xb X2 Xd Ra Rb D F
   rintro x2 ⟨bb, Xa, Xb, X2, Xd, Xf, Ra, Rb, D, F⟩
   replace bb := Lib.hid bb; replace Xa := Lib.hid Xa; replace Xb := Lib.hid Xb; replace X2 := Lib.hid X2; replace Xd := Lib.hid Xd; replace Xf := Lib.hid Xf; replace Ra := Lib.hid Ra; replace Rb := Lib.hid Rb; replace D := Lib.hid D; replace F := Lib.hid F
   go_upto_region 9 with fail
   have p00 := Xf.out.c0; have p01 := Xf.out.c1; have p02 := Xf.out.c2; have p10 := Xb.out.c0; have p11 := Xb.out.c1; have p12 := Xb.out.c2
   go_wp2_with fail
   clear p00 p01 p02 p10 p11 p12
   refine (rMul4_any fb fp fq fn fc fm fe (lcmD P R) 1 cb cp cq cn cc cm ce R 1 _ F.out (lcm_low la.out.abs_lt hG1.out) Rb.out lb.out).mono ?_
   rintro e v3 ⟨zb, zp, zn, zc, zq, zm, ze, rfl, N, hb⟩
   replace bb := Lib.hid (below_then bb.out (Nat.le_refl _) hb); replace Xa := Lib.hid (Xa.out.later hb); replace Xb := Lib.hid (Xb.out.later hb); replace X2 := Lib.hid (X2.out.later hb); replace Xd := Lib.hid (Xd.out.later hb); replace Xf := Lib.hid (Xf.out.later hb); replace Ra := Lib.hid (Ra.out.below hb); replace Rb := Lib.hid (Rb.out.below hb); replace D := Lib.hid (D.out.below hb); replace F := Lib.hid (F.out.below hb)
   replace N := Lib.hid N
   clear hb Xa Xb Xd Xf Ra Rb D F
   replace X2 := X2.out
   replace bb := bb.out
   have q0 := X2.c0; have q1 := X2.c1; have q2 := X2.c2; have q3 := X2.fr 0; have q4 := X2.fr 1; have q5 := X2.fr 2
   have zz := X2.set (.bool zb) (.slice zp zn zc) (.slice zq zm ze)
   have e0 := zz.c0; have e1 := zz.c1; have e2 := zz.c2
   have Y2 := Lib.hid X2; have bb' := Lib.hid bb
   clear zz X2 bb
   go_wp2_with fail
   refine bodyPost_ret (v := .tuple #[.agg #[.bool zb, .slice zp zn zc, .slice zq zm ze], .int .i64 (mkE (lcmD P R * R) (((1 : Nat) : Int) * ((1 : Nat) : Int)))]) (by simp [results, Tryz.results77, go_sem, e0, e1, e2]) rfl ?_
   exact lcm_yes hG1.out (ResPost.stored N.out Y2.out bb'.out (by omega))
 ·replace hQS := Lib.hid hQS
  have p00 := Xa.out.c0; have p01 := Xa.out.c1; have p02 := Xa.out.c2; have p10 := Xb.out.c0; have p11 := Xb.out.c1; have p12 := Xb.out.c2
  go_wp2_with fail
  clear p00 p01 p02 p10 p11 p12
  refine ((rGcd4_any ab ap aq an ac am ae P Q cb cp cq cn cc cm ce R S _ Ra.out la.out Rb.out lb.out).mono fun _ _ => (gcd_no hQS.out).1).mono ?_
  rintro e v1 ⟨db, dp, dn, dc, dq, dm, de, rfl, D, hb⟩
  replace bb := Lib.hid (below_then bb.out (Nat.le_refl _) hb); replace Xa := Lib.hid (Xa.out.later hb); replace Xb := Lib.hid (Xb.out.later hb); replace X2 := Lib.hid (X2.out.later hb); replace Ra := Lib.hid (Ra.out.below hb); replace Rb := Lib.hid (Rb.out.below hb)
  replace D := Lib.hid D
  clear hb
  go_upto_region 2 with fail
  refine gen_wp (fun w' => Below w.heap.size w w' ∧ Box3 w' w.heap.size (.bool ab) (.slice ap an ac) (.slice aq am ae) ∧ Box3 w' (w.heap.size + 1) (.bool cb) (.slice cp cn cc) (.slice cq cm ce) ∧ Box3 w' (w.heap.size + 2) (.bool false) (.slice none 0 0) (.slice none 0 0) ∧ Box3 w' v1.heap.size (.bool db) (.slice dp dn dc) (.slice dq dm de) ∧ Rt w' ab ap an ac aq am ae P Q ∧ Rt w' cb cp cn cc cq cm ce R S ∧ Rt w' db dp dn dc dq dm de (0) (0))
   ⟨bb.out.alloc bb.out.size _, Xa.out.alloc _, Xb.out.alloc _, X2.out.alloc _, Box3.new _ _ _ _ rfl, Ra.out.alloc _, Rb.out.alloc _, D.out.alloc _⟩ ?_
  clear bb Xa Xb X2 Ra Rb D
  rintro x1 ⟨bb, Xa, Xb, X2, Xd, Ra, Rb, D⟩
  replace bb := Lib.hid bb; replace Xa := Lib.hid Xa; replace Xb := Lib.hid Xb; replace X2 := Lib.hid X2; replace Xd := Lib.hid Xd; replace Ra := Lib.hid Ra; replace Rb := Lib.hid Rb; replace D := Lib.hid D
  clear Xa Xb Xd Ra Rb D
  replace X2 := X2.out
  replace bb := bb.out
  have q0 := X2.c0; have q1 := X2.c1; have q2 := X2.c2; have q3 := X2.fr 0; have q4 := X2.fr 1; have q5 := X2.fr 2
  have zz := X2.set (.bool false) (.slice none 0 0) (.slice none 0 0)
  have e0 := zz.c0; have e1 := zz.c1; have e2 := zz.c2
  have Y2 := Lib.hid X2; have bb' := Lib.hid bb
  clear zz X2 bb
  go_wp2_with fail
  refine bodyPost_ret (v := .tuple #[.agg #[.bool false, .slice none 0 0, .slice none 0 0], .int .i64 (3)]) (by simp [results, Tryz.results77, go_sem, e0, e1, e2]) rfl ?_
  exact lcm_no hQS.out (ResPost.stored (rt_zero _) Y2.out bb'.out (by omega))
end Go.Proofs.YtaepelipkkmeaaaGreat
