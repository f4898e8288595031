/-
  scalar.not, factorial; Number, each word in one.
  What package scalar's functions tell, as the statements' walks ask it; scrimlaw10.awake.
-/
import Derived.Test.YtaepelipkkmeaaaGreatMgtA
import Derived.Test.YtaepelipkkmeaaaGreatMgtB
import Derived.Test.YtaepelipkkmeaaaGreatMgtC
import Derived.Test.YtaepelipkkmeaaaGreatMgtD
import Derived.Test.YtaepelipkkmeaaaGreatMgtE
import Derived.Test.YtaepelipkkmeaaaGreatMgtF
import Derived.Test.YtaepelipkkmeaaaGreatMgtG
import Derived.Test.YtaepelipkkmeaaaGreatMgtH
import Derived.Test.YtaepelipkkmeaaaGreatMgtI
import Derived.Test.YtaepelipkkmeaaaGreatMgtJ
import Derived.Test.YtaepelipkkmeaaaGreatMgtScalarNumbers1
import Derived.Test.YtaepelipkkmeaaaGreatMgtScalarNumbers2
import Derived.Deep.LoopGhost
import Derived.OpenShut
import Derived.SizedLaws
import Derived.WalkKit
import Derived.Lib.BitFns
import Derived.Laws.AppendOwn
import Derived.BigQuiet
import Derived.Deep.AppendLies
import Derived.Deep.RegionHeld3
import Derived.Deep.CutRange
import Derived.Deep.DrawnRows
import Derived.Laws.OwnMore
import Derived.Lib.SliceRun
import Derived.Deep.RegionWith
import Derived.WalkSpells
import Derived.WalkLawsBesides
import Derived.Lib.Hide
import Derived.Laws.CopyOwn
import Derived.Deep.RegionLaw
import Derived.Lib.Small
import Derived.Lib.Walk
import Derived.Deep.QuietTactic
set_option maxRecDepth 20000
set_option maxHeartbeats 16000000
namespace Go.Proofs.YtaepelipkkmeaaaGreat
open Go.RowKit Num
attribute [local go_sem ↓] Go.wp_at_zero Go.wp_at_succ
theorem smallQ_zero {P : Int} {Q : Nat} (l : Low P Q) (h : P = 0) : smallQ P Q = true := by
 subst h
 rw [low_zero l]; rfl
theorem smallQ_yes {P : Int} {Q : Nat} (h : smallQ P Q = true) : Q = 1 ∧ -9223372036854775808 ≤ P ∧ P ≤ 9223372036854775807 := by
 unfold smallQ isSmall at h
 rw [Bool.and_eq_true, decide_eq_true_iff, decide_eq_true_iff] at h
 exact h
theorem smallQ_not {P : Int} {Q : Nat} (h : smallQ P Q = false) : ¬ (Q = 1 ∧ -9223372036854775808 ≤ P ∧ P ≤ 9223372036854775807) := by
 rintro ⟨hQ, h1⟩
 have : smallQ P Q = true := by unfold smallQ isSmall; rw [decide_eq_true hQ, Bool.true_and]; exact decide_eq_true h1
 rw [h] at this; cases this
theorem not_any (ab : Bool) (ap aq : Option Addr) (an ac am ae : Nat) (P : Int) (Q : Nat) (w : World) (Ra : Rt w ab ap an ac aq am ae P Q) (la : Low P Q) :
  Calls Tryz.prog 56 #[.agg #[.bool ab, .slice ap an ac, .slice aq am ae]] w (NumRes (notR P Q) w) := by
 replace Ra := Lib.hid Ra; replace la := Lib.hid la
 go_enter Tryz.func56, Tryz.ntmps56
 go_upto_region 1 with fail
 refine gen_wp (fun w' => Below w.heap.size w w' ∧ Box3 w' w.heap.size (.bool ab) (.slice ap an ac) (.slice aq am ae) ∧ Box3 w' (w.heap.size + 1) (.bool false) (.slice none 0 0) (.slice none 0 0))
  ⟨(((Below.refl _ _).alloc (Nat.le_refl _) _).alloc (by simp <;> omega) _), ((Box3.new _ _ _ _ rfl).alloc _), (Box3.new _ _ _ _ (by simp <;> omega))⟩ ?_
 rintro w0 ⟨bb, Xa, X2⟩
 replace Ra := Ra.out.below bb
 replace bb := Lib.hid bb; replace Xa := Lib.hid Xa; replace X2 := Lib.hid X2; replace Ra := Lib.hid Ra
 cases hq : smallQ P Q
 ·have e1 := Lib.hid (show smallR P Q = .tuple #[.int .i64 0, .bool false] from by unfold smallR smallP; rw [hq]; rfl)
  have n1 := Lib.hid (show P ≠ 0 from fun h => by have := smallQ_zero la.out h; rw [hq] at this; cases this)
  have n2 := Lib.hid (show ¬ (P = 1 ∧ Q = 1) from fun h => smallQ_not hq ⟨h.2, by omega, by omega⟩)
  clear hq
  have p00 := Xa.out.c0; have p01 := Xa.out.c1; have p02 := Xa.out.c2
  go_wp2_with fail
  clear p00 p01 p02
  refine ((smallP_any ab ap aq an ac am ae P Q _ Ra.out la.out).mono fun _ _ h => (show Says (.tuple #[.int .i64 0, .bool false]) _ _ _ by rw [e1.out] at h; exact h)).mono ?_
  rintro e v1 ⟨rfl, hb⟩
  replace bb := Lib.hid (below_then bb.out (Nat.le_refl _) hb); replace Xa := Lib.hid (Xa.out.later hb); replace X2 := Lib.hid (X2.out.later hb); replace Ra := Lib.hid (Ra.out.below hb)
  clear hb
  replace X2 := X2.out
  replace bb := bb.out
  have q0 := X2.c0; have q1 := X2.c1; have q2 := X2.c2; have q3 := X2.fr 0; have q4 := X2.fr 1; have q5 := X2.fr 2
  have zz := X2.set (.bool false) (.slice none 0 0) (.slice none 0 0)
  have e0 := zz.c0; have e1 := zz.c1; have e2 := zz.c2
  have Y2 := Lib.hid X2; have bb' := Lib.hid bb
  clear zz X2 bb
  go_wp2_with fail
  refine bodyPost_ret (v := .tuple #[.agg #[.bool false, .slice none 0 0, .slice none 0 0], .int .i64 (3)]) (by simp [results, Tryz.results56, go_sem, e0, e1, e2]) rfl ?_
  exact (notR_no n1.out n2.out (ResPost.stored (rt_zero _) Y2.out bb'.out (by omega)))
 ·obtain ⟨hQ, h0, h1⟩ := smallQ_yes hq
  have e1 := Lib.hid (small_of hQ h0 h1)
  replace hQ := Lib.hid hQ
  clear hq
  have p00 := Xa.out.c0; have p01 := Xa.out.c1; have p02 := Xa.out.c2
  go_wp2_with fail
  clear p00 p01 p02
  refine ((smallP_any ab ap aq an ac am ae P Q _ Ra.out la.out).mono fun _ _ h => (show Says (.tuple #[.int .i64 P, .bool true]) _ _ _ by rw [e1.out] at h; exact h)).mono ?_
  rintro e v1 ⟨rfl, hb⟩
  replace bb := Lib.hid (below_then bb.out (Nat.le_refl _) hb); replace Xa := Lib.hid (Xa.out.later hb); replace X2 := Lib.hid (X2.out.later hb); replace Ra := Lib.hid (Ra.out.below hb)
  clear hb
  by_cases hP0 : P = 0
  ·subst hP0
   clear h0 h1 e1
   go_wp2_with fail
   refine (of_any 1 _ (by decide) (by decide)).mono ?_
   rintro e v2 ⟨db, dp, dn, dc, dq, dm, de, rfl, D, hb⟩
   replace bb := Lib.hid (below_then bb.out (Nat.le_refl _) hb); replace Xa := Lib.hid (Xa.out.later hb); replace X2 := Lib.hid (X2.out.later hb); replace Ra := Lib.hid (Ra.out.below hb)
   replace D := Lib.hid D
   clear hb
   replace X2 := X2.out
   replace bb := bb.out
   have q0 := X2.c0; have q1 := X2.c1; have q2 := X2.c2; have q3 := X2.fr 0; have q4 := X2.fr 1; have q5 := X2.fr 2
   have zz := X2.set (.bool db) (.slice dp dn dc) (.slice dq dm de)
   have e0 := zz.c0; have e1 := zz.c1; have e2 := zz.c2
   have Y2 := Lib.hid X2; have bb' := Lib.hid bb
   clear zz X2 bb
   go_wp2_with fail
   refine bodyPost_ret (v := .tuple #[.agg #[.bool db, .slice dp dn dc, .slice dq dm de], .int .i64 (0)]) (by simp [results, Tryz.results56, go_sem, e0, e1, e2]) rfl ?_
   exact (notR_zero rfl (ResPost.stored D.out Y2.out bb'.out (by omega)))
  by_cases hP1 : P = 1
  ·subst hP1
   clear h0 h1 e1 hP0
   go_wp2_with fail
   refine (of_any 0 _ (by decide) (by decide)).mono ?_
   rintro e v2 ⟨db, dp, dn, dc, dq, dm, de, rfl, D, hb⟩
   replace bb := Lib.hid (below_then bb.out (Nat.le_refl _) hb); replace Xa := Lib.hid (Xa.out.later hb); replace X2 := Lib.hid (X2.out.later hb); replace Ra := Lib.hid (Ra.out.below hb)
   replace D := Lib.hid D
   clear hb
   replace X2 := X2.out
   replace bb := bb.out
   have q0 := X2.c0; have q1 := X2.c1; have q2 := X2.c2; have q3 := X2.fr 0; have q4 := X2.fr 1; have q5 := X2.fr 2
   have zz := X2.set (.bool db) (.slice dp dn dc) (.slice dq dm de)
   have e0 := zz.c0; have e1 := zz.c1; have e2 := zz.c2
   have Y2 := Lib.hid X2; have bb' := Lib.hid bb
   clear zz X2 bb
   go_wp2_with fail
   refine bodyPost_ret (v := .tuple #[.agg #[.bool db, .slice dp dn dc, .slice dq dm de], .int .i64 (0)]) (by simp [results, Tryz.results56, go_sem, e0, e1, e2]) rfl ?_
   exact (notR_one ⟨rfl, hQ.out⟩ (ResPost.stored D.out Y2.out bb'.out (by omega)))
  have n1 := Lib.hid hP0; have n2 := Lib.hid (show ¬ (P = 1 ∧ Q = 1) from fun h => hP1 h.1)
  have d0 : (P != 0) = true := bne_iff_ne.2 hP0
  have d1 : (P != 1) = true := bne_iff_ne.2 hP1
  clear hP0 hP1 h0 h1 e1
  replace X2 := X2.out
  replace bb := bb.out
  have q0 := X2.c0; have q1 := X2.c1; have q2 := X2.c2; have q3 := X2.fr 0; have q4 := X2.fr 1; have q5 := X2.fr 2
  have zz := X2.set (.bool false) (.slice none 0 0) (.slice none 0 0)
  have e0 := zz.c0; have e1 := zz.c1; have e2 := zz.c2
  have Y2 := Lib.hid X2; have bb' := Lib.hid bb
  clear zz X2 bb
  go_wp2_with fail
  refine bodyPost_ret (v := .tuple #[.agg #[.bool false, .slice none 0 0, .slice none 0 0], .int .i64 (3)]) (by simp [results, Tryz.results56, go_sem, e0, e1, e2]) rfl ?_
  exact (notR_no n1.out n2.out (ResPost.stored (rt_zero _) Y2.out bb'.out (by omega)))
theorem fact_any (ab : Bool) (ap aq : Option Addr) (an ac am ae : Nat) (P : Int) (Q : Nat) (w : World) (Ra : Rt w ab ap an ac aq am ae P Q) (la : Low P Q) :
  Calls Tryz.prog 57 #[.agg #[.bool ab, .slice ap an ac, .slice aq am ae]] w (NumRes (factR P Q) w) := by
 replace Ra := Lib.hid Ra; replace la := Lib.hid la
 go_enter Tryz.func57, Tryz.ntmps57
 go_upto_region 1 with fail
 refine gen_wp (fun w' => Below w.heap.size w w' ∧ Box3 w' w.heap.size (.bool ab) (.slice ap an ac) (.slice aq am ae) ∧ Box3 w' (w.heap.size + 1) (.bool false) (.slice none 0 0) (.slice none 0 0))
  ⟨(((Below.refl _ _).alloc (Nat.le_refl _) _).alloc (by simp <;> omega) _), ((Box3.new _ _ _ _ rfl).alloc _), (Box3.new _ _ _ _ (by simp <;> omega))⟩ ?_
 rintro w0 ⟨bb, Xa, X2⟩
 replace Ra := Ra.out.below bb
 replace bb := Lib.hid bb; replace Xa := Lib.hid Xa; replace X2 := Lib.hid X2; replace Ra := Lib.hid Ra
 have p00 := Xa.out.c0; have p01 := Xa.out.c1; have p02 := Xa.out.c2
 go_wp2_with fail
 clear p00 p01 p02
 refine (int_any ab ap aq an ac am ae P Q _ Ra.out la.out).mono ?_
 rintro e v1 ⟨tb, to_, tn, tc, rfl, T, hb⟩
 replace bb := Lib.hid (below_then bb.out (Nat.le_refl _) hb); replace Xa := Lib.hid (Xa.out.later hb); replace X2 := Lib.hid (X2.out.later hb); replace Ra := Lib.hid (Ra.out.below hb)
 clear T hb
 by_cases hQ : Q = 1
 ·have hQd := Lib.hid (decide_eq_true hQ)
  rw [hQd.out]
  have hQ' := Lib.hid hQ
  clear hQ hQd
  go_upto_region 2 with fail
  refine gen_wp (fun w' => Below w.heap.size w w' ∧ Box3 w' w.heap.size (.bool ab) (.slice ap an ac) (.slice aq am ae) ∧ Box3 w' (w.heap.size + 1) (.bool false) (.slice none 0 0) (.slice none 0 0) ∧ Rt w' ab ap an ac aq am ae P Q)
   ⟨bb.out.alloc bb.out.size _, Xa.out.alloc _, X2.out.alloc _, Ra.out.alloc _⟩ ?_
  clear bb Xa X2 Ra
  rintro y1 ⟨bb, Xa, X2, Ra⟩
  replace bb := Lib.hid bb; replace Xa := Lib.hid Xa; replace X2 := Lib.hid X2; replace Ra := Lib.hid Ra
  by_cases hP : P < 0
  ·have hs := Lib.hid (Int.sign_eq_neg_one_of_neg hP)
   have hP' := Lib.hid hP
   clear hP
   have p00 := Xa.out.c0; have p01 := Xa.out.c1; have p02 := Xa.out.c2
   go_wp2_with fail
   clear p00 p01 p02
   refine ((sign_any ab ap aq an ac am ae P Q _ Ra.out la.out).mono fun _ _ h => (show Says (.int .i64 (-1)) _ _ _ by rw [hs.out] at h; exact h)).mono ?_
   rintro e v2 ⟨rfl, hb⟩
   replace bb := Lib.hid (below_then bb.out (Nat.le_refl _) hb); replace Xa := Lib.hid (Xa.out.later hb); replace X2 := Lib.hid (X2.out.later hb); replace Ra := Lib.hid (Ra.out.below hb)
   clear hb
   replace X2 := X2.out
   replace bb := bb.out
   have q0 := X2.c0; have q1 := X2.c1; have q2 := X2.c2; have q3 := X2.fr 0; have q4 := X2.fr 1; have q5 := X2.fr 2
   have zz := X2.set (.bool false) (.slice none 0 0) (.slice none 0 0)
   have e0 := zz.c0; have e1 := zz.c1; have e2 := zz.c2
   have Y2 := Lib.hid X2; have bb' := Lib.hid bb
   clear zz X2 bb
   go_wp2_with fail
   refine bodyPost_ret (v := .tuple #[.agg #[.bool false, .slice none 0 0, .slice none 0 0], .int .i64 (3)]) (by simp [results, Tryz.results57, go_sem, e0, e1, e2]) rfl ?_
   exact NumRes.of (ResPost.stored (rt_zero _) Y2.out bb'.out (by omega)) (if_neg (fun e => absurd e.2 (Int.not_le.2 hP'.out)))
  ·have hP0 : 0 ≤ P := by omega
   obtain ⟨sg, hsg, hsd⟩ : ∃ sg, Hid (P.sign = sg) ∧ decide (sg < 0) = false := ⟨_, Lib.hid rfl, decide_eq_false (by rw [← cmp_sgn]; unfold cmpI; split <;> (try split) <;> omega)⟩
   have hP0' := Lib.hid hP0
   clear hP hP0
   have p00 := Xa.out.c0; have p01 := Xa.out.c1; have p02 := Xa.out.c2
   go_wp2_with fail
   clear p00 p01 p02
   refine ((sign_any ab ap aq an ac am ae P Q _ Ra.out la.out).mono fun _ _ h => (show Says (.int .i64 (sg)) _ _ _ by rw [hsg.out] at h; exact h)).mono ?_
   rintro e v2 ⟨rfl, hb⟩
   replace bb := Lib.hid (below_then bb.out (Nat.le_refl _) hb); replace Xa := Lib.hid (Xa.out.later hb); replace X2 := Lib.hid (X2.out.later hb); replace Ra := Lib.hid (Ra.out.below hb)
   clear hb
   cases hq : smallQ P Q
   ·have e1 := Lib.hid (show smallR P Q = .tuple #[.int .i64 0, .bool false] from by unfold smallR smallP; rw [hq]; rfl)
    have hbig := Lib.hid (show ¬ P ≤ 200 from fun h => smallQ_not hq ⟨hQ'.out, by have := hP0'.out; omega, by omega⟩)
    clear hq
    have p00 := Xa.out.c0; have p01 := Xa.out.c1; have p02 := Xa.out.c2
    go_wp2_with fail
    clear p00 p01 p02
    refine ((smallP_any ab ap aq an ac am ae P Q _ Ra.out la.out).mono fun _ _ h => (show Says (.tuple #[.int .i64 0, .bool false]) _ _ _ by rw [e1.out] at h; exact h)).mono ?_
    rintro e v3 ⟨rfl, hb⟩
    replace bb := Lib.hid (below_then bb.out (Nat.le_refl _) hb); replace Xa := Lib.hid (Xa.out.later hb); replace X2 := Lib.hid (X2.out.later hb); replace Ra := Lib.hid (Ra.out.below hb)
    clear hb
    replace X2 := X2.out
    replace bb := bb.out
    have q0 := X2.c0; have q1 := X2.c1; have q2 := X2.c2; have q3 := X2.fr 0; have q4 := X2.fr 1; have q5 := X2.fr 2
    have zz := X2.set (.bool false) (.slice none 0 0) (.slice none 0 0)
    have e0 := zz.c0; have e1 := zz.c1; have e2 := zz.c2
    have Y2 := Lib.hid X2; have bb' := Lib.hid bb
    clear zz X2 bb
    go_wp2_with fail
    refine bodyPost_ret (v := .tuple #[.agg #[.bool false, .slice none 0 0, .slice none 0 0], .int .i64 (7)]) (by simp [results, Tryz.results57, go_sem, e0, e1, e2]) rfl ?_
    exact NumRes.of (ResPost.stored (rt_zero _) Y2.out bb'.out (by omega)) (by unfold factR; rw [if_pos ⟨hQ'.out, hP0'.out⟩, if_neg (by have := hbig.out; omega)])
   ·obtain ⟨_, h0, h1⟩ := smallQ_yes hq
    have e1 := Lib.hid (small_of hQ'.out h0 h1)
    clear hq
    have p00 := Xa.out.c0; have p01 := Xa.out.c1; have p02 := Xa.out.c2
    go_wp2_with fail
    clear p00 p01 p02
    refine ((smallP_any ab ap aq an ac am ae P Q _ Ra.out la.out).mono fun _ _ h => (show Says (.tuple #[.int .i64 P, .bool true]) _ _ _ by rw [e1.out] at h; exact h)).mono ?_
    rintro e v3 ⟨rfl, hb⟩
    replace bb := Lib.hid (below_then bb.out (Nat.le_refl _) hb); replace Xa := Lib.hid (Xa.out.later hb); replace X2 := Lib.hid (X2.out.later hb); replace Ra := Lib.hid (Ra.out.below hb)
    clear hb
    by_cases h200 : P ≤ 200
    ·have d2 : decide (200 < P) = false := decide_eq_false (by omega)
     clear e1 hsg hsd
     go_wp2_with fail
     refine (wOf_any 1 _ (by decide) (by decide)).mono ?_
     rintro e v4 ⟨tb, to_, tn, tc, rfl, T, hb⟩
     replace bb := Lib.hid (below_then bb.out (Nat.le_refl _) hb); replace Xa := Lib.hid (Xa.out.later hb); replace X2 := Lib.hid (X2.out.later hb); replace Ra := Lib.hid (Ra.out.below hb)
     have hgt := X2.out.lt
     replace T := Lib.hid T
     clear hb
     go_upto_region 8 with fail
     refine gen_wp (fun w' => Below w.heap.size w w' ∧ Box3 w' w.heap.size (.bool ab) (.slice ap an ac) (.slice aq am ae) ∧ Box3 w' (w.heap.size + 1) (.bool false) (.slice none 0 0) (.slice none 0 0) ∧ Box w' v4.heap.size (.bool tb) (.slice to_ tn tc) ∧ Rt w' ab ap an ac aq am ae P Q ∧ Right w' tb to_ tn tc 1)
      ⟨bb.out.alloc bb.out.size _, Xa.out.alloc _, X2.out.alloc _, Box.new _ _ _ rfl, Ra.out.alloc _, T.out.alloc _⟩ ?_
     clear bb Xa X2 Ra T
     rintro x4 ⟨bb, Xa, X2, XB, Ra, T⟩
     replace bb := Lib.hid bb; replace Xa := Lib.hid Xa; replace X2 := Lib.hid X2; replace XB := Lib.hid XB; replace Ra := Lib.hid Ra; replace T := Lib.hid T
     clear Ra Xa
     have hP0 := hP0'.out
     go_wp2_with fail
     go_loopw [9] (fun v wr => ∃ (j : Nat) (sb : Bool) (so : Option Addr) (sn sc : Nat), v = .int .i64 ((j : Int) + 1) ∧ 1 ≤ j ∧ ((j : Int) ≤ P ∨ j = 1) ∧ Box wr v4.heap.size (.bool sb) (.slice so sn sc) ∧ Right wr sb so sn sc (factZ j) ∧ Box3 wr (w.heap.size + 1) (.bool false) (.slice none 0 0) (.slice none 0 0) ∧ Below w.heap.size w wr) (fun v _ => 202 - (intOf v).toNat)
     case atStart => exact ⟨1, _, _, _, _, rfl, by omega, .inr rfl, XB.out, T.out, X2.out, bb.out⟩
     case round =>
      clear XB T X2 bb
      obtain ⟨j, sb, so, sn, sc, rfl, hj1, hj, XB, T, X2, bb⟩ := hrel
      have hj2 : (j : Int) ≤ 200 := by omega
      have lt1 := Lib.hid (factZ_lt (j := j) (by omega))
      by_cases hl : (j : Int) + 1 ≤ P
      ·have lt2 := Lib.hid (small_200 (n := j + 1) (by omega))
       go_upto_region 11 with fail
       have XB := XB.drew; have T := T.drew; have X2 := X2.drew; have bb := bb.drew
       have p0 := XB.c0; have p1 := XB.c1
       have s0 := True.intro
       go_region_with (first
        | (go_at_call 109; clear s0; refine (wOf_any ((j : Int) + 1) _ (by omega) (by omega)).mono ?_; rintro e w' ⟨ub, uo, un, uc, rfl, U, hb⟩; have bb := below_then bb (Nat.le_refl _) hb; have XB := XB.later hb; have X2 := X2.later hb; have T := T.below hb; clear hb; have p0 := XB.c0; have p1 := XB.c1)
        | (go_at_call 112; refine (wMul_any sb ub so uo sn sc un uc (factZ j) ((j : Int) + 1) _ (T.whole lt1.out (by omega)) (U.whole lt2.out (by omega))).mono ?_; rintro e w' ⟨mb, mo, mn, mc, rfl, M, hb⟩; have bb := below_then bb (Nat.le_refl _) hb; have XB := XB.later hb; have X2 := X2.later hb; clear hb; have q0 := XB.c0; have q1 := XB.c1; have q2 := XB.fr 0; have q3 := XB.fr 1))
       all_goals
        have bw := Lib.hid (below_set bb (show w.heap.size ≤ v4.heap.size by omega) (.bool mb) (.slice mo mn mc))
        have z2 := Lib.hid (X2.other (show w.heap.size + 1 ≠ v4.heap.size by omega) (.bool mb) (.slice mo mn mc))
        have zB := Lib.hid (XB.set (.bool mb) (.slice mo mn mc))
        have zM := Lib.hid (M.box XB (.bool mb) (.slice mo mn mc))
        go_wp2_with fail
        go_roundw
        case rel => exact ⟨j + 1, _, _, _, _, by go_num, by omega, .inl (by omega), zB.out, zM.out, z2.out, bw.out⟩
        case measure => simp [intOf]; omega
      ·have hR : Hid (factR P Q = (mkT (factZ j) 1, mkB (factZ j) 1, mkE (factZ j) 1)) := Lib.hid (by
        unfold factR
        rw [if_pos ⟨hQ'.out, hP0⟩, if_pos h200]
        have e : factZ P.toNat = factZ j := by
         rcases hj with h | h
         ·rw [show P.toNat = j by omega]
         ·subst h
          have : P = 0 ∨ P = 1 := by omega
          rcases this with rfl | rfl <;> rfl
        rw [e])
       have lt2 := Lib.hid (small_200 (n := 1) (by omega))
       go_upto_region 12 with fail
       have XB := XB.drew; have T := T.drew; have X2 := X2.drew; have bb := bb.drew
       have sb0 := True.intro
       go_region_held3 (fun w' => w'.cell? ⟨v4.heap.size, 0, none⟩ = some (.bool sb) ∧ w'.cell? ⟨v4.heap.size, 1, none⟩ = some (.slice so sn sc))
        (first | with_reducible exact ⟨XB.c0, XB.c1⟩ | with_reducible exact ⟨(XB.other3 (by omega) _ _ _).c0, (XB.other3 (by omega) _ _ _).c1⟩ | go_keep)
        (first
        | (go_at_call 109; clear sb0; refine (wOf_any 1 _ (by decide) (by decide)).mono ?_; rintro e w' ⟨ub, uo, un, uc, rfl, U, hb⟩; have bb := below_then bb (Nat.le_refl _) hb; have XB := XB.later hb; have X2 := X2.later hb; have T := T.below hb; clear hb; have sb1 := True.intro)
        | (go_at_call 111; clear sb1; refine (make_any sb ub so uo sn sc un uc (factZ j) 1 _ (T.whole lt1.out (by omega)) (U.whole lt2.out (by omega))).mono ?_; rintro e w' ⟨db, dp, dn, dc, dq, dm, de, rfl, D, hb⟩; have bb := below_then bb (Nat.le_refl _) hb; have XB := XB.later hb; have X2 := X2.later hb; have T := T.below hb; have U := U.below hb; clear hb; have q0 := X2.c0; have q1 := X2.c1; have q2 := X2.c2; have q3 := X2.fr 0; have q4 := X2.fr 1; have q5 := X2.fr 2; have sb2 := True.intro))
       have zz := X2.set (.bool db) (.slice dp dn dc) (.slice dq dm de)
       have e0 := zz.c0; have e1 := zz.c1; have e2 := zz.c2
       have Y2 := Lib.hid X2; have bb' := Lib.hid bb
       clear zz X2 bb
       go_wp2_with fail
       refine bodyPost_ret (v := .tuple #[.agg #[.bool db, .slice dp dn dc, .slice dq dm de], .int .i64 (mkE (factZ j) 1)]) (by simp [results, Tryz.results57, go_sem, e0, e1, e2]) rfl ?_
       exact NumRes.of (ResPost.stored D Y2.out bb'.out (by omega)) hR.out
    ·have d2 : decide (200 < P) = true := decide_eq_true (by omega)
     have hbig := Lib.hid h200
     clear e1 hsg hsd h200 h0 h1
     replace X2 := X2.out
     replace bb := bb.out
     have q0 := X2.c0; have q1 := X2.c1; have q2 := X2.c2; have q3 := X2.fr 0; have q4 := X2.fr 1; have q5 := X2.fr 2
     have zz := X2.set (.bool false) (.slice none 0 0) (.slice none 0 0)
     have e0 := zz.c0; have e1 := zz.c1; have e2 := zz.c2
     have Y2 := Lib.hid X2; have bb' := Lib.hid bb
     clear zz X2 bb
     go_wp2_with fail
     refine bodyPost_ret (v := .tuple #[.agg #[.bool false, .slice none 0 0, .slice none 0 0], .int .i64 (7)]) (by simp [results, Tryz.results57, go_sem, e0, e1, e2]) rfl ?_
     exact NumRes.of (ResPost.stored (rt_zero _) Y2.out bb'.out (by omega)) (by unfold factR; rw [if_pos ⟨hQ'.out, hP0'.out⟩, if_neg (by have := hbig.out; omega)])
 ·have hQd := Lib.hid (decide_eq_false hQ)
  rw [hQd.out]
  have hQ' := Lib.hid hQ
  clear hQ hQd
  go_upto_region 2 with fail
  refine gen_wp (fun w' => Below w.heap.size w w' ∧ Box3 w' w.heap.size (.bool ab) (.slice ap an ac) (.slice aq am ae) ∧ Box3 w' (w.heap.size + 1) (.bool false) (.slice none 0 0) (.slice none 0 0) ∧ Rt w' ab ap an ac aq am ae P Q)
   ⟨bb.out.alloc bb.out.size _, Xa.out.alloc _, X2.out.alloc _, Ra.out.alloc _⟩ ?_
  clear bb Xa X2 Ra
  rintro y1 ⟨bb, Xa, X2, Ra⟩
  replace bb := Lib.hid bb; replace Xa := Lib.hid Xa; replace X2 := Lib.hid X2; replace Ra := Lib.hid Ra
  replace X2 := X2.out
  replace bb := bb.out
  have q0 := X2.c0; have q1 := X2.c1; have q2 := X2.c2; have q3 := X2.fr 0; have q4 := X2.fr 1; have q5 := X2.fr 2
  have zz := X2.set (.bool false) (.slice none 0 0) (.slice none 0 0)
  have e0 := zz.c0; have e1 := zz.c1; have e2 := zz.c2
  have Y2 := Lib.hid X2; have bb' := Lib.hid bb
  clear zz X2 bb
  go_wp2_with fail
  refine bodyPost_ret (v := .tuple #[.agg #[.bool false, .slice none 0 0, .slice none 0 0], .int .i64 (3)]) (by simp [results, Tryz.results57, go_sem, e0, e1, e2]) rfl ?_
  exact NumRes.of (ResPost.stored (rt_zero _) Y2.out bb'.out (by omega)) (if_neg (fun e => hQ'.out e.1))
theorem numP_not (ab : Bool) (ap aq : Option Addr) (an ac am ae : Nat) (P : Int) (Q : Nat) (w : World) (Ra : Rt w ab ap an ac aq am ae P Q) (la : Low P Q) :
  Calls Tryz.prog 17 #[.int .i64 126, .agg #[.bool ab, .slice ap an ac, .slice aq am ae]] w (NumRes (notR P Q) w) := by
 replace Ra := Lib.hid Ra; replace la := Lib.hid la
 go_enter Tryz.func17, Tryz.ntmps17
 go_upto_region 1 with fail
 refine gen_wp (fun w' => Below w.heap.size w w' ∧ Box3 w' w.heap.size (.bool ab) (.slice ap an ac) (.slice aq am ae) ∧ Box3 w' (w.heap.size + 1) (.bool false) (.slice none 0 0) (.slice none 0 0))
  ⟨(((Below.refl _ _).alloc (Nat.le_refl _) _).alloc (by simp <;> omega) _), ((Box3.new _ _ _ _ rfl).alloc _), (Box3.new _ _ _ _ (by simp <;> omega))⟩ ?_
 rintro w0 ⟨bb, Xa, X2⟩
 replace Ra := Ra.out.below bb
 replace bb := Lib.hid bb; replace Xa := Lib.hid Xa; replace X2 := Lib.hid X2; replace Ra := Lib.hid Ra
 have p00 := Xa.out.c0; have p01 := Xa.out.c1; have p02 := Xa.out.c2
 go_wp2_with fail
 clear p00 p01 p02
 refine (not_any ab ap aq an ac am ae P Q _ Ra.out la.out).mono ?_
 rintro e v1 ⟨db, dp, dn, dc, dq, dm, de, rfl, D, hb⟩
 replace bb := Lib.hid (below_then bb.out (Nat.le_refl _) hb); replace Xa := Lib.hid (Xa.out.later hb); replace X2 := Lib.hid (X2.out.later hb); replace Ra := Lib.hid (Ra.out.below hb)
 replace D := Lib.hid D
 clear hb
 replace X2 := X2.out
 replace bb := bb.out
 have q0 := X2.c0; have q1 := X2.c1; have q2 := X2.c2; have q3 := X2.fr 0; have q4 := X2.fr 1; have q5 := X2.fr 2
 have zz := X2.set (.bool db) (.slice dp dn dc) (.slice dq dm de)
 have e0 := zz.c0; have e1 := zz.c1; have e2 := zz.c2
 have Y2 := Lib.hid X2; have bb' := Lib.hid bb
 clear zz X2 bb
 go_wp2_with fail
 refine bodyPost_ret (v := .tuple #[.agg #[.bool db, .slice dp dn dc, .slice dq dm de], .int .i64 ((notR P Q).2.2)]) (by simp [results, Tryz.results17, go_sem, e0, e1, e2]) rfl ?_
 exact (ResPost.stored D.out Y2.out bb'.out (by omega))
theorem numP_fact (ab : Bool) (ap aq : Option Addr) (an ac am ae : Nat) (P : Int) (Q : Nat) (w : World) (Ra : Rt w ab ap an ac aq am ae P Q) (la : Low P Q) :
  Calls Tryz.prog 17 #[.int .i64 33, .agg #[.bool ab, .slice ap an ac, .slice aq am ae]] w (NumRes (factR P Q) w) := by
 replace Ra := Lib.hid Ra; replace la := Lib.hid la
 go_enter Tryz.func17, Tryz.ntmps17
 go_upto_region 1 with fail
 refine gen_wp (fun w' => Below w.heap.size w w' ∧ Box3 w' w.heap.size (.bool ab) (.slice ap an ac) (.slice aq am ae) ∧ Box3 w' (w.heap.size + 1) (.bool false) (.slice none 0 0) (.slice none 0 0))
  ⟨(((Below.refl _ _).alloc (Nat.le_refl _) _).alloc (by simp <;> omega) _), ((Box3.new _ _ _ _ rfl).alloc _), (Box3.new _ _ _ _ (by simp <;> omega))⟩ ?_
 rintro w0 ⟨bb, Xa, X2⟩
 replace Ra := Ra.out.below bb
 replace bb := Lib.hid bb; replace Xa := Lib.hid Xa; replace X2 := Lib.hid X2; replace Ra := Lib.hid Ra
 have p00 := Xa.out.c0; have p01 := Xa.out.c1; have p02 := Xa.out.c2
 go_wp2_with fail
 clear p00 p01 p02
 refine (fact_any ab ap aq an ac am ae P Q _ Ra.out la.out).mono ?_
 rintro e v1 ⟨db, dp, dn, dc, dq, dm, de, rfl, D, hb⟩
 replace bb := Lib.hid (below_then bb.out (Nat.le_refl _) hb); replace Xa := Lib.hid (Xa.out.later hb); replace X2 := Lib.hid (X2.out.later hb); replace Ra := Lib.hid (Ra.out.below hb)
 replace D := Lib.hid D
 clear hb
 replace X2 := X2.out
 replace bb := bb.out
 have q0 := X2.c0; have q1 := X2.c1; have q2 := X2.c2; have q3 := X2.fr 0; have q4 := X2.fr 1; have q5 := X2.fr 2
 have zz := X2.set (.bool db) (.slice dp dn dc) (.slice dq dm de)
 have e0 := zz.c0; have e1 := zz.c1; have e2 := zz.c2
 have Y2 := Lib.hid X2; have bb' := Lib.hid bb
 clear zz X2 bb
 go_wp2_with fail
 refine bodyPost_ret (v := .tuple #[.agg #[.bool db, .slice dp dn dc, .slice dq dm de], .int .i64 ((factR P Q).2.2)]) (by simp [results, Tryz.results17, go_sem, e0, e1, e2]) rfl ?_
 exact (ResPost.stored D.out Y2.out bb'.out (by omega))
theorem numberP_any (f : Int) (ab : Bool) (ap aq : Option Addr) (an ac am ae : Nat) (P : Int) (Q : Nat) (w : World) (Ra : Rt w ab ap an ac aq am ae P Q) (la : Low P Q) :
  Calls Tryz.prog 17 #[.int .i64 f, .agg #[.bool ab, .slice ap an ac, .slice aq am ae]] w (NumRes (numR f P Q) w) := by
 by_cases h43 : f = 43
 ·subst h43; exact (numP_plus ab ap aq an ac am ae P Q w Ra la).mono fun _ _ h => (show NumRes (numR 43 P Q) w _ _ from by rw [show numR 43 P Q = _ from (by unfold numR; rw [if_pos rfl])]; exact h)
 by_cases h45 : f = 45
 ·subst h45; exact (numP_minus ab ap aq an ac am ae P Q w Ra la).mono fun _ _ h => (show NumRes (numR 45 P Q) w _ _ from by rw [show numR 45 P Q = _ from (by unfold numR; rw [if_neg (by decide), if_pos rfl])]; exact h)
 by_cases h215 : f = 215
 ·subst h215; exact (numP_times ab ap aq an ac am ae P Q w Ra la).mono fun _ _ h => (show NumRes (numR 215 P Q) w _ _ from by rw [show numR 215 P Q = _ from (by unfold numR; rw [if_neg (by decide), if_neg (by decide), if_pos rfl])]; exact h)
 by_cases h247 : f = 247
 ·subst h247; exact (numP_div ab ap aq an ac am ae P Q w Ra la).mono fun _ _ h => (show NumRes (numR 247 P Q) w _ _ from by rw [show numR 247 P Q = _ from (by unfold numR; rw [if_neg (by decide), if_neg (by decide), if_neg (by decide), if_pos rfl])]; exact h)
 by_cases h8968 : f = 8968
 ·subst h8968; exact (numP_ceil ab ap aq an ac am ae P Q w Ra la).mono fun _ _ h => (show NumRes (numR 8968 P Q) w _ _ from by rw [show numR 8968 P Q = _ from (by unfold numR; rw [if_neg (by decide), if_neg (by decide), if_neg (by decide), if_neg (by decide), if_pos rfl])]; exact h)
 by_cases h8970 : f = 8970
 ·subst h8970; exact (numP_floor ab ap aq an ac am ae P Q w Ra la).mono fun _ _ h => (show NumRes (numR 8970 P Q) w _ _ from by rw [show numR 8970 P Q = _ from (by unfold numR; rw [if_neg (by decide), if_neg (by decide), if_neg (by decide), if_neg (by decide), if_neg (by decide), if_pos rfl])]; exact h)
 by_cases h124 : f = 124
 ·subst h124; exact (numP_abs ab ap aq an ac am ae P Q w Ra la).mono fun _ _ h => (show NumRes (numR 124 P Q) w _ _ from by rw [show numR 124 P Q = _ from (by unfold numR; rw [if_neg (by decide), if_neg (by decide), if_neg (by decide), if_neg (by decide), if_neg (by decide), if_neg (by decide), if_pos rfl])]; exact h)
 by_cases h126 : f = 126
 ·subst h126; exact (numP_not ab ap aq an ac am ae P Q w Ra la).mono fun _ _ h => (show NumRes (numR 126 P Q) w _ _ from by rw [show numR 126 P Q = _ from (by unfold numR; rw [if_neg (by decide), if_neg (by decide), if_neg (by decide), if_neg (by decide), if_neg (by decide), if_neg (by decide), if_neg (by decide), if_pos rfl])]; exact h)
 by_cases h33 : f = 33
 ·subst h33; exact (numP_fact ab ap aq an ac am ae P Q w Ra la).mono fun _ _ h => (show NumRes (numR 33 P Q) w _ _ from by rw [show numR 33 P Q = _ from (by unfold numR; rw [if_neg (by decide), if_neg (by decide), if_neg (by decide), if_neg (by decide), if_neg (by decide), if_neg (by decide), if_neg (by decide), if_neg (by decide), if_pos rfl])]; exact h)
 exact (numP_none f ab ap aq an ac am ae P Q w Ra la h43 h45 h215 h247 h8968 h8970 h124 h126 h33).mono fun _ _ h => (show NumRes (numR f P Q) w _ _ from by rw [show numR f P Q = (0, 0, 8) from by unfold numR; rw [if_neg h43, if_neg h45, if_neg h215, if_neg h247, if_neg h8968, if_neg h8970, if_neg h124, if_neg h126, if_neg h33]]; exact h)
end Go.Proofs.YtaepelipkkmeaaaGreat
namespace Go.Proofs.YtaepelipkkmeaaaGreat
open Go.RowKit Num
theorem isOneC : IsOneC := fun f w _ => isOne_any f w
theorem isTwoC : IsTwoC := fun f w _ => isTwo_any f w
theorem numberC : NumberC := fun f ab ap aq an ac am ae P Q w _ Ra la => numberP_any f ab ap aq an ac am ae P Q w Ra la
theorem numbersC : NumbersC := fun f ab ap aq an ac am ae P Q cb cp cq cn cc cm ce R S w _ Ra la Rb lb => numbersP_any f ab ap aq an ac am ae P Q cb cp cq cn cc cm ce R S w Ra la Rb lb
end Go.Proofs.YtaepelipkkmeaaaGreat
