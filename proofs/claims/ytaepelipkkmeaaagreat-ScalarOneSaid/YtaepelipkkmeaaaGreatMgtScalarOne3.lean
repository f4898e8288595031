/-
  scalar.not, factorial; Number, each word in one.
  A row of cells that is made and then put, element by element, with what calls tell (MkR); scalar.oneCell, where One tells what is made of what is in the cell.
  scalar.One.
  scalar.One of any word, of any right array.
  scrimlaw10.ScalarOne, walked.
-/
import Derived.Test.YtaepelipkkmeaaaGreatMgtA
import Derived.Test.YtaepelipkkmeaaaGreatMgtB
import Derived.Test.YtaepelipkkmeaaaGreatMgtC
import Derived.Test.YtaepelipkkmeaaaGreatMgtD
import Derived.Test.YtaepelipkkmeaaaGreatMgtE
import Derived.Test.YtaepelipkkmeaaaGreatMgtF
import Derived.Test.YtaepelipkkmeaaaGreatMgtG
import Derived.Test.YtaepelipkkmeaaaGreatMgtH
import Derived.Test.YtaepelipkkmeaaaGreatMgtI
import Derived.Test.YtaepelipkkmeaaaGreatMgtScalarOne1
import Derived.Test.YtaepelipkkmeaaaGreatMgtScalarOne2
import Derived.Deep.LoopGhost
import Derived.OpenShut
import Derived.SizedLaws
import Derived.WalkKit
import Derived.Lib.BitFns
import Derived.Laws.AppendOwn
import Derived.BigQuiet
import Derived.Deep.AppendLies
import Derived.Deep.RegionHeld3
import Derived.Deep.CutRange
import Derived.Deep.DrawnRows
import Derived.Laws.OwnMore
import Derived.Lib.SliceRun
import Derived.Deep.RegionWith
import Derived.WalkSpells
import Derived.WalkLawsBesides
import Derived.Lib.Hide
import Derived.Laws.CopyOwn
import Derived.Deep.RegionLaw
import Derived.Lib.Small
import Derived.Lib.Walk
import Derived.Deep.QuietTactic
set_option maxRecDepth 20000
set_option maxHeartbeats 16000000
namespace Go.Proofs.YtaepelipkkmeaaaGreat
open Go.RowKit Num
attribute [local go_sem ↓] Go.wp_at_zero Go.wp_at_succ
theorem smallQ_zero {P : Int} {Q : Nat} (l : Low P Q) (h : P = 0) : smallQ P Q = true := by
 subst h
 rw [low_zero l]; rfl
theorem smallQ_yes {P : Int} {Q : Nat} (h : smallQ P Q = true) : Q = 1 ∧ -9223372036854775808 ≤ P ∧ P ≤ 9223372036854775807 := by
 unfold smallQ isSmall at h
 rw [Bool.and_eq_true, decide_eq_true_iff, decide_eq_true_iff] at h
 exact h
theorem smallQ_not {P : Int} {Q : Nat} (h : smallQ P Q = false) : ¬ (Q = 1 ∧ -9223372036854775808 ≤ P ∧ P ≤ 9223372036854775807) := by
 rintro ⟨hQ, h1⟩
 have : smallQ P Q = true := by unfold smallQ isSmall; rw [decide_eq_true hQ, Bool.true_and]; exact decide_eq_true h1
 rw [h] at this; cases this
theorem not_any (ab : Bool) (ap aq : Option Addr) (an ac am ae : Nat) (P : Int) (Q : Nat) (w : World) (Ra : Rt w ab ap an ac aq am ae P Q) (la : Low P Q) :
  Calls Tryz.prog 56 #[.agg #[.bool ab, .slice ap an ac, .slice aq am ae]] w (NumRes (notR P Q) w) := by
 replace Ra := Lib.hid Ra; replace la := Lib.hid la
 go_enter Tryz.func56, Tryz.ntmps56
 go_upto_region 1 with fail
 refine gen_wp (fun w' => Below w.heap.size w w' ∧ Box3 w' w.heap.size (.bool ab) (.slice ap an ac) (.slice aq am ae) ∧ Box3 w' (w.heap.size + 1) (.bool false) (.slice none 0 0) (.slice none 0 0))
  ⟨(((Below.refl _ _).alloc (Nat.le_refl _) _).alloc (by simp <;> omega) _), ((Box3.new _ _ _ _ rfl).alloc _), (Box3.new _ _ _ _ (by simp <;> omega))⟩ ?_
 rintro w0 ⟨bb, Xa, X2⟩
 replace Ra := Ra.out.below bb
 replace bb := Lib.hid bb; replace Xa := Lib.hid Xa; replace X2 := Lib.hid X2; replace Ra := Lib.hid Ra
 cases hq : smallQ P Q
 ·have e1 := Lib.hid (show smallR P Q = .tuple #[.int .i64 0, .bool false] from by unfold smallR smallP; rw [hq]; rfl)
  have n1 := Lib.hid (show P ≠ 0 from fun h => by have := smallQ_zero la.out h; rw [hq] at this; cases this)
  have n2 := Lib.hid (show ¬ (P = 1 ∧ Q = 1) from fun h => smallQ_not hq ⟨h.2, by omega, by omega⟩)
  clear hq
  have p00 := Xa.out.c0; have p01 := Xa.out.c1; have p02 := Xa.out.c2
  go_wp2_with fail
  clear p00 p01 p02
  refine ((smallP_any ab ap aq an ac am ae P Q _ Ra.out la.out).mono fun _ _ h => (show Says (.tuple #[.int .i64 0, .bool false]) _ _ _ by rw [e1.out] at h; exact h)).mono ?_
  rintro e v1 ⟨rfl, hb⟩
  replace bb := Lib.hid (below_then bb.out (Nat.le_refl _) hb); replace Xa := Lib.hid (Xa.out.later hb); replace X2 := Lib.hid (X2.out.later hb); replace Ra := Lib.hid (Ra.out.below hb)
  clear hb
  replace X2 := X2.out
  replace bb := bb.out
  have q0 := X2.c0; have q1 := X2.c1; have q2 := X2.c2; have q3 := X2.fr 0; have q4 := X2.fr 1; have q5 := X2.fr 2
  have zz := X2.set (.bool false) (.slice none 0 0) (.slice none 0 0)
  have e0 := zz.c0; have e1 := zz.c1; have e2 := zz.c2
  have Y2 := Lib.hid X2; have bb' := Lib.hid bb
  clear zz X2 bb
  go_wp2_with fail
  refine bodyPost_ret (v := .tuple #[.agg #[.bool false, .slice none 0 0, .slice none 0 0], .int .i64 (3)]) (by simp [results, Tryz.results56, go_sem, e0, e1, e2]) rfl ?_
  exact (notR_no n1.out n2.out (ResPost.stored (rt_zero _) Y2.out bb'.out (by omega)))
 ·obtain ⟨hQ, h0, h1⟩ := smallQ_yes hq
  have e1 := Lib.hid (small_of hQ h0 h1)
  replace hQ := Lib.hid hQ
  clear hq
  have p00 := Xa.out.c0; have p01 := Xa.out.c1; have p02 := Xa.out.c2
  go_wp2_with fail
  clear p00 p01 p02
  refine ((smallP_any ab ap aq an ac am ae P Q _ Ra.out la.out).mono fun _ _ h => (show Says (.tuple #[.int .i64 P, .bool true]) _ _ _ by rw [e1.out] at h; exact h)).mono ?_
  rintro e v1 ⟨rfl, hb⟩
  replace bb := Lib.hid (below_then bb.out (Nat.le_refl _) hb); replace Xa := Lib.hid (Xa.out.later hb); replace X2 := Lib.hid (X2.out.later hb); replace Ra := Lib.hid (Ra.out.below hb)
  clear hb
  by_cases hP0 : P = 0
  ·subst hP0
   clear h0 h1 e1
   go_wp2_with fail
   refine (of_any 1 _ (by decide) (by decide)).mono ?_
   rintro e v2 ⟨db, dp, dn, dc, dq, dm, de, rfl, D, hb⟩
   replace bb := Lib.hid (below_then bb.out (Nat.le_refl _) hb); replace Xa := Lib.hid (Xa.out.later hb); replace X2 := Lib.hid (X2.out.later hb); replace Ra := Lib.hid (Ra.out.below hb)
   replace D := Lib.hid D
   clear hb
   replace X2 := X2.out
   replace bb := bb.out
   have q0 := X2.c0; have q1 := X2.c1; have q2 := X2.c2; have q3 := X2.fr 0; have q4 := X2.fr 1; have q5 := X2.fr 2
   have zz := X2.set (.bool db) (.slice dp dn dc) (.slice dq dm de)
   have e0 := zz.c0; have e1 := zz.c1; have e2 := zz.c2
   have Y2 := Lib.hid X2; have bb' := Lib.hid bb
   clear zz X2 bb
   go_wp2_with fail
   refine bodyPost_ret (v := .tuple #[.agg #[.bool db, .slice dp dn dc, .slice dq dm de], .int .i64 (0)]) (by simp [results, Tryz.results56, go_sem, e0, e1, e2]) rfl ?_
   exact (notR_zero rfl (ResPost.stored D.out Y2.out bb'.out (by omega)))
  by_cases hP1 : P = 1
  ·subst hP1
   clear h0 h1 e1 hP0
   go_wp2_with fail
   refine (of_any 0 _ (by decide) (by decide)).mono ?_
   rintro e v2 ⟨db, dp, dn, dc, dq, dm, de, rfl, D, hb⟩
   replace bb := Lib.hid (below_then bb.out (Nat.le_refl _) hb); replace Xa := Lib.hid (Xa.out.later hb); replace X2 := Lib.hid (X2.out.later hb); replace Ra := Lib.hid (Ra.out.below hb)
   replace D := Lib.hid D
   clear hb
   replace X2 := X2.out
   replace bb := bb.out
   have q0 := X2.c0; have q1 := X2.c1; have q2 := X2.c2; have q3 := X2.fr 0; have q4 := X2.fr 1; have q5 := X2.fr 2
   have zz := X2.set (.bool db) (.slice dp dn dc) (.slice dq dm de)
   have e0 := zz.c0; have e1 := zz.c1; have e2 := zz.c2
   have Y2 := Lib.hid X2; have bb' := Lib.hid bb
   clear zz X2 bb
   go_wp2_with fail
   refine bodyPost_ret (v := .tuple #[.agg #[.bool db, .slice dp dn dc, .slice dq dm de], .int .i64 (0)]) (by simp [results, Tryz.results56, go_sem, e0, e1, e2]) rfl ?_
   exact (notR_one ⟨rfl, hQ.out⟩ (ResPost.stored D.out Y2.out bb'.out (by omega)))
  have n1 := Lib.hid hP0; have n2 := Lib.hid (show ¬ (P = 1 ∧ Q = 1) from fun h => hP1 h.1)
  have d0 : (P != 0) = true := bne_iff_ne.2 hP0
  have d1 : (P != 1) = true := bne_iff_ne.2 hP1
  clear hP0 hP1 h0 h1 e1
  replace X2 := X2.out
  replace bb := bb.out
  have q0 := X2.c0; have q1 := X2.c1; have q2 := X2.c2; have q3 := X2.fr 0; have q4 := X2.fr 1; have q5 := X2.fr 2
  have zz := X2.set (.bool false) (.slice none 0 0) (.slice none 0 0)
  have e0 := zz.c0; have e1 := zz.c1; have e2 := zz.c2
  have Y2 := Lib.hid X2; have bb' := Lib.hid bb
  clear zz X2 bb
  go_wp2_with fail
  refine bodyPost_ret (v := .tuple #[.agg #[.bool false, .slice none 0 0, .slice none 0 0], .int .i64 (3)]) (by simp [results, Tryz.results56, go_sem, e0, e1, e2]) rfl ?_
  exact (notR_no n1.out n2.out (ResPost.stored (rt_zero _) Y2.out bb'.out (by omega)))
theorem fact_any (ab : Bool) (ap aq : Option Addr) (an ac am ae : Nat) (P : Int) (Q : Nat) (w : World) (Ra : Rt w ab ap an ac aq am ae P Q) (la : Low P Q) :
  Calls Tryz.prog 57 #[.agg #[.bool ab, .slice ap an ac, .slice aq am ae]] w (NumRes (factR P Q) w) := by
 replace Ra := Lib.hid Ra; replace la := Lib.hid la
 go_enter Tryz.func57, Tryz.ntmps57
 go_upto_region 1 with fail
 refine gen_wp (fun w' => Below w.heap.size w w' ∧ Box3 w' w.heap.size (.bool ab) (.slice ap an ac) (.slice aq am ae) ∧ Box3 w' (w.heap.size + 1) (.bool false) (.slice none 0 0) (.slice none 0 0))
  ⟨(((Below.refl _ _).alloc (Nat.le_refl _) _).alloc (by simp <;> omega) _), ((Box3.new _ _ _ _ rfl).alloc _), (Box3.new _ _ _ _ (by simp <;> omega))⟩ ?_
 rintro w0 ⟨bb, Xa, X2⟩
 replace Ra := Ra.out.below bb
 replace bb := Lib.hid bb; replace Xa := Lib.hid Xa; replace X2 := Lib.hid X2; replace Ra := Lib.hid Ra
 have p00 := Xa.out.c0; have p01 := Xa.out.c1; have p02 := Xa.out.c2
 go_wp2_with fail
 clear p00 p01 p02
 refine (int_any ab ap aq an ac am ae P Q _ Ra.out la.out).mono ?_
 rintro e v1 ⟨tb, to_, tn, tc, rfl, T, hb⟩
 replace bb := Lib.hid (below_then bb.out (Nat.le_refl _) hb); replace Xa := Lib.hid (Xa.out.later hb); replace X2 := Lib.hid (X2.out.later hb); replace Ra := Lib.hid (Ra.out.below hb)
 clear T hb
 by_cases hQ : Q = 1
 ·have hQd := Lib.hid (decide_eq_true hQ)
  rw [hQd.out]
  have hQ' := Lib.hid hQ
  clear hQ hQd
  go_upto_region 2 with fail
  refine gen_wp (fun w' => Below w.heap.size w w' ∧ Box3 w' w.heap.size (.bool ab) (.slice ap an ac) (.slice aq am ae) ∧ Box3 w' (w.heap.size + 1) (.bool false) (.slice none 0 0) (.slice none 0 0) ∧ Rt w' ab ap an ac aq am ae P Q)
   ⟨bb.out.alloc bb.out.size _, Xa.out.alloc _, X2.out.alloc _, Ra.out.alloc _⟩ ?_
  clear bb Xa X2 Ra
  rintro y1 ⟨bb, Xa, X2, Ra⟩
  replace bb := Lib.hid bb; replace Xa := Lib.hid Xa; replace X2 := Lib.hid X2; replace Ra := Lib.hid Ra
  by_cases hP : P < 0
  ·have hs := Lib.hid (Int.sign_eq_neg_one_of_neg hP)
   have hP' := Lib.hid hP
   clear hP
   have p00 := Xa.out.c0; have p01 := Xa.out.c1; have p02 := Xa.out.c2
   go_wp2_with fail
   clear p00 p01 p02
   refine ((sign_any ab ap aq an ac am ae P Q _ Ra.out la.out).mono fun _ _ h => (show Says (.int .i64 (-1)) _ _ _ by rw [hs.out] at h; exact h)).mono ?_
   rintro e v2 ⟨rfl, hb⟩
   replace bb := Lib.hid (below_then bb.out (Nat.le_refl _) hb); replace Xa := Lib.hid (Xa.out.later hb); replace X2 := Lib.hid (X2.out.later hb); replace Ra := Lib.hid (Ra.out.below hb)
   clear hb
   replace X2 := X2.out
   replace bb := bb.out
   have q0 := X2.c0; have q1 := X2.c1; have q2 := X2.c2; have q3 := X2.fr 0; have q4 := X2.fr 1; have q5 := X2.fr 2
   have zz := X2.set (.bool false) (.slice none 0 0) (.slice none 0 0)
   have e0 := zz.c0; have e1 := zz.c1; have e2 := zz.c2
   have Y2 := Lib.hid X2; have bb' := Lib.hid bb
   clear zz X2 bb
   go_wp2_with fail
   refine bodyPost_ret (v := .tuple #[.agg #[.bool false, .slice none 0 0, .slice none 0 0], .int .i64 (3)]) (by simp [results, Tryz.results57, go_sem, e0, e1, e2]) rfl ?_
   exact NumRes.of (ResPost.stored (rt_zero _) Y2.out bb'.out (by omega)) (if_neg (fun e => absurd e.2 (Int.not_le.2 hP'.out)))
  ·have hP0 : 0 ≤ P := by omega
   obtain ⟨sg, hsg, hsd⟩ : ∃ sg, Hid (P.sign = sg) ∧ decide (sg < 0) = false := ⟨_, Lib.hid rfl, decide_eq_false (by rw [← cmp_sgn]; unfold cmpI; split <;> (try split) <;> omega)⟩
   have hP0' := Lib.hid hP0
   clear hP hP0
   have p00 := Xa.out.c0; have p01 := Xa.out.c1; have p02 := Xa.out.c2
   go_wp2_with fail
   clear p00 p01 p02
   refine ((sign_any ab ap aq an ac am ae P Q _ Ra.out la.out).mono fun _ _ h => (show Says (.int .i64 (sg)) _ _ _ by rw [hsg.out] at h; exact h)).mono ?_
   rintro e v2 ⟨rfl, hb⟩
   replace bb := Lib.hid (below_then bb.out (Nat.le_refl _) hb); replace Xa := Lib.hid (Xa.out.later hb); replace X2 := Lib.hid (X2.out.later hb); replace Ra := Lib.hid (Ra.out.below hb)
   clear hb
   cases hq : smallQ P Q
   ·have e1 := Lib.hid (show smallR P Q = .tuple #[.int .i64 0, .bool false] from by unfold smallR smallP; rw [hq]; rfl)
    have hbig := Lib.hid (show ¬ P ≤ 200 from fun h => smallQ_not hq ⟨hQ'.out, by have := hP0'.out; omega, by omega⟩)
    clear hq
    have p00 := Xa.out.c0; have p01 := Xa.out.c1; have p02 := Xa.out.c2
    go_wp2_with fail
    clear p00 p01 p02
    refine ((smallP_any ab ap aq an ac am ae P Q _ Ra.out la.out).mono fun _ _ h => (show Says (.tuple #[.int .i64 0, .bool false]) _ _ _ by rw [e1.out] at h; exact h)).mono ?_
    rintro e v3 ⟨rfl, hb⟩
    replace bb := Lib.hid (below_then bb.out (Nat.le_refl _) hb); replace Xa := Lib.hid (Xa.out.later hb); replace X2 := Lib.hid (X2.out.later hb); replace Ra := Lib.hid (Ra.out.below hb)
    clear hb
    replace X2 := X2.out
    replace bb := bb.out
    have q0 := X2.c0; have q1 := X2.c1; have q2 := X2.c2; have q3 := X2.fr 0; have q4 := X2.fr 1; have q5 := X2.fr 2
    have zz := X2.set (.bool false) (.slice none 0 0) (.slice none 0 0)
    have e0 := zz.c0; have e1 := zz.c1; have e2 := zz.c2
    have Y2 := Lib.hid X2; have bb' := Lib.hid bb
    clear zz X2 bb
    go_wp2_with fail
    refine bodyPost_ret (v := .tuple #[.agg #[.bool false, .slice none 0 0, .slice none 0 0], .int .i64 (7)]) (by simp [results, Tryz.results57, go_sem, e0, e1, e2]) rfl ?_
    exact NumRes.of (ResPost.stored (rt_zero _) Y2.out bb'.out (by omega)) (by unfold factR; rw [if_pos ⟨hQ'.out, hP0'.out⟩, if_neg (by have := hbig.out; omega)])
   ·obtain ⟨_, h0, h1⟩ := smallQ_yes hq
    have e1 := Lib.hid (small_of hQ'.out h0 h1)
    clear hq
    have p00 := Xa.out.c0; have p01 := Xa.out.c1; have p02 := Xa.out.c2
    go_wp2_with fail
    clear p00 p01 p02
    refine ((smallP_any ab ap aq an ac am ae P Q _ Ra.out la.out).mono fun _ _ h => (show Says (.tuple #[.int .i64 P, .bool true]) _ _ _ by rw [e1.out] at h; exact h)).mono ?_
    rintro e v3 ⟨rfl, hb⟩
    replace bb := Lib.hid (below_then bb.out (Nat.le_refl _) hb); replace Xa := Lib.hid (Xa.out.later hb); replace X2 := Lib.hid (X2.out.later hb); replace Ra := Lib.hid (Ra.out.below hb)
    clear hb
    by_cases h200 : P ≤ 200
    ·have d2 : decide (200 < P) = false := decide_eq_false (by omega)
     clear e1 hsg hsd
     go_wp2_with fail
     refine (wOf_any 1 _ (by decide) (by decide)).mono ?_
     rintro e v4 ⟨tb, to_, tn, tc, rfl, T, hb⟩
     replace bb := Lib.hid (below_then bb.out (Nat.le_refl _) hb); replace Xa := Lib.hid (Xa.out.later hb); replace X2 := Lib.hid (X2.out.later hb); replace Ra := Lib.hid (Ra.out.below hb)
     have hgt := X2.out.lt
     replace T := Lib.hid T
     clear hb
     go_upto_region 8 with fail
     refine gen_wp (fun w' => Below w.heap.size w w' ∧ Box3 w' w.heap.size (.bool ab) (.slice ap an ac) (.slice aq am ae) ∧ Box3 w' (w.heap.size + 1) (.bool false) (.slice none 0 0) (.slice none 0 0) ∧ Box w' v4.heap.size (.bool tb) (.slice to_ tn tc) ∧ Rt w' ab ap an ac aq am ae P Q ∧ Right w' tb to_ tn tc 1)
      ⟨bb.out.alloc bb.out.size _, Xa.out.alloc _, X2.out.alloc _, Box.new _ _ _ rfl, Ra.out.alloc _, T.out.alloc _⟩ ?_
     clear bb Xa X2 Ra T
     rintro x4 ⟨bb, Xa, X2, XB, Ra, T⟩
     replace bb := Lib.hid bb; replace Xa := Lib.hid Xa; replace X2 := Lib.hid X2; replace XB := Lib.hid XB; replace Ra := Lib.hid Ra; replace T := Lib.hid T
     clear Ra Xa
     have hP0 := hP0'.out
     go_wp2_with fail
     go_loopw [9] (fun v wr => ∃ (j : Nat) (sb : Bool) (so : Option Addr) (sn sc : Nat), v = .int .i64 ((j : Int) + 1) ∧ 1 ≤ j ∧ ((j : Int) ≤ P ∨ j = 1) ∧ Box wr v4.heap.size (.bool sb) (.slice so sn sc) ∧ Right wr sb so sn sc (factZ j) ∧ Box3 wr (w.heap.size + 1) (.bool false) (.slice none 0 0) (.slice none 0 0) ∧ Below w.heap.size w wr) (fun v _ => 202 - (intOf v).toNat)
     case atStart => exact ⟨1, _, _, _, _, rfl, by omega, .inr rfl, XB.out, T.out, X2.out, bb.out⟩
     case round =>
      clear XB T X2 bb
      obtain ⟨j, sb, so, sn, sc, rfl, hj1, hj, XB, T, X2, bb⟩ := hrel
      have hj2 : (j : Int) ≤ 200 := by omega
      have lt1 := Lib.hid (factZ_lt (j := j) (by omega))
      by_cases hl : (j : Int) + 1 ≤ P
      ·have lt2 := Lib.hid (small_200 (n := j + 1) (by omega))
       go_upto_region 11 with fail
       have XB := XB.drew; have T := T.drew; have X2 := X2.drew; have bb := bb.drew
       have p0 := XB.c0; have p1 := XB.c1
       have s0 := True.intro
       go_region_with (first
        | (go_at_call 109; clear s0; refine (wOf_any ((j : Int) + 1) _ (by omega) (by omega)).mono ?_; rintro e w' ⟨ub, uo, un, uc, rfl, U, hb⟩; have bb := below_then bb (Nat.le_refl _) hb; have XB := XB.later hb; have X2 := X2.later hb; have T := T.below hb; clear hb; have p0 := XB.c0; have p1 := XB.c1)
        | (go_at_call 112; refine (wMul_any sb ub so uo sn sc un uc (factZ j) ((j : Int) + 1) _ (T.whole lt1.out (by omega)) (U.whole lt2.out (by omega))).mono ?_; rintro e w' ⟨mb, mo, mn, mc, rfl, M, hb⟩; have bb := below_then bb (Nat.le_refl _) hb; have XB := XB.later hb; have X2 := X2.later hb; clear hb; have q0 := XB.c0; have q1 := XB.c1; have q2 := XB.fr 0; have q3 := XB.fr 1))
       all_goals
        have bw := Lib.hid (below_set bb (show w.heap.size ≤ v4.heap.size by omega) (.bool mb) (.slice mo mn mc))
        have z2 := Lib.hid (X2.other (show w.heap.size + 1 ≠ v4.heap.size by omega) (.bool mb) (.slice mo mn mc))
        have zB := Lib.hid (XB.set (.bool mb) (.slice mo mn mc))
        have zM := Lib.hid (M.box XB (.bool mb) (.slice mo mn mc))
        go_wp2_with fail
        go_roundw
        case rel => exact ⟨j + 1, _, _, _, _, by go_num, by omega, .inl (by omega), zB.out, zM.out, z2.out, bw.out⟩
        case measure => simp [intOf]; omega
      ·have hR : Hid (factR P Q = (mkT (factZ j) 1, mkB (factZ j) 1, mkE (factZ j) 1)) := Lib.hid (by
        unfold factR
        rw [if_pos ⟨hQ'.out, hP0⟩, if_pos h200]
        have e : factZ P.toNat = factZ j := by
         rcases hj with h | h
         ·rw [show P.toNat = j by omega]
         ·subst h
          have : P = 0 ∨ P = 1 := by omega
          rcases this with rfl | rfl <;> rfl
        rw [e])
       have lt2 := Lib.hid (small_200 (n := 1) (by omega))
       go_upto_region 12 with fail
       have XB := XB.drew; have T := T.drew; have X2 := X2.drew; have bb := bb.drew
       have sb0 := True.intro
       go_region_held3 (fun w' => w'.cell? ⟨v4.heap.size, 0, none⟩ = some (.bool sb) ∧ w'.cell? ⟨v4.heap.size, 1, none⟩ = some (.slice so sn sc))
        (first | with_reducible exact ⟨XB.c0, XB.c1⟩ | with_reducible exact ⟨(XB.other3 (by omega) _ _ _).c0, (XB.other3 (by omega) _ _ _).c1⟩ | go_keep)
        (first
        | (go_at_call 109; clear sb0; refine (wOf_any 1 _ (by decide) (by decide)).mono ?_; rintro e w' ⟨ub, uo, un, uc, rfl, U, hb⟩; have bb := below_then bb (Nat.le_refl _) hb; have XB := XB.later hb; have X2 := X2.later hb; have T := T.below hb; clear hb; have sb1 := True.intro)
        | (go_at_call 111; clear sb1; refine (make_any sb ub so uo sn sc un uc (factZ j) 1 _ (T.whole lt1.out (by omega)) (U.whole lt2.out (by omega))).mono ?_; rintro e w' ⟨db, dp, dn, dc, dq, dm, de, rfl, D, hb⟩; have bb := below_then bb (Nat.le_refl _) hb; have XB := XB.later hb; have X2 := X2.later hb; have T := T.below hb; have U := U.below hb; clear hb; have q0 := X2.c0; have q1 := X2.c1; have q2 := X2.c2; have q3 := X2.fr 0; have q4 := X2.fr 1; have q5 := X2.fr 2; have sb2 := True.intro))
       have zz := X2.set (.bool db) (.slice dp dn dc) (.slice dq dm de)
       have e0 := zz.c0; have e1 := zz.c1; have e2 := zz.c2
       have Y2 := Lib.hid X2; have bb' := Lib.hid bb
       clear zz X2 bb
       go_wp2_with fail
       refine bodyPost_ret (v := .tuple #[.agg #[.bool db, .slice dp dn dc, .slice dq dm de], .int .i64 (mkE (factZ j) 1)]) (by simp [results, Tryz.results57, go_sem, e0, e1, e2]) rfl ?_
       exact NumRes.of (ResPost.stored D Y2.out bb'.out (by omega)) hR.out
    ·have d2 : decide (200 < P) = true := decide_eq_true (by omega)
     have hbig := Lib.hid h200
     clear e1 hsg hsd h200 h0 h1
     replace X2 := X2.out
     replace bb := bb.out
     have q0 := X2.c0; have q1 := X2.c1; have q2 := X2.c2; have q3 := X2.fr 0; have q4 := X2.fr 1; have q5 := X2.fr 2
     have zz := X2.set (.bool false) (.slice none 0 0) (.slice none 0 0)
     have e0 := zz.c0; have e1 := zz.c1; have e2 := zz.c2
     have Y2 := Lib.hid X2; have bb' := Lib.hid bb
     clear zz X2 bb
     go_wp2_with fail
     refine bodyPost_ret (v := .tuple #[.agg #[.bool false, .slice none 0 0, .slice none 0 0], .int .i64 (7)]) (by simp [results, Tryz.results57, go_sem, e0, e1, e2]) rfl ?_
     exact NumRes.of (ResPost.stored (rt_zero _) Y2.out bb'.out (by omega)) (by unfold factR; rw [if_pos ⟨hQ'.out, hP0'.out⟩, if_neg (by have := hbig.out; omega)])
 ·have hQd := Lib.hid (decide_eq_false hQ)
  rw [hQd.out]
  have hQ' := Lib.hid hQ
  clear hQ hQd
  go_upto_region 2 with fail
  refine gen_wp (fun w' => Below w.heap.size w w' ∧ Box3 w' w.heap.size (.bool ab) (.slice ap an ac) (.slice aq am ae) ∧ Box3 w' (w.heap.size + 1) (.bool false) (.slice none 0 0) (.slice none 0 0) ∧ Rt w' ab ap an ac aq am ae P Q)
   ⟨bb.out.alloc bb.out.size _, Xa.out.alloc _, X2.out.alloc _, Ra.out.alloc _⟩ ?_
  clear bb Xa X2 Ra
  rintro y1 ⟨bb, Xa, X2, Ra⟩
  replace bb := Lib.hid bb; replace Xa := Lib.hid Xa; replace X2 := Lib.hid X2; replace Ra := Lib.hid Ra
  replace X2 := X2.out
  replace bb := bb.out
  have q0 := X2.c0; have q1 := X2.c1; have q2 := X2.c2; have q3 := X2.fr 0; have q4 := X2.fr 1; have q5 := X2.fr 2
  have zz := X2.set (.bool false) (.slice none 0 0) (.slice none 0 0)
  have e0 := zz.c0; have e1 := zz.c1; have e2 := zz.c2
  have Y2 := Lib.hid X2; have bb' := Lib.hid bb
  clear zz X2 bb
  go_wp2_with fail
  refine bodyPost_ret (v := .tuple #[.agg #[.bool false, .slice none 0 0, .slice none 0 0], .int .i64 (3)]) (by simp [results, Tryz.results57, go_sem, e0, e1, e2]) rfl ?_
  exact NumRes.of (ResPost.stored (rt_zero _) Y2.out bb'.out (by omega)) (if_neg (fun e => hQ'.out e.1))
theorem numP_not (ab : Bool) (ap aq : Option Addr) (an ac am ae : Nat) (P : Int) (Q : Nat) (w : World) (Ra : Rt w ab ap an ac aq am ae P Q) (la : Low P Q) :
  Calls Tryz.prog 17 #[.int .i64 126, .agg #[.bool ab, .slice ap an ac, .slice aq am ae]] w (NumRes (notR P Q) w) := by
 replace Ra := Lib.hid Ra; replace la := Lib.hid la
 go_enter Tryz.func17, Tryz.ntmps17
 go_upto_region 1 with fail
 refine gen_wp (fun w' => Below w.heap.size w w' ∧ Box3 w' w.heap.size (.bool ab) (.slice ap an ac) (.slice aq am ae) ∧ Box3 w' (w.heap.size + 1) (.bool false) (.slice none 0 0) (.slice none 0 0))
  ⟨(((Below.refl _ _).alloc (Nat.le_refl _) _).alloc (by simp <;> omega) _), ((Box3.new _ _ _ _ rfl).alloc _), (Box3.new _ _ _ _ (by simp <;> omega))⟩ ?_
 rintro w0 ⟨bb, Xa, X2⟩
 replace Ra := Ra.out.below bb
 replace bb := Lib.hid bb; replace Xa := Lib.hid Xa; replace X2 := Lib.hid X2; replace Ra := Lib.hid Ra
 have p00 := Xa.out.c0; have p01 := Xa.out.c1; have p02 := Xa.out.c2
 go_wp2_with fail
 clear p00 p01 p02
 refine (not_any ab ap aq an ac am ae P Q _ Ra.out la.out).mono ?_
 rintro e v1 ⟨db, dp, dn, dc, dq, dm, de, rfl, D, hb⟩
 replace bb := Lib.hid (below_then bb.out (Nat.le_refl _) hb); replace Xa := Lib.hid (Xa.out.later hb); replace X2 := Lib.hid (X2.out.later hb); replace Ra := Lib.hid (Ra.out.below hb)
 replace D := Lib.hid D
 clear hb
 replace X2 := X2.out
 replace bb := bb.out
 have q0 := X2.c0; have q1 := X2.c1; have q2 := X2.c2; have q3 := X2.fr 0; have q4 := X2.fr 1; have q5 := X2.fr 2
 have zz := X2.set (.bool db) (.slice dp dn dc) (.slice dq dm de)
 have e0 := zz.c0; have e1 := zz.c1; have e2 := zz.c2
 have Y2 := Lib.hid X2; have bb' := Lib.hid bb
 clear zz X2 bb
 go_wp2_with fail
 refine bodyPost_ret (v := .tuple #[.agg #[.bool db, .slice dp dn dc, .slice dq dm de], .int .i64 ((notR P Q).2.2)]) (by simp [results, Tryz.results17, go_sem, e0, e1, e2]) rfl ?_
 exact (ResPost.stored D.out Y2.out bb'.out (by omega))
theorem numP_fact (ab : Bool) (ap aq : Option Addr) (an ac am ae : Nat) (P : Int) (Q : Nat) (w : World) (Ra : Rt w ab ap an ac aq am ae P Q) (la : Low P Q) :
  Calls Tryz.prog 17 #[.int .i64 33, .agg #[.bool ab, .slice ap an ac, .slice aq am ae]] w (NumRes (factR P Q) w) := by
 replace Ra := Lib.hid Ra; replace la := Lib.hid la
 go_enter Tryz.func17, Tryz.ntmps17
 go_upto_region 1 with fail
 refine gen_wp (fun w' => Below w.heap.size w w' ∧ Box3 w' w.heap.size (.bool ab) (.slice ap an ac) (.slice aq am ae) ∧ Box3 w' (w.heap.size + 1) (.bool false) (.slice none 0 0) (.slice none 0 0))
  ⟨(((Below.refl _ _).alloc (Nat.le_refl _) _).alloc (by simp <;> omega) _), ((Box3.new _ _ _ _ rfl).alloc _), (Box3.new _ _ _ _ (by simp <;> omega))⟩ ?_
 rintro w0 ⟨bb, Xa, X2⟩
 replace Ra := Ra.out.below bb
 replace bb := Lib.hid bb; replace Xa := Lib.hid Xa; replace X2 := Lib.hid X2; replace Ra := Lib.hid Ra
 have p00 := Xa.out.c0; have p01 := Xa.out.c1; have p02 := Xa.out.c2
 go_wp2_with fail
 clear p00 p01 p02
 refine (fact_any ab ap aq an ac am ae P Q _ Ra.out la.out).mono ?_
 rintro e v1 ⟨db, dp, dn, dc, dq, dm, de, rfl, D, hb⟩
 replace bb := Lib.hid (below_then bb.out (Nat.le_refl _) hb); replace Xa := Lib.hid (Xa.out.later hb); replace X2 := Lib.hid (X2.out.later hb); replace Ra := Lib.hid (Ra.out.below hb)
 replace D := Lib.hid D
 clear hb
 replace X2 := X2.out
 replace bb := bb.out
 have q0 := X2.c0; have q1 := X2.c1; have q2 := X2.c2; have q3 := X2.fr 0; have q4 := X2.fr 1; have q5 := X2.fr 2
 have zz := X2.set (.bool db) (.slice dp dn dc) (.slice dq dm de)
 have e0 := zz.c0; have e1 := zz.c1; have e2 := zz.c2
 have Y2 := Lib.hid X2; have bb' := Lib.hid bb
 clear zz X2 bb
 go_wp2_with fail
 refine bodyPost_ret (v := .tuple #[.agg #[.bool db, .slice dp dn dc, .slice dq dm de], .int .i64 ((factR P Q).2.2)]) (by simp [results, Tryz.results17, go_sem, e0, e1, e2]) rfl ?_
 exact (ResPost.stored D.out Y2.out bb'.out (by omega))
theorem numberP_any (f : Int) (ab : Bool) (ap aq : Option Addr) (an ac am ae : Nat) (P : Int) (Q : Nat) (w : World) (Ra : Rt w ab ap an ac aq am ae P Q) (la : Low P Q) :
  Calls Tryz.prog 17 #[.int .i64 f, .agg #[.bool ab, .slice ap an ac, .slice aq am ae]] w (NumRes (numR f P Q) w) := by
 by_cases h43 : f = 43
 ·subst h43; exact (numP_plus ab ap aq an ac am ae P Q w Ra la).mono fun _ _ h => (show NumRes (numR 43 P Q) w _ _ from by rw [show numR 43 P Q = _ from (by unfold numR; rw [if_pos rfl])]; exact h)
 by_cases h45 : f = 45
 ·subst h45; exact (numP_minus ab ap aq an ac am ae P Q w Ra la).mono fun _ _ h => (show NumRes (numR 45 P Q) w _ _ from by rw [show numR 45 P Q = _ from (by unfold numR; rw [if_neg (by decide), if_pos rfl])]; exact h)
 by_cases h215 : f = 215
 ·subst h215; exact (numP_times ab ap aq an ac am ae P Q w Ra la).mono fun _ _ h => (show NumRes (numR 215 P Q) w _ _ from by rw [show numR 215 P Q = _ from (by unfold numR; rw [if_neg (by decide), if_neg (by decide), if_pos rfl])]; exact h)
 by_cases h247 : f = 247
 ·subst h247; exact (numP_div ab ap aq an ac am ae P Q w Ra la).mono fun _ _ h => (show NumRes (numR 247 P Q) w _ _ from by rw [show numR 247 P Q = _ from (by unfold numR; rw [if_neg (by decide), if_neg (by decide), if_neg (by decide), if_pos rfl])]; exact h)
 by_cases h8968 : f = 8968
 ·subst h8968; exact (numP_ceil ab ap aq an ac am ae P Q w Ra la).mono fun _ _ h => (show NumRes (numR 8968 P Q) w _ _ from by rw [show numR 8968 P Q = _ from (by unfold numR; rw [if_neg (by decide), if_neg (by decide), if_neg (by decide), if_neg (by decide), if_pos rfl])]; exact h)
 by_cases h8970 : f = 8970
 ·subst h8970; exact (numP_floor ab ap aq an ac am ae P Q w Ra la).mono fun _ _ h => (show NumRes (numR 8970 P Q) w _ _ from by rw [show numR 8970 P Q = _ from (by unfold numR; rw [if_neg (by decide), if_neg (by decide), if_neg (by decide), if_neg (by decide), if_neg (by decide), if_pos rfl])]; exact h)
 by_cases h124 : f = 124
 ·subst h124; exact (numP_abs ab ap aq an ac am ae P Q w Ra la).mono fun _ _ h => (show NumRes (numR 124 P Q) w _ _ from by rw [show numR 124 P Q = _ from (by unfold numR; rw [if_neg (by decide), if_neg (by decide), if_neg (by decide), if_neg (by decide), if_neg (by decide), if_neg (by decide), if_pos rfl])]; exact h)
 by_cases h126 : f = 126
 ·subst h126; exact (numP_not ab ap aq an ac am ae P Q w Ra la).mono fun _ _ h => (show NumRes (numR 126 P Q) w _ _ from by rw [show numR 126 P Q = _ from (by unfold numR; rw [if_neg (by decide), if_neg (by decide), if_neg (by decide), if_neg (by decide), if_neg (by decide), if_neg (by decide), if_neg (by decide), if_pos rfl])]; exact h)
 by_cases h33 : f = 33
 ·subst h33; exact (numP_fact ab ap aq an ac am ae P Q w Ra la).mono fun _ _ h => (show NumRes (numR 33 P Q) w _ _ from by rw [show numR 33 P Q = _ from (by unfold numR; rw [if_neg (by decide), if_neg (by decide), if_neg (by decide), if_neg (by decide), if_neg (by decide), if_neg (by decide), if_neg (by decide), if_neg (by decide), if_pos rfl])]; exact h)
 exact (numP_none f ab ap aq an ac am ae P Q w Ra la h43 h45 h215 h247 h8968 h8970 h124 h126 h33).mono fun _ _ h => (show NumRes (numR f P Q) w _ _ from by rw [show numR f P Q = (0, 0, 8) from by unfold numR; rw [if_neg h43, if_neg h45, if_neg h215, if_neg h247, if_neg h8968, if_neg h8970, if_neg h124, if_neg h126, if_neg h33]]; exact h)
end Go.Proofs.YtaepelipkkmeaaaGreat
namespace Go.Proofs.YtaepelipkkmeaaaGreat
open Go.RowKit Num
attribute [local go_sem ↓] Go.wp_at_zero Go.wp_at_succ
def oneCE (f : Int) (c : CellD) : Int := if c.K = 0 then (numR f (topF c.N) (botF c.N)).2.2 else if c.K = 1 then 3 else oneE f (c.sub 0)
noncomputable def oneCD (f : Int) (c : CellD) : CellD := ⟨c.L, c.K, oneN f c.K c.N, c.C, c.k, fun j => oneT f (c.sub j)⟩
def OneOfP (f : Int) (A : Tree) : Prop := ∀ (Q0 : Nat → Prop) (c0 c1 c2 : Value) (w : World), ArrQ w Q0 A c0 c1 c2 → Calls Tryz.prog 24 #[.int .i64 f, .agg #[c0, c1, c2]] w (ResQ (oneE f A) (oneT f A) Q0 w)
def OneCellP (f : Int) (c : CellD) : Prop := ∀ (Q0 : Nat → Prop) (e : Nat → Value) (w : World), CellNQ w Q0 c e → Calls Tryz.prog 80 #[.int .i64 f, .agg #[e 0, e 1, e 2, e 3, e 4, e 5, e 6]] w (CellResQ (oneCE f c) (oneCD f c) Q0 w)
theorem zeroF_iff {N : NumF} (h : zeroF N = true) : N.neg = false ∧ N.an = 0 ∧ N.am = 0 := by
 unfold zeroF at h
 simp only [Bool.and_eq_true, Bool.not_eq_true', decide_eq_true_eq] at h
 exact ⟨h.1.1, h.1.2, h.2⟩
theorem num_none (w : World) (Q : Nat → Prop) {N : NumF} (h : zeroF N = true) : NumQ w Q N (.bool false) (.slice none 0 0) (.slice none 0 0) := by
 obtain ⟨h0, h1, h2⟩ := zeroF_iff h
 exact ⟨by rw [h0], ⟨none, 0, by rw [h1], ⟨by omega, by decide, by omega⟩, .inl h1, fun j hj => by omega⟩, ⟨none, 0, by rw [h2], ⟨by omega, by decide, by omega⟩, .inl h2, fun j hj => by omega⟩⟩
theorem oneCell_of (f : Int) (c : CellD) (s : Bool) (d : Nat) (R : Prop) (hf : f ∈ onesZ) (hc : CellT c.K c.N c.C c.k s d R) (hsub : c.K = 2 → OneOfP f (c.sub 0)) : OneCellP f c := by
 intro Q0 e w h
 replace h : CellNQ w (fun b => Q0 b ∧ b < w.heap.size) c e := CellQ.keep h (fun _ _ _ => rfl) (fun b hq hb => ⟨hq, hb⟩) fun _ _ _ _ hd => ArrQ.keep (fun _ _ _ => rfl) (fun b hq hb => ⟨hq, hb⟩) _ _ _ _ hd
 obtain ⟨L, K, N, C, k, sub⟩ := c
 obtain ⟨bo, co, io, bc, cc, kc, hv, hL, hK, hN, hC, hk, hrow⟩ := h.form
 rw [← hv]
 replace hL : IsL L := hL
 have hk1 := hk.1; have hk2 := hk.2.1
 replace hc : CellT K N C k s d R := hc
 obtain ⟨EE, hEE⟩ : ∃ EE, EE = oneCE f ⟨L, K, N, C, k, sub⟩ := ⟨_, rfl⟩
 obtain ⟨DD, hDD⟩ : ∃ DD, DD = oneCD f ⟨L, K, N, C, k, sub⟩ := ⟨_, rfl⟩
 have hEE' := Lib.hid hEE; have hDD' := Lib.hid hDD
 rw [← hEE, ← hDD]
 have hL' := Lib.hid hL; have hN' := Lib.hid hN; have hC' := Lib.hid hC; have hK' := Lib.hid hK; have hk' := Lib.hid hk; have hrow' := Lib.hid hrow; have hsub' := Lib.hid hsub; have hf' := Lib.hid hf
 clear h hv hL hK hN hC hk hrow hsub hEE hDD hf
 go_enter Tryz.func80, Tryz.ntmps80
 go_upto_region 1 with fail
 refine told_wp (fun w' => Below w.heap.size w w' ∧ Box7 w' w.heap.size (.int .u64 L) (.int .i64 K) (.bool N.neg) (.slice bo N.an bc) (.slice co N.am cc) (.int .i64 C) (.slice io k kc) ∧ Box7 w' (w.heap.size + 1) (.int .u64 0) (.int .i64 0) (.bool false) (.slice none 0 0) (.slice none 0 0) (.int .i64 0) (.slice none 0 0) ∧ Shut w' (w.heap.size + 1))
  ⟨((Below.refl _ _).alloc (Nat.le_refl _) _).alloc (by simp) _, (Box7.new _ _ _ _ _ _ _ _ rfl).alloc _, Box7.new _ _ _ _ _ _ _ _ (by simp), by have := shut7 (w := w.alloc (.cells #[.int .u64 L, .int .i64 K, .bool N.neg, .slice bo N.an bc, .slice co N.am cc, .int .i64 C, .slice io k kc] 65)) (a := 0) (k := 0) (c := 0) (b := false) (p := none) (q := none) (r := none) (n := 0) (nc := 0) (m := 0) (mc := 0) (l := 0) (lc := 0) (t := 65); simpa using this⟩ ?_
 rintro w1 ⟨bb, X, Z, sz⟩
 have x0 := X.c0; have x1 := X.c1; have x2 := X.c2; have x3 := X.c3; have x4 := X.c4; have x5 := X.c5; have x6 := X.c6
 have hcall := Lib.hid (isBox_any L K C N.neg bo co io N.an bc N.am cc k kc w1 hk1 hk2)
 have bb' := Lib.hid bb; have X' := Lib.hid X; have Z' := Lib.hid Z; have sz' := Lib.hid sz
 clear bb X Z sz
 go_wp2_with fail
 refine hcall.out.mono ?_
 rintro e2 w2 ⟨rfl, hb⟩
 replace bb' := Lib.hid (below_then bb'.out (Nat.le_refl _) hb); replace X' := Lib.hid (X'.out.later hb); replace Z' := Lib.hid (Z'.out.later hb); replace sz' := Lib.hid (sz'.out.later hb)
 clear hb hcall x0 x1 x2 x3 x4 x5 x6
 have x0 := X'.out.c0; have x1 := X'.out.c1; have x2 := X'.out.c2; have x3 := X'.out.c3; have x4 := X'.out.c4; have x6 := X'.out.c6
 rcases hc with ⟨hK0, hC0, hk0, hR⟩ | ⟨hK1, hz, hk0, _⟩ | ⟨hK2, hz, hC0, hk1', _, _, _⟩
 ·subst hK0
  subst hC0
  subst hk0
  rw [isBoxB_not (by decide)]
  have lw := hR.low
  have R := (show NumP w2 N (.bool N.neg) (.slice bo N.an bc) (.slice co N.am cc) from (hN'.out.keep (Q' := fun _ => True) (fun b hq _ => bb'.out.block b hq.2) (fun _ _ _ => trivial)).plain').rtS hR
  have hfit := Lib.hid (fit_one f lw)
  obtain ⟨r, hrr⟩ : ∃ r, r = numR f (topF N) (botF N) := ⟨_, rfl⟩
  have hrr' := Lib.hid hrr
  have hcall := numberP_any f N.neg bo co N.an bc N.am cc (topF N) (botF N) w2 R lw
  rw [← hrr] at hcall hfit
  replace hcall := Lib.hid hcall
  have hEr := Lib.hid (show EE = r.2.2 from by rw [hEE'.out]; show (if (0 : Int) = 0 then _ else _) = _; rw [if_pos rfl, hrr])
  clear R lw hrr
  go_wp2_with fail
  refine hcall.out.mono ?_
  rintro e3 w3 ⟨nb, po, pn, pc, qo, qn, qc, rfl, R2, hb3⟩
  obtain ⟨rT, rB, rE⟩ := r
  replace bb' := Lib.hid (below_then bb'.out (Nat.le_refl _) hb3); replace X' := Lib.hid (X'.out.later hb3); replace Z' := Lib.hid (Z'.out.later hb3); replace sz' := Lib.hid (sz'.out.later hb3)
  have hR2 := Lib.hid R2
  clear hcall hb3 R2 x0 x1 x2 x3 x4 x6
  go_upto_region 6 with fail
  refine told_wp (fun w' => Below w.heap.size w w' ∧ Box7 w' w.heap.size (.int .u64 L) (.int .i64 0) (.bool N.neg) (.slice bo N.an bc) (.slice co N.am cc) (.int .i64 0) (.slice io 0 kc) ∧ Box7 w' (w.heap.size + 1) (.int .u64 0) (.int .i64 0) (.bool false) (.slice none 0 0) (.slice none 0 0) (.int .i64 0) (.slice none 0 0) ∧ Shut w' (w.heap.size + 1) ∧ Box3 w' w3.heap.size (.bool nb) (.slice po pn pc) (.slice qo qn qc) ∧ Rt w' nb po pn pc qo qn qc rT rB)
   ⟨bb'.out.alloc bb'.out.size _, X'.out.alloc _, Z'.out.alloc _, sz'.out.later ((Below.refl _ _).alloc (Nat.le_refl _) _), Box3.new _ _ _ _ rfl, hR2.out.alloc _⟩ ?_
  clear bb' X' Z' sz' hR2
  rintro w4 ⟨bb, X, Z, sz, Y, R2⟩
  have x0 := X.c0; have y0 := Y.c0; have y1 := Y.c1; have y2 := Y.c2
  have bb' := Lib.hid bb; have Z' := Lib.hid Z; have sz' := Lib.hid sz; have hR2 := Lib.hid R2
  clear bb X Z sz Y R2
  by_cases hE0 : rE = 0
  ·subst hE0
   have hlow : Hid (Low rT rB) := Lib.hid (by rcases hfit.out with ⟨_, hl⟩ | ⟨hn, _⟩; exact hl; exact absurd rfl hn)
   have hcall := Lib.hid (numbered_ok L pn pc qn qc nb po qo w4)
   go_wp2_with fail
   refine hcall.out.mono ?_
   rintro e5 w5 ⟨rfl, hb5⟩
   replace bb' := Lib.hid (below_then bb'.out (Nat.le_refl _) hb5); replace Z' := Lib.hid (Z'.out.later hb5); replace sz' := Lib.hid (sz'.out.later hb5)
   have hNP := Lib.hid ((hR2.out.below hb5).numP hlow.out.2.2.1 hlow.out.2.2.2).limbs
   clear hcall hb5 x0 y0 y1 y2 hR2
   have Zz := Z'.out; have bz := bb'.out
   have f0 := Zz.fr 0; have d0 := Zz.c0; have f1 := Zz.fr 1; have d1 := Zz.c1; have f2 := Zz.fr 2; have d2 := Zz.c2; have f3 := Zz.fr 3; have d3 := Zz.c3; have f4 := Zz.fr 4; have d4 := Zz.c4; have f5 := Zz.fr 5; have d5 := Zz.c5; have f6 := Zz.fr 6; have d6 := Zz.c6
   have z5 := Zz.setAll (.int .u64 L) (.int .i64 0) (.bool nb) (.slice po pn pc) (.slice qo qn qc) (.int .i64 0) (.slice none 0 0)
   have b5 := Lib.hid (below_setAll bz (B := w.heap.size + 1) (by omega) (.int .u64 L) (.int .i64 0) (.bool nb) (.slice po pn pc) (.slice qo qn qc) (.int .i64 0) (.slice none 0 0))
   have g0 := z5.c0; have g1 := z5.c1; have g2 := z5.c2; have g3 := z5.c3; have g4 := z5.c4; have g5 := z5.c5; have g6 := z5.c6
   clear z5 Zz bz 
   go_wp2_with fail
   refine bodyPost_ret (v := .tuple #[.agg #[.int .u64 L, .int .i64 0, .bool nb, .slice po pn pc, .slice qo qn qc, .int .i64 0, .slice none 0 0], .int .i64 (0)]) (by simp [results, Tryz.results80, go_sem, g0, g1, g2, g3, g4, g5, g6]) rfl ?_
   have hD : oneCD f ⟨L, 0, N, 0, 0, sub⟩ = DD := hDD'.out.symm
   have hE2 : EE = 0 := hEr.out
   rw [hE2, ← hD]
   refine ⟨⟨fun q => [Value.int .u64 L, .int .i64 0, .bool nb, .slice po pn pc, .slice qo qn qc, .int .i64 0, .slice none 0 0].getD q undef, _, rfl, CellNQ.made rfl hL'.out rfl hK'.out ?_ rfl hC'.out rfl isn_zero (.inl rfl), fun _ => rfl⟩, b5.out⟩
   show NumQ _ _ (oneN f 0 N) _ _ _
   rw [show oneN f 0 N = numF rT rB from by unfold oneN; rw [if_pos rfl, ← hrr'.out]]
   exact hNP.out.keep (fun b hq _ => heap_set7' (sz'.out.ne hq) _ _ _ _ _ _ _) (fun b hq _ => Prov.limb hq bb'.out)
  ·have hcall := Lib.hid (numbered_no L pn pc qn qc nb po qo rE hE0 w4)
   have hE0' := Lib.hid hE0
   clear hE0
   go_wp2_with fail
   refine hcall.out.mono ?_
   rintro e5 w5 ⟨rfl, hb5⟩
   replace bb' := Lib.hid (below_then bb'.out (Nat.le_refl _) hb5); replace Z' := Lib.hid (Z'.out.later hb5)
   clear hcall hb5 x0 y0 y1 y2 hR2
   have Zz := Z'.out; have bz := bb'.out
   have f0 := Zz.fr 0; have d0 := Zz.c0; have f1 := Zz.fr 1; have d1 := Zz.c1; have f2 := Zz.fr 2; have d2 := Zz.c2; have f3 := Zz.fr 3; have d3 := Zz.c3; have f4 := Zz.fr 4; have d4 := Zz.c4; have f5 := Zz.fr 5; have d5 := Zz.c5; have f6 := Zz.fr 6; have d6 := Zz.c6
   have z5 := Zz.setAll (.int .u64 0) (.int .i64 0) (.bool false) (.slice none 0 0) (.slice none 0 0) (.int .i64 0) (.slice none 0 0)
   have b5 := Lib.hid (below_setAll bz (B := w.heap.size + 1) (by omega) (.int .u64 0) (.int .i64 0) (.bool false) (.slice none 0 0) (.slice none 0 0) (.int .i64 0) (.slice none 0 0))
   have g0 := z5.c0; have g1 := z5.c1; have g2 := z5.c2; have g3 := z5.c3; have g4 := z5.c4; have g5 := z5.c5; have g6 := z5.c6
   clear z5 Zz bz 
   go_wp2_with fail
   refine bodyPost_ret (v := .tuple #[.agg #[.int .u64 0, .int .i64 0, .bool false, .slice none 0 0, .slice none 0 0, .int .i64 0, .slice none 0 0], .int .i64 (rE)]) (by simp [results, Tryz.results80, go_sem, g0, g1, g2, g3, g4, g5, g6]) rfl ?_
   have hE2 : EE = rE := hEr.out
   rw [hE2]
   exact cell_err hE0'.out b5.out
 ·subst hK1
  rw [isBoxB_not (by decide)]
  have hE2 := Lib.hid (show EE = 3 from by rw [hEE'.out]; show (if (1 : Int) = 0 then _ else if (1 : Int) = 1 then _ else _) = _; rw [if_neg (by decide), if_pos rfl])
  have Zz := Z'.out; have bz := bb'.out
  have f0 := Zz.fr 0; have d0 := Zz.c0; have f1 := Zz.fr 1; have d1 := Zz.c1; have f2 := Zz.fr 2; have d2 := Zz.c2; have f3 := Zz.fr 3; have d3 := Zz.c3; have f4 := Zz.fr 4; have d4 := Zz.c4; have f5 := Zz.fr 5; have d5 := Zz.c5; have f6 := Zz.fr 6; have d6 := Zz.c6
  have z5 := Zz.setAll (.int .u64 0) (.int .i64 0) (.bool false) (.slice none 0 0) (.slice none 0 0) (.int .i64 0) (.slice none 0 0)
  have b5 := Lib.hid (below_setAll bz (B := w.heap.size + 1) (by omega) (.int .u64 0) (.int .i64 0) (.bool false) (.slice none 0 0) (.slice none 0 0) (.int .i64 0) (.slice none 0 0))
  have g0 := z5.c0; have g1 := z5.c1; have g2 := z5.c2; have g3 := z5.c3; have g4 := z5.c4; have g5 := z5.c5; have g6 := z5.c6
  clear z5 Zz bz 
  go_wp2_with fail
  refine bodyPost_ret (v := .tuple #[.agg #[.int .u64 0, .int .i64 0, .bool false, .slice none 0 0, .slice none 0 0, .int .i64 0, .slice none 0 0], .int .i64 (3)]) (by simp [results, Tryz.results80, go_sem, g0, g1, g2, g3, g4, g5, g6]) rfl ?_
  rw [hE2.out]
  exact cell_err (by decide) b5.out
 ·subst hK2
  subst hC0
  subst hk1'
  rw [isBoxB_yes rfl]
  rcases hrow'.out with h0 | ⟨b', o', rfl, hbQ, hrows⟩
  ·omega
  obtain ⟨u0, u1, u2, r0, r1, r2, r3⟩ := hrows 0 (by omega)
  rw [Nat.zero_mul, Nat.add_zero] at r0 r1 r2
  have s0 := cell_below r0 bb'.out; have s1 := cell_below r1 bb'.out; have s2 := cell_below r2 bb'.out
  have hA := ArrQ.keep (Q' := fun b => Q0 b ∧ b < w.heap.size) (fun b hq _ => bb'.out.block b hq.2) (fun b hq _ => hq) _ _ _ _ r3
  obtain ⟨S', n', nc', m', mc', ao', co', e0, e1, e2⟩ := hA.form
  subst e0; subst e1; subst e2
  obtain ⟨rE, hrE⟩ : ∃ rE, rE = oneE f (sub 0) := ⟨_, rfl⟩
  obtain ⟨rT, hrT⟩ : ∃ rT, rT = oneT f (sub 0) := ⟨_, rfl⟩
  have hrE' := Lib.hid hrE; have hrT' := Lib.hid hrT
  have hcall := hsub'.out rfl _ _ _ _ w2 hA
  replace hcall : Calls Tryz.prog 24 #[.int .i64 f, .agg #[.int .u64 S', .slice ao' n' nc', .slice co' m' mc']] w2 (ResQ (oneE f (sub 0)) (oneT f (sub 0)) (fun b => Q0 b ∧ b < w.heap.size) w2) := hcall
  rw [← hrE, ← hrT] at hcall
  replace hcall := Lib.hid hcall
  have hEr := Lib.hid (show EE = rE from by rw [hEE'.out]; show (if (2 : Int) = 0 then _ else if (2 : Int) = 1 then _ else _) = _; rw [if_neg (by decide), if_neg (by decide), hrE])
  clear hrows r0 r1 r2 r3 hA hrE hrT
  go_wp2_with fail
  refine hcall.out.mono ?_
  rintro e3 w3 ⟨⟨d0, d1, d2, rfl, hres⟩, hb3⟩
  obtain ⟨S5, n5, nc5, m5, mc5, ao5, co5, e0, e1, e2⟩ := hres.form
  subst e0; subst e1; subst e2
  have hsz2 := Lib.hid sz'.out
  have hbb2 := Lib.hid bb'.out
  replace bb' := Lib.hid (below_then bb'.out (Nat.le_refl _) hb3); replace X' := Lib.hid (X'.out.later hb3); replace Z' := Lib.hid (Z'.out.later hb3); replace sz' := Lib.hid (sz'.out.later hb3)
  have hres' := Lib.hid hres
  clear hcall hb3 hres x0 x1 x2 x3 x4 x6 s0 s1 s2
  go_upto_region 3 with fail
  refine told_wp (fun w' => Below w.heap.size w w' ∧ Box7 w' w.heap.size (.int .u64 L) (.int .i64 2) (.bool N.neg) (.slice bo N.an bc) (.slice co N.am cc) (.int .i64 0) (.slice (some ⟨b', o', none⟩) 1 kc) ∧ Box7 w' (w.heap.size + 1) (.int .u64 0) (.int .i64 0) (.bool false) (.slice none 0 0) (.slice none 0 0) (.int .i64 0) (.slice none 0 0) ∧ Box3 w' w3.heap.size (.int .u64 S5) (.slice ao5 n5 nc5) (.slice co5 m5 mc5) ∧ ArrQ w' (Prov (fun b => Q0 b ∧ b < w.heap.size) w2) (resT rE rT) (.int .u64 S5) (.slice ao5 n5 nc5) (.slice co5 m5 mc5))
   ⟨bb'.out.alloc bb'.out.size _, X'.out.alloc _, Z'.out.alloc _, Box3.new _ _ _ _ rfl, ArrQ.laterQ hres'.out ((Below.refl _ _).alloc (Nat.le_refl _) _)⟩ ?_
  clear bb' X' Z' sz' hres'
  rintro w4 ⟨bb, X, Z, Y, hT⟩
  have x0 := X.c0; have y0 := Y.c0; have y1 := Y.c1; have y2 := Y.c2
  have bb' := Lib.hid bb; have Z' := Lib.hid Z; have hT' := Lib.hid hT
  clear bb X Z Y hT
  by_cases hE0 : rE = 0
  ·subst hE0
   have hcall := Lib.hid (boxed_ok L S5 n5 nc5 m5 mc5 ao5 co5 w4)
   go_wp2_with fail
   refine hcall.out.mono ?_
   rintro e5 w5 ⟨B, rfl, hB, ⟨g0, g1, g2⟩, hb5⟩
   have hBs := Lib.hid (show w.heap.size + 1 < B from by have := Z'.out.lt; omega)
   replace bb' := Lib.hid (below_then bb'.out (Nat.le_refl _) hb5); replace Z' := Lib.hid (Z'.out.later hb5)
   have hT2 := Lib.hid (ArrQ.laterQ hT'.out hb5)
   have hg := Lib.hid (And.intro g0 (And.intro g1 g2))
   clear hcall hb5 x0 y0 y1 y2 hT' g0 g1 g2 hB
   have Zz := Z'.out; have bz := bb'.out
   have f0 := Zz.fr 0; have d0 := Zz.c0; have f1 := Zz.fr 1; have d1 := Zz.c1; have f2 := Zz.fr 2; have d2 := Zz.c2; have f3 := Zz.fr 3; have d3 := Zz.c3; have f4 := Zz.fr 4; have d4 := Zz.c4; have f5 := Zz.fr 5; have d5 := Zz.c5; have f6 := Zz.fr 6; have d6 := Zz.c6
   have z5 := Zz.setAll (.int .u64 L) (.int .i64 2) (.bool false) (.slice none 0 0) (.slice none 0 0) (.int .i64 0) (.slice (some ⟨B, 0, none⟩) 1 1)
   have b5 := Lib.hid (below_setAll bz (B := w.heap.size + 1) (by omega) (.int .u64 L) (.int .i64 2) (.bool false) (.slice none 0 0) (.slice none 0 0) (.int .i64 0) (.slice (some ⟨B, 0, none⟩) 1 1))
   have g0 := z5.c0; have g1 := z5.c1; have g2 := z5.c2; have g3 := z5.c3; have g4 := z5.c4; have g5 := z5.c5; have g6 := z5.c6
   clear z5 Zz bz 
   go_wp2_with fail
   refine bodyPost_ret (v := .tuple #[.agg #[.int .u64 L, .int .i64 2, .bool false, .slice none 0 0, .slice none 0 0, .int .i64 0, .slice (some ⟨B, 0, none⟩) 1 1], .int .i64 (0)]) (by simp [results, Tryz.results80, go_sem, g0, g1, g2, g3, g4, g5, g6]) rfl ?_
   have hD : oneCD f ⟨L, 2, N, 0, 1, sub⟩ = DD := hDD'.out.symm
   have hE2 : EE = 0 := hEr.out
   rw [hE2, ← hD]
   refine ⟨⟨fun q => [Value.int .u64 L, .int .i64 2, .bool false, .slice none 0 0, .slice none 0 0, .int .i64 0, .slice (some ⟨B, 0, none⟩) 1 1].getD q undef, _, rfl, CellNQ.made rfl hL'.out rfl hK'.out ?_ rfl hC'.out rfl isN1 (.inr ⟨B, 0, rfl, .inr (.inl (by have := hBs.out; omega)), fun j hj => ?_⟩), fun _ => rfl⟩, b5.out⟩
   ·show NumQ _ _ (oneN f 2 N) _ _ _
    rw [show oneN f 2 N = N from by unfold oneN; rw [if_neg (by decide)]]
    exact num_none _ _ hz
   ·obtain rfl : j = 0 := by have hj' : j < 1 := hj; omega
    have hne : ∀ q, (⟨B, q, none⟩ : Addr) ≠ ⟨w.heap.size + 1, q, none⟩ := fun q e => by have := hBs.out; injection e with e _ _; omega
    have far : ∀ q, (((((((w5.setCell ⟨w.heap.size + 1, 0, none⟩ (.int .u64 L)).setCell ⟨w.heap.size + 1, 1, none⟩ (.int .i64 2)).setCell ⟨w.heap.size + 1, 2, none⟩ (.bool false)).setCell ⟨w.heap.size + 1, 3, none⟩ (.slice none 0 0)).setCell ⟨w.heap.size + 1, 4, none⟩ (.slice none 0 0)).setCell ⟨w.heap.size + 1, 5, none⟩ (.int .i64 0)).setCell ⟨w.heap.size + 1, 6, none⟩ (.slice (some ⟨B, 0, none⟩) 1 1)).cell? ⟨B, q, none⟩ = w5.cell? ⟨B, q, none⟩ := fun q => World.cell?_of_block (a := ⟨B, q, none⟩) (heap_set7' (b := B) (B := w.heap.size + 1) (by have := hBs.out; omega) _ _ _ _ _ _ _)
    refine ⟨.int .u64 S5, .slice ao5 n5 nc5, .slice co5 m5 mc5, (far 0).trans hg.out.1, (far 1).trans hg.out.2.1, (far 2).trans hg.out.2.2, ?_⟩
    show ArrQ _ _ (oneT f (sub 0)) _ _ _
    rw [← hrT'.out]
    exact ArrQ.keep (fun b hq _ => heap_set7' (prov_ne hq hsz2.out (by omega)) _ _ _ _ _ _ _) (fun b hq _ => hq.trans hbb2.out fun k => .inl k.1) _ _ _ _ hT2.out
  ·have hcall := Lib.hid (boxed_no L S5 n5 nc5 m5 mc5 ao5 co5 rE hE0 w4)
   have hE0' := Lib.hid hE0
   clear hE0
   go_wp2_with fail
   refine hcall.out.mono ?_
   rintro e5 w5 ⟨rfl, hb5⟩
   replace bb' := Lib.hid (below_then bb'.out (Nat.le_refl _) hb5); replace Z' := Lib.hid (Z'.out.later hb5)
   clear hcall hb5 x0 y0 y1 y2 hT'
   have Zz := Z'.out; have bz := bb'.out
   have f0 := Zz.fr 0; have d0 := Zz.c0; have f1 := Zz.fr 1; have d1 := Zz.c1; have f2 := Zz.fr 2; have d2 := Zz.c2; have f3 := Zz.fr 3; have d3 := Zz.c3; have f4 := Zz.fr 4; have d4 := Zz.c4; have f5 := Zz.fr 5; have d5 := Zz.c5; have f6 := Zz.fr 6; have d6 := Zz.c6
   have z5 := Zz.setAll (.int .u64 0) (.int .i64 0) (.bool false) (.slice none 0 0) (.slice none 0 0) (.int .i64 0) (.slice none 0 0)
   have b5 := Lib.hid (below_setAll bz (B := w.heap.size + 1) (by omega) (.int .u64 0) (.int .i64 0) (.bool false) (.slice none 0 0) (.slice none 0 0) (.int .i64 0) (.slice none 0 0))
   have g0 := z5.c0; have g1 := z5.c1; have g2 := z5.c2; have g3 := z5.c3; have g4 := z5.c4; have g5 := z5.c5; have g6 := z5.c6
   clear z5 Zz bz 
   go_wp2_with fail
   refine bodyPost_ret (v := .tuple #[.agg #[.int .u64 0, .int .i64 0, .bool false, .slice none 0 0, .slice none 0 0, .int .i64 0, .slice none 0 0], .int .i64 (rE)]) (by simp [results, Tryz.results80, go_sem, g0, g1, g2, g3, g4, g5, g6]) rfl ?_
   have hE2 : EE = rE := hEr.out
   rw [hE2]
   exact cell_err hE0'.out b5.out
end Go.Proofs.YtaepelipkkmeaaaGreat
namespace Go.Proofs.YtaepelipkkmeaaaGreat
open Go.RowKit Num
theorem oneP_of (f : Int) (hf : f ∈ onesZ) (S n : Nat) (sh : Nat → Int) (m : Nat) (L : Nat → Nat) (K C : Nat → Int) (N : Nat → NumF) (k : Nat → Nat) (sub : Nat → Nat → Tree) (hn6 : n ≤ 6000) (hm6 : m ≤ 6000)
  (hcell : ∀ i, i < m → OneCellP f ⟨L i, K i, N i, C i, k i, sub i⟩) : OneOfP f (.arr S n sh m L K C N k sub) := by
 obtain ⟨iC, hC0, hC1, hC2, hC3⟩ := info_cell
 intro Q0 c0 c1 c2 w h
 obtain ⟨rfl, hS, ⟨ao, nc, rfl, hn, hsh, hshz⟩, co, mc, rfl, hm, hc⟩ := ArrQ.keep (Q' := fun b => Q0 b ∧ b < w.heap.size) (fun _ _ _ => rfl) (fun b hq hb => ⟨hq, hb⟩) _ _ _ _ h
 have n1 := hn.1; have n2 := hn.2.1; have n3 := hn.2.2; have m1 := hm.1; have m2 := hm.2.1; have m3 := hm.2.2
 obtain ⟨er, her⟩ : ∃ er : Nat → Int, er = fun i => oneCE f ⟨L i, K i, N i, C i, k i, sub i⟩ := ⟨_, rfl⟩
 obtain ⟨EE, hEE⟩ : ∃ EE, EE = oneE f (.arr S n sh m L K C N k sub) := ⟨_, rfl⟩
 obtain ⟨TT, hTT⟩ : ∃ TT, TT = oneT f (.arr S n sh m L K C N k sub) := ⟨_, rfl⟩
 have hE1 := Lib.hid (show EE = firstE er m from by rw [hEE, her]; rfl)
 have her' := Lib.hid her; have hTT' := Lib.hid hTT; have hf' := Lib.hid hf
 rw [← hEE, ← hTT]
 have hc' := Lib.hid hc; have hsh' := Lib.hid hsh; have hshz' := Lib.hid hshz; have hSl := Lib.hid hS; have hnI := Lib.hid hn; have hcell' := Lib.hid hcell
 clear hc hsh hshz hn hm h her hEE hTT hS hf hcell
 have hF := oneF_keep f L K C N k sub
 go_enter Tryz.func24, Tryz.ntmps24
 go_upto_region 1 with fail
 refine told_wp (fun w' => Below w.heap.size w w' ∧ Box3 w' w.heap.size (.int .u64 S) (.slice ao n nc) (.slice co m mc) ∧ Box3 w' (w.heap.size + 1) (.int .u64 0) (.slice none 0 0) (.slice none 0 0) ∧ Shut w' (w.heap.size + 1))
  ⟨((Below.refl _ _).alloc (Nat.le_refl _) _).alloc (by simp) _, (Box3.new _ _ _ _ rfl).alloc _, Box3.new _ _ _ _ (by simp), by have := shut3 (w := w.alloc (.cells #[.int .u64 S, .slice ao n nc, .slice co m mc] 45)) (a := 0) (p := none) (q := none) (n := 0) (nc := 0) (m := 0) (mc := 0) (t := 45); simpa using this⟩ ?_
 rintro w1 ⟨bb1, x1, z1, s1⟩
 have bb' := Lib.hid bb1; have X' := Lib.hid x1; have Z' := Lib.hid z1; have s' := Lib.hid s1
 clear bb1 x1 z1 s1
 go_wp2_with fail
 refine ((isOne_any f w1).mono fun _ _ h => (show Tell (.bool true) _ _ _ from by rw [decide_eq_true hf'.out] at h; exact h)).mono ?_
 rintro e w2 ⟨rfl, hb2⟩
 replace bb' := Lib.hid (below_then bb'.out (Nat.le_refl _) hb2); replace X' := Lib.hid (X'.out.later hb2); replace Z' := Lib.hid (Z'.out.later hb2); replace s' := Lib.hid (s'.out.later hb2)
 clear hb2
 have x2 := X'.out.c2
 go_wp2_with (at_make; refine wpList_make_full _ rfl (.tmp 17) (.tmp 17) 43 rfl w.heap.size 65 iC _ 7 Tryz.underlying43 hC0 hC1 hC2 .i64 .i64 _ _ m rfl rfl rfl rfl (by rw [hC3]; omega) (by unfold maxLen; omega) bb'.out.size ?_)
 intro w3 hown hgrow
 obtain ⟨g, hg⟩ : ∃ g, g = w2.heap.size := ⟨_, rfl⟩
 rw [← hg] at hown ⊢
 rw [made_cells] at hown
 have hb3 : Below w2.heap.size w2 w3 := (Below.refl _ w2).grown hgrow (Nat.le_refl _) (fun _ h => by cases h)
 have hg1 : w.heap.size + 1 < g := by have := Z'.out.lt; omega
 obtain ⟨M, hM⟩ : ∃ M : Nat → Prop, M = fun b => b = w.heap.size + 1 ∨ b = g := ⟨_, rfl⟩
 have hM' := Lib.hid hM
 have hmk0 : MkR (oneF f L K C N k sub) M (Prov Q0 w) g m w w3 0 (fun _ => zero7) := by
  rw [hM]
  refine ⟨hown, fun _ _ => rfl, fun x hx => by omega, fun _ _ _ => rfl, below_then bb'.out (Nat.le_refl _) hb3, ?_, ?_, .inr rfl⟩
  ·rintro b (rfl | rfl)
   ·exact s'.out.later hb3
   ·exact shut_made hown
  ·rintro b (rfl | rfl) <;> omega
 have hv0 := Lib.hid hmk0; have hx0 := Lib.hid (X'.out.later hb3); have hz0 := Lib.hid (Z'.out.later hb3)
 clear hown hgrow hb3 hmk0 bb' X' Z' s' x2 hg hM
 have x2 := hx0.out.c2
 go_wp2_with fail
 go_loopw [22] (fun i wr => ∃ (t : Nat) (es : Nat → List Value), t ≤ m ∧ i = .int .i64 t ∧ Hid (MkR (oneF f L K C N k sub) M (Prov Q0 w) g m w wr t es) ∧ Hid (Box3 wr w.heap.size (.int .u64 S) (.slice ao n nc) (.slice co m mc)) ∧ Hid (Box3 wr (w.heap.size + 1) (.int .u64 0) (.slice none 0 0) (.slice none 0 0)) ∧ Hid (∀ i, i < t → er i = 0)) (fun i _ => m - (intOfZ i).toNat)
 case atStart => exact ⟨0, _, Nat.zero_le _, rfl, hv0, hx0, hz0, Lib.hid fun i hi => absurd hi (Nat.not_lt_zero _)⟩
 case round =>
  obtain ⟨t, es, ht, rfl, hv, hx1, hz1, her0⟩ := hrel
  clear hv0 hx0 hz0 x2
  by_cases hlt : t < m
  ·rcases hc'.out with h0 | ⟨b, o, rfl, hbD, hcells⟩
   ·omega
   obtain ⟨e, he, hCe⟩ := hcells t hlt
   have hCe' := Lib.hid hCe
   obtain ⟨q0, qL, q1, qK, ⟨q2, ⟨a1, ac, q3, ha, _, _⟩, ⟨b1, bc, q4, hb', _, _⟩⟩, q5, qC, io, kc, q6, hk, _⟩ := hCe
   have hval := Lib.hid (show (Value.agg #[.int .u64 (L t), .int .i64 (K t), .bool (N t).neg, .slice a1 (N t).an ac, .slice b1 (N t).am bc, .int .i64 (C t), .slice io (k t) kc]) = .agg #[e 0, e 1, e 2, e 3, e 4, e 5, e 6] from by rw [q0, q1, q2, q3, q4, q5, q6])
   have y0 := cell_below (he 0 (by decide)) hv.out.bel; have y1 := cell_below (he 1 (by decide)) hv.out.bel; have y2 := cell_below (he 2 (by decide)) hv.out.bel; have y3 := cell_below (he 3 (by decide)) hv.out.bel
   have y4 := cell_below (he 4 (by decide)) hv.out.bel; have y5 := cell_below (he 5 (by decide)) hv.out.bel; have y6 := cell_below (he 6 (by decide)) hv.out.bel
   rw [q0, Nat.add_zero] at y0; rw [q1] at y1; rw [q2] at y2; rw [q3] at y3; rw [q4] at y4; rw [q5] at y5; rw [q6] at y6
   have kk1 := hk.1; have kk2 := hk.2.1
   have hbz := (Below.refl wr.heap.size wr).alloc (Nat.le_refl _) (.cells #[.int .u64 (L t), .int .i64 (K t), .bool (N t).neg, .slice a1 (N t).an ac, .slice b1 (N t).am bc, .int .i64 (C t), .slice io (k t) kc] 65)
   have hva := hv.out.later hF hbz
   have hxa := hx1.out.later hbz; have hza := hz1.out.later hbz
   obtain ⟨U, hU⟩ : ∃ U, U = wr.heap.size := ⟨_, rfl⟩
   clear hcells he q0 qL q1 qK q2 q3 q4 q5 qC q6 ha hb' hk hbz
   go_upto_region 7 with fail
   rw [← hU]
   refine told_wp (fun w' => MkR (oneF f L K C N k sub) M (Prov Q0 w) g m w w' t es ∧ Box7 w' U (.int .u64 (L t)) (.int .i64 (K t)) (.bool (N t).neg) (.slice a1 (N t).an ac) (.slice b1 (N t).am bc) (.int .i64 (C t)) (.slice io (k t) kc) ∧ Box3 w' w.heap.size (.int .u64 S) (.slice ao n nc) (.slice (some ⟨b, o, none⟩) m mc) ∧ Box3 w' (w.heap.size + 1) (.int .u64 0) (.slice none 0 0) (.slice none 0 0)) ⟨hva, Box7.new _ _ _ _ _ _ _ _ hU, hxa, hza⟩ ?_
   clear hv hx1 hz1 y0 y1 y2 y3 y4 y5 y6 hva hxa hza hU
   rintro wa ⟨hva1, xa, hx2', hz2'⟩
   have hva := Lib.hid hva1; have hx2 := Lib.hid hx2'; have hz2 := Lib.hid hz2'
   have g0 := xa.c0; have g1 := xa.c1; have g2 := xa.c2; have g3 := xa.c3; have g4 := xa.c4; have g5 := xa.c5; have g6 := xa.c6
   have hin : CellNQ wa (fun b => Q0 b ∧ b < w.heap.size) ⟨L t, K t, N t, C t, k t, sub t⟩ e := CellQ.keep hCe'.out (fun b hq _ => hva1.bel.block b hq.2) (fun _ hq _ => hq) fun _ _ _ _ hd => ArrQ.keep (fun b hq _ => hva1.bel.block b hq.2) (fun _ hq _ => hq) _ _ _ _ hd
   have hcall := hcell'.out t hlt _ e wa hin
   rw [← hval.out] at hcall
   replace hcall := Lib.hid hcall
   clear hva1 hx2' hz2' xa hin
   go_wp2_with fail
   refine hcall.out.mono ?_
   intro e5 w5 hR
   obtain ⟨D, p1, p2, p3, c1, c2, c3, rfl, hD, hD0, hb5⟩ := hR.form
   obtain ⟨CE, hCE⟩ : ∃ CE, CE = oneCE f ⟨L t, K t, N t, C t, k t, sub t⟩ := ⟨_, rfl⟩
   rw [← hCE] at hD0 ⊢
   have hert := Lib.hid (show er t = CE from by rw [her'.out, hCE])
   have hnewD := CellQ.keep (Q' := fun b => Prov Q0 w b ∧ ¬ M b) hD (fun _ _ _ => rfl) (fun b hq _ => hva.out.clear hq) fun _ _ _ _ hd => ArrQ.keep (fun _ _ _ => rfl) (fun b hq _ => hva.out.clear hq) _ _ _ _ hd
   have hnewD' : CellNQ w5 (fun b => Prov Q0 w b ∧ ¬ M b) D (fun q => [Value.int .u64 D.L, .int .i64 D.K, .bool D.N.neg, .slice p1 D.N.an c1, .slice p2 D.N.am c2, .int .i64 D.C, .slice p3 D.k c3].getD q undef) := hnewD
   have hvb := hva.out.later hF hb5; have hx3 := hx2.out.later hb5; have hz3 := hz2.out.later hb5
   have hbz := (Below.refl w5.heap.size w5).alloc (Nat.le_refl _) (.cells #[.int .u64 D.L, .int .i64 D.K, .bool D.N.neg, .slice p1 D.N.an c1, .slice p2 D.N.am c2, .int .i64 D.C, .slice p3 D.k c3] 65)
   have hvc := hvb.later hF hbz; have hx4 := hx3.later hbz; have hz4 := hz3.later hbz; have hD4 := CellNQ.later hnewD' hbz
   have hD0' := Lib.hid hD0
   clear hR hD hD0 hnewD hnewD' hcall hb5 g0 g1 g2 g3 g4 g5 g6 hva hx2 hz2 hvb hx3 hz3 hCE hbz
   go_upto_region 8 with fail
   refine told_wp (fun w' => MkR (oneF f L K C N k sub) M (Prov Q0 w) g m w w' t es ∧ Box7 w' w5.heap.size (.int .u64 D.L) (.int .i64 D.K) (.bool D.N.neg) (.slice p1 D.N.an c1) (.slice p2 D.N.am c2) (.int .i64 D.C) (.slice p3 D.k c3) ∧ Box3 w' w.heap.size (.int .u64 S) (.slice ao n nc) (.slice (some ⟨b, o, none⟩) m mc) ∧ Box3 w' (w.heap.size + 1) (.int .u64 0) (.slice none 0 0) (.slice none 0 0) ∧ CellNQ w' (fun b => Prov Q0 w b ∧ ¬ M b) D (fun q => [Value.int .u64 D.L, .int .i64 D.K, .bool D.N.neg, .slice p1 D.N.an c1, .slice p2 D.N.am c2, .int .i64 D.C, .slice p3 D.k c3].getD q undef)) ⟨hvc, Box7.new _ _ _ _ _ _ _ _ rfl, hx4, hz4, hD4⟩ ?_
   clear hvc hx4 hz4 hD4
   rintro w6 ⟨hv6, x6, hx6, hz6, hD6⟩
   by_cases hE0 : CE = 0
   ·subst hE0
    have hD : D = oneCD f ⟨L t, K t, N t, C t, k t, sub t⟩ := hD0'.out rfl
    have her1 := Lib.hid (show ∀ i, i < t + 1 → er i = 0 from fun i hi => by
     by_cases hit : i = t
     ·rw [hit, hert.out]
     ·exact her0.out i (by omega))
    have hnew : oneF f L K C N k sub t w6 (fun b => Prov Q0 w b ∧ ¬ M b) (fun q => [Value.int .u64 D.L, .int .i64 D.K, .bool D.N.neg, .slice p1 D.N.an c1, .slice p2 D.N.am c2, .int .i64 D.C, .slice p3 D.k c3].getD q undef) := by
     have h2 : CellNQ w6 (fun b => Prov Q0 w b ∧ ¬ M b) (oneCD f ⟨L t, K t, N t, C t, k t, sub t⟩) (fun q => [Value.int .u64 D.L, .int .i64 D.K, .bool D.N.neg, .slice p1 D.N.an c1, .slice p2 D.N.am c2, .int .i64 D.C, .slice p3 D.k c3].getD q undef) := by rw [← hD]; exact hD6
     exact h2
    have hv7 := Lib.hid (hv6.put hF _ _ _ _ _ _ _ no_limb7 hnew)
    have hgl := hv6.row.lt g rfl
    have ne1 : w.heap.size ≠ g := by omega
    have ne2 : w.heap.size + 1 ≠ g := by omega
    have hx7 := Lib.hid (((((((hx6.aside (D := g) ne1 (t * 7) (.int .u64 D.L)).aside (D := g) ne1 (t * 7 + 1) (.int .i64 D.K)).aside (D := g) ne1 (t * 7 + 2) (.bool D.N.neg)).aside (D := g) ne1 (t * 7 + 3) (.slice p1 D.N.an c1)).aside (D := g) ne1 (t * 7 + 4) (.slice p2 D.N.am c2)).aside (D := g) ne1 (t * 7 + 5) (.int .i64 D.C)).aside (D := g) ne1 (t * 7 + 6) (.slice p3 D.k c3))
    have hz7 := Lib.hid (((((((hz6.aside (D := g) ne2 (t * 7) (.int .u64 D.L)).aside (D := g) ne2 (t * 7 + 1) (.int .i64 D.K)).aside (D := g) ne2 (t * 7 + 2) (.bool D.N.neg)).aside (D := g) ne2 (t * 7 + 3) (.slice p1 D.N.an c1)).aside (D := g) ne2 (t * 7 + 4) (.slice p2 D.N.am c2)).aside (D := g) ne2 (t * 7 + 5) (.int .i64 D.C)).aside (D := g) ne2 (t * 7 + 6) (.slice p3 D.k c3))
    have y0 := hv6.cell (q := 0) hlt (by decide) (v := .int .u64 0) rfl; have y1 := hv6.cell (q := 1) hlt (by decide) (v := .int .i64 0) rfl; have y2 := hv6.cell (q := 2) hlt (by decide) (v := .bool false) rfl; have y3 := hv6.cell (q := 3) hlt (by decide) (v := .slice none 0 0) rfl
    have y4 := hv6.cell (q := 4) hlt (by decide) (v := .slice none 0 0) rfl; have y5 := hv6.cell (q := 5) hlt (by decide) (v := .int .i64 0) rfl; have y6 := hv6.cell (q := 6) hlt (by decide) (v := .slice none 0 0) rfl
    rw [Nat.add_zero] at y0
    have f0 := hv6.row.frozenAt (t * 7); have f1 := hv6.row.frozenAt (t * 7 + 1); have f2 := hv6.row.frozenAt (t * 7 + 2); have f3 := hv6.row.frozenAt (t * 7 + 3)
    have f4 := hv6.row.frozenAt (t * 7 + 4); have f5 := hv6.row.frozenAt (t * 7 + 5); have f6 := hv6.row.frozenAt (t * 7 + 6)
    have r0 := x6.c0; have r1 := x6.c1; have r2 := x6.c2; have r3 := x6.c3; have r4 := x6.c4; have r5 := x6.c5; have r6 := x6.c6
    clear hv6 hx6 hz6 hD6 hnew hD x6 ne1 ne2 hgl
    go_wp2_with fail
    go_roundw
    case rel => exact ⟨t + 1, _, by omega, by go_num, hv7, hx7, hz7, her1⟩
    case measure => simp [intOfZ]; omega
   ·have hCb : (CE != 0) = true := bne_iff_ne.2 hE0
    have hE2 := Lib.hid (show EE = CE from by
     have h1 := firstE_at her0.out (by rw [hert.out]; exact hE0) m hlt
     rw [hE1.out, h1, hert.out])
    have hCn := Lib.hid hE0
    have bb5 := hv6.bel
    have hz6' := Lib.hid hz6
    clear hE0 hv6 hx6 hz6 hD6 x6
    have hlz := hz6'.out.lt
    have z0 := hz6'.out.c0; have z1 := hz6'.out.c1; have z2 := hz6'.out.c2
    have f0 := hz6'.out.fr 0; have f1 := hz6'.out.fr 1; have f2 := hz6'.out.fr 2
    have zz := hz6'.out.set (.int .u64 0) (.slice none 0 0) (.slice none 0 0)
    have e0 := zz.c0; have e1 := zz.c1; have e2 := zz.c2
    have hbw := Lib.hid (below_set3 bb5 (B := w.heap.size + 1) (by omega) (.int .u64 0) (.slice none 0 0) (.slice none 0 0))
    have hfe := Lib.hid (show EE = CE ∧ (CE : Int) ≠ 0 from ⟨hE2.out, hCn.out⟩)
    clear zz
    go_wp2_with fail
    refine bodyPost_ret (v := .tuple #[.agg #[.int .u64 0, .slice none 0 0, .slice none 0 0], .int .i64 (CE)]) (by simp [results, Tryz.results24, go_sem, e0, e1, e2]) rfl ?_
    rw [hfe.out.1]
    exact ⟨⟨_, _, _, rfl, by rw [show resT (CE) TT = zeroT from if_neg hfe.out.2]; exact zero_arr _ _⟩, hbw.out⟩
  ·obtain rfl : t = m := by omega
   have hE0 : firstE er t = 0 := (firstE_zero t).2 her0.out
   have hEz := Lib.hid (show EE = 0 from by rw [hE1.out, hE0])
   have hv9 := hv.out; have X := hx1.out; have Z := hz1.out
   have hgs := Lib.hid (show g + 1 ≤ wr.heap.size from (hv9.row.lt g rfl).2)
   have hg1' := Lib.hid hg1
   clear hv hx1 hz1 hE0
   go_upto_region 12 with fail
   have hsl := (hsh'.out.keep (Q' := fun _ => True) (fun b hq _ => hv9.bel.block b hq.2) (fun _ _ _ => trivial)).plain
   have sn0 := True.intro
   go_region_held3 (fun w' => w'.cell? ⟨w.heap.size, 0, none⟩ = some (.int .u64 S) ∧ w'.cell? ⟨w.heap.size, 1, none⟩ = some (.slice ao n nc))
    (first | with_reducible exact ⟨X.drew.c0, X.drew.c1⟩ | with_reducible exact ⟨X.c0, X.c1⟩ | go_keep)
    (first
    | (go_at_call 81; clear sn0; have hd := (Below.refl wr.heap.size wr).drew; have hv9 := hv9.later hF hd; have X := X.drew; have Z := Z.drew; have hsl := hsl.below hd; clear hd; refine (cloneI_any ao n nc (intCells sh n) _ hn6 (by rw [intCells_length, Nat.mul_one]) hsl.lies (intCells_one _ _)).mono ?_; rintro e w' ⟨po, pc, rfl, hr, hb⟩; have hsd := hv9.bel.size; have hv9 := hv9.later hF hb; have X := X.later hb; have Z := Z.later hb; have d0 := Z.c0; have d1 := Z.c1; have d2 := Z.c2; have f0 := Z.fr 0; have f1 := Z.fr 1; have f2 := Z.fr 2; clear hb hsl; have sn1 := True.intro))
   have zz := Z.set (.int .u64 S) (.slice po n pc) (.slice (some ⟨g, 0, none⟩) t t)
   have e0 := zz.c0; have e1 := zz.c1; have e2 := zz.c2
   have hbel := hv9.bel
   have hbw := Lib.hid (below_set3 hbel (B := w.heap.size + 1) (by omega) (.int .u64 S) (.slice po n pc) (.slice (some ⟨g, 0, none⟩) t t))
   have hM1 : M (w.heap.size + 1) := by rw [hM'.out]; exact .inl rfl
   have hk0 := fun b (hb : b ≠ w.heap.size + 1) => heap_set012 (w := w') (B := w.heap.size + 1) (b := b) hb (.int .u64 S) (.slice po n pc) (.slice (some ⟨g, 0, none⟩) t t)
   obtain ⟨hpn, hpq⟩ := hr.slzQ hn6
   have hZl := Z.lt
   have hres0 : ArrQ w' (fun b => Prov Q0 w b ∧ b ≠ w.heap.size + 1) TT (.int .u64 S) (.slice po n pc) (.slice (some ⟨g, 0, none⟩) t t) := by
    rw [hTT'.out]
    refine ⟨rfl, hSl.out, ⟨po, pc, rfl, hpn, hpq.keep (fun _ _ _ => rfl) (fun b hq _ => ⟨.inr (.inl (Nat.le_trans hsd hq)), by have hq2 := Nat.le_trans hgs.out hq; omega⟩), hshz'.out⟩, _, _, rfl, ⟨Nat.le_refl _, by omega, by omega⟩, .inr ⟨g, 0, rfl, ⟨.inr (.inl (by omega)), by omega⟩, fun i hi => ?_⟩⟩
    obtain ⟨e, he1, he2⟩ := hv9.cells i hi
    exact ⟨e, he1, oneF_keep f L K C N k sub i _ _ _ _ _ he2 (fun _ _ _ => rfl) fun b hq _ => ⟨hq.1, fun h => hq.2 (by rw [h]; exact hM1)⟩⟩
   have hres := Lib.hid (ArrQ.keep (Q' := Prov Q0 w) (fun b hq _ => hk0 b hq.2) (fun b hq _ => hq.1) _ _ _ _ hres0)
   clear zz hv9 X Z hr hpn hpq hbel hk0 hres0 hM1
   go_wp2_with fail
   refine bodyPost_ret (v := .tuple #[.agg #[.int .u64 S, .slice po n pc, .slice (some ⟨g, 0, none⟩) t t], .int .i64 0]) (by simp [results, Tryz.results24, go_sem, e0, e1, e2]) rfl ?_
   rw [hEz.out]
   exact ⟨⟨_, _, _, rfl, hres.out⟩, hbw.out⟩
end Go.Proofs.YtaepelipkkmeaaaGreat
namespace Go.Proofs.YtaepelipkkmeaaaGreat
open Go.RowKit Num
theorem oneP_none (f : Int) (hf : f ∉ onesZ) (A T : Tree) (c0 c1 c2 : Value) (w : World) (h : ArrP w A c0 c1 c2) : Calls Tryz.prog 24 #[.int .i64 f, .agg #[c0, c1, c2]] w (ResP 8 T w) := by
 obtain ⟨S, n, nc, m, mc, ao, co, rfl, rfl, rfl⟩ := (ArrP.within _ _ _ _ h).form
 have hf' := Lib.hid hf
 clear h hf
 go_enter Tryz.func24, Tryz.ntmps24
 go_upto_region 1 with fail
 refine told_wp (fun w' => Below w.heap.size w w' ∧ Box3 w' (w.heap.size + 1) (.int .u64 0) (.slice none 0 0) (.slice none 0 0))
  ⟨((Below.refl _ _).alloc (Nat.le_refl _) _).alloc (by simp) _, Box3.new _ _ _ _ (by simp)⟩ ?_
 rintro w1 ⟨bb1, z1⟩
 have hbb := Lib.hid bb1; have hz := Lib.hid z1
 clear bb1 z1
 go_wp2_with fail
 refine ((isOne_any f w1).mono fun _ _ h => (show Tell (.bool false) _ _ _ from by rw [decide_eq_false hf'.out] at h; exact h)).mono ?_
 rintro e w2 ⟨rfl, hb2⟩
 replace hbb := Lib.hid (below_then hbb.out (Nat.le_refl _) hb2); replace hz := Lib.hid (hz.out.later hb2)
 clear hb2
 have z0 := hz.out.c0; have z1 := hz.out.c1; have z2 := hz.out.c2
 have f0 := hz.out.fr 0; have f1 := hz.out.fr 1; have f2 := hz.out.fr 2
 have zz := hz.out.set (.int .u64 0) (.slice none 0 0) (.slice none 0 0)
 have e0 := zz.c0; have e1 := zz.c1; have e2 := zz.c2
 have hbw := Lib.hid (below_set3 hbb.out (B := w.heap.size + 1) (by omega) (.int .u64 0) (.slice none 0 0) (.slice none 0 0))
 clear zz
 go_wp2_with fail
 refine bodyPost_ret (v := .tuple #[.agg #[.int .u64 0, .slice none 0 0, .slice none 0 0], .int .i64 8]) (by simp [results, Tryz.results24, go_sem, e0, e1, e2]) rfl ?_
 exact ⟨_, _, _, rfl, ArrQ.plain _ _ _ _ (zero_arr _ (fun _ => True)), hbw.out⟩
theorem oneP_all (f : Int) (hf : f ∈ onesZ) : ∀ (A : Tree) (d : Nat), RightT A d → partsT A ≤ 4000 → OneOfP f A := by
 intro A
 induction A with
 | leaf => intro d h; exact h.elim
 | arr S n sh m L K C N k sub ih =>
  intro d hr hp
  have h1 := parts_here (S := S) (n := n) (m := m) (sh := sh) (L := L) (K := K) (C := C) (N := N) (k := k) (sub := sub)
  refine oneP_of f hf S n sh m L K C N k sub (by omega) (by omega) fun i hi => ?_
  refine oneCell_of f ⟨L i, K i, N i, C i, k i, sub i⟩ _ d _ hf (hr.2 i hi) fun hK => ?_
  rcases hr.2 i hi with ⟨h0, _⟩ | ⟨h0, _⟩ | ⟨_, _, _, hk, _, _, hR⟩
  ·have hK' : K i = 2 := hK; omega
  ·have hK' : K i = 2 := hK; omega
  ·have h2 := parts_sub (S := S) (n := n) (sh := sh) (L := L) (K := K) (C := C) (N := N) (sub := sub) (k := k) hi (j := 0) (by omega)
   exact ih i 0 (d - 1) hR (by omega)
theorem oneSC : OneSC := by
 intro f A c0 c1 c2 w _ h hf hr
 unfold oneR
 by_cases hm : f ∈ onesZ
 ·rw [if_pos hm]
  exact (oneP_all f hm A 8 hr hf.1 _ c0 c1 c2 w (ArrP.within _ _ _ _ h)).mono fun _ _ => ResQ.plain
 ·rw [if_neg hm]
  exact oneP_none f hm A _ c0 c1 c2 w h
end Go.Proofs.YtaepelipkkmeaaaGreat
namespace Go.Proofs.YtaepelipkkmeaaaGreat
open Go.RowKit Num
def GoodPost (A : Tree) (w : World) (e : Ending) (w' : World) : Prop := ∃ r : Bool, e = .returned (.bool r) ∧ (r = true → FewT A ∧ RightT A 8) ∧ Below w.heap.size w w'
theorem good8_any (A : Tree) (c0 c1 c2 : Value) (w : World) (h : ArrP w A c0 c1 c2) : Calls Tryz.prog 22 #[.agg #[c0, c1, c2]] w (GoodPost A w) := by
 obtain ⟨S, n, nc, m, mc, ao, co, rfl, rfl, rfl⟩ := (ArrP.within _ _ _ _ h).form
 have h' := Lib.hid h
 clear h
 go_enter Tryz.func22, Tryz.ntmps22
 go_upto_region 1 with fail
 refine told_wp (fun w' => Below w.heap.size w w' ∧ Box3 w' w.heap.size (.int .u64 S) (.slice ao n nc) (.slice co m mc)) ⟨(Below.refl _ _).alloc (Nat.le_refl _) _, Box3.new _ _ _ _ rfl⟩ ?_
 rintro w0 ⟨bb, x⟩
 have q0 := x.c0; have q1 := x.c1; have q2 := x.c2
 have bb' := Lib.hid bb; have x' := Lib.hid x
 clear bb x
 go_wp2_with fail
 refine (few8_any A _ _ _ w0 (h'.out.later bb'.out)).mono ?_
 rintro e w1 ⟨⟨r, rfl, hr⟩, hb⟩
 replace bb' := Lib.hid (below_then bb'.out (Nat.le_refl _) hb); replace x' := Lib.hid (x'.out.later hb)
 clear q0 q1 q2 hb
 cases r with
 | false =>
  clear hr
  go_wp2_with fail
  go_ret
  exact ⟨false, rfl, fun h => (Bool.false_ne_true h).elim, bb'.out⟩
 | true =>
  have hF := Lib.hid (hr rfl)
  have q0 := x'.out.c0; have q1 := x'.out.c1; have q2 := x'.out.c2
  clear hr
  go_wp2_with fail
  refine (right8_any A 8 _ _ _ w1 (h'.out.later bb'.out) (by decide)).mono ?_
  rintro e w2 ⟨r, rfl, hr, hb⟩
  replace bb' := Lib.hid (below_then bb'.out (Nat.le_refl _) hb)
  have hr' := Lib.hid hr
  clear q0 q1 q2 hb hr
  go_wp2_with fail
  go_ret
  exact ⟨r, rfl, fun h => ⟨hF.out, hr'.out.1 h⟩, bb'.out⟩
theorem oneR_zero {f : Int} {A : Tree} (h : oneR f A = 0) : oneE f A = 0 := by
 unfold oneR at h
 by_cases hm : f ∈ onesZ
 ·rw [if_pos hm] at h; exact h
 ·rw [if_neg hm] at h; exact absurd h (by decide)
theorem one10_walk (hA : Awake10C) (hO : OneSC) (f : Int) (A : Tree) (a0 a1 a2 : Value) (w : World) (hf : IsZ f) (ha : ArrP w A a0 a1 a2) :
  Calls Tryz.prog 4 #[.int .i64 f, .agg #[a0, a1, a2]] w (Tell (.bool true) w) := by
 replace hA := Lib.hid hA; replace hO := Lib.hid hO; replace hf := Lib.hid hf
 obtain ⟨S, n, nc, m, mc, ao, co, rfl, rfl, rfl⟩ := (ArrP.within _ _ _ _ ha).form
 have h' := Lib.hid ha
 clear ha
 go_enter Tryz.func4, Tryz.ntmps4
 go_upto_region 1 with fail
 refine told_wp (fun w' => Below w.heap.size w w' ∧ Box3 w' w.heap.size (.int .u64 S) (.slice ao n nc) (.slice co m mc)) ⟨(Below.refl _ _).alloc (Nat.le_refl _) _, Box3.new _ _ _ _ rfl⟩ ?_
 rintro w0 ⟨bb, x⟩
 have q0 := x.c0; have q1 := x.c1; have q2 := x.c2
 replace bb := Lib.hid bb; replace x := Lib.hid x
 go_wp2_with fail
 refine (good8_any A _ _ _ w0 (h'.out.later bb.out)).mono ?_
 rintro e w1 ⟨r, rfl, hr, hb⟩
 replace bb := Lib.hid (below_then bb.out (Nat.le_refl _) hb); replace x := Lib.hid (x.out.later hb)
 clear q0 q1 q2 hb
 cases r with
 | false =>
  clear hr x
  go_wp2_with fail
  refine (hA.out _).mono ?_
  rintro e wz ⟨rfl, hb⟩
  replace bb := Lib.hid (below_then bb.out (Nat.le_refl _) hb)
  clear hb
  go_wp2_with fail
  go_ret
  exact ⟨rfl, bb.out⟩
 | true =>
  obtain ⟨hF0, hR0⟩ := hr rfl
  have hF := Lib.hid hF0; have hR := Lib.hid hR0
  clear hr hF0 hR0
  have q0 := x.out.c0; have q1 := x.out.c1; have q2 := x.out.c2
  go_wp2_with fail
  refine (light10_any A 8 _ _ _ w1 (h'.out.later bb.out) hR.out).mono ?_
  rintro e w2 ⟨⟨r, rfl⟩, hb⟩
  replace bb := Lib.hid (below_then bb.out (Nat.le_refl _) hb); replace x := Lib.hid (x.out.later hb)
  clear q0 q1 q2 hb
  cases r with
  | false =>
   clear x
   go_wp2_with fail
   refine (hA.out _).mono ?_
   rintro e wz ⟨rfl, hb⟩
   replace bb := Lib.hid (below_then bb.out (Nat.le_refl _) hb)
   clear hb
   go_wp2_with fail
   go_ret
   exact ⟨rfl, bb.out⟩
  | true =>
   have q0 := x.out.c0; have q1 := x.out.c1; have q2 := x.out.c2
   go_wp2_with fail
   refine (hO.out f A _ _ _ w2 hf.out (h'.out.later bb.out) hF.out hR.out).mono ?_
   intro e w3 hp
   obtain ⟨S1, k1, kc1, l1, lc1, o1, p1, rfl, hX, hb⟩ := hp.form
   have hb' := hb.alloc hb.size (.cells #[.int .u64 S1, .slice o1 k1 kc1, .slice p1 l1 lc1] 45)
   have bb1 := below_then bb.out (Nat.le_refl _) hb'; have x1 := x.out.later hb'
   have hX1 := hX.later ((Below.refl _ _).alloc (Nat.le_refl _) (.cells #[.int .u64 S1, .slice o1 k1 kc1, .slice p1 l1 lc1] 45))
   have u1 := Box3.new (w := w3) (B := w3.heap.size) (.int .u64 S1) (.slice o1 k1 kc1) (.slice p1 l1 lc1) 45 rfl
   obtain ⟨B5, hB5⟩ : ∃ B5, B5 = w3.heap.size := ⟨_, rfl⟩
   clear q0 q1 q2 hb hp hX hb' bb x
   go_upto_region 4 with fail
   rw [← hB5] at u1 ⊢
   refine told_wp (fun w' => Below w.heap.size w w' ∧ Box3 w' w.heap.size (.int .u64 S) (.slice ao n nc) (.slice co m mc) ∧ ArrP w' (resT (oneR f A) (oneT f A)) (.int .u64 S1) (.slice o1 k1 kc1) (.slice p1 l1 lc1) ∧ Box3 w' B5 (.int .u64 S1) (.slice o1 k1 kc1) (.slice p1 l1 lc1)) ⟨bb1, x1, hX1, u1⟩ ?_
   clear bb1 x1 hX1 u1 hB5
   rintro w4 ⟨bb, x, hX, u⟩
   have q0 := x.c0; have q1 := x.c1; have q2 := x.c2
   replace bb := Lib.hid bb; replace x := Lib.hid x; replace hX := Lib.hid hX; replace u := Lib.hid u
   go_wp2_with fail
   refine (one10_any f A _ _ _ w4 (h'.out.later bb.out) hF.out hR.out).mono ?_
   intro e w5 hp
   obtain ⟨S2, k2, kc2, l2, lc2, o2, p2, rfl, hY, hb⟩ := hp.form
   have hb' := hb.alloc hb.size (.cells #[.int .u64 S2, .slice o2 k2 kc2, .slice p2 l2 lc2] 45)
   have bb1 := below_then bb.out (Nat.le_refl _) hb'; have u1 := u.out.later hb'; have hX1 := hX.out.later hb'
   have hY1 := hY.later ((Below.refl _ _).alloc (Nat.le_refl _) (.cells #[.int .u64 S2, .slice o2 k2 kc2, .slice p2 l2 lc2] 45))
   have v1 := Box3.new (w := w5) (B := w5.heap.size) (.int .u64 S2) (.slice o2 k2 kc2) (.slice p2 l2 lc2) 45 rfl
   obtain ⟨B7, hB7⟩ : ∃ B7, B7 = w5.heap.size := ⟨_, rfl⟩
   clear q0 q1 q2 hb hp hY hb' bb x u hX
   go_upto_region 5 with fail
   rw [← hB7] at v1 ⊢
   refine told_wp (fun w' => Below w.heap.size w w' ∧ ArrP w' (resT (oneR f A) (oneT f A)) (.int .u64 S1) (.slice o1 k1 kc1) (.slice p1 l1 lc1) ∧ Box3 w' B5 (.int .u64 S1) (.slice o1 k1 kc1) (.slice p1 l1 lc1) ∧ ArrP w' (resT (oneR f A) (oneT f A)) (.int .u64 S2) (.slice o2 k2 kc2) (.slice p2 l2 lc2) ∧ Box3 w' B7 (.int .u64 S2) (.slice o2 k2 kc2) (.slice p2 l2 lc2)) ⟨bb1, hX1, u1, hY1, v1⟩ ?_
   clear bb1 hX1 u1 hY1 v1 hB7
   rintro w6 ⟨bb, hX, u, hY, v⟩
   obtain ⟨E, hE⟩ : ∃ E, E = oneR f A := ⟨_, rfl⟩
   obtain ⟨T, hT⟩ : ∃ T, T = resT (oneR f A) (oneT f A) := ⟨_, rfl⟩
   have hE' := Lib.hid hE; have hT' := Lib.hid hT
   rw [← hT] at hX hY
   rw [← hE]
   clear hE hT
   have q0 := u.c0; have q1 := u.c1; have q2 := u.c2; have r0 := v.c0; have r1 := v.c1; have r2 := v.c2
   replace bb := Lib.hid bb; replace hX := Lib.hid hX; replace u := Lib.hid u; replace hY := Lib.hid hY; replace v := Lib.hid v
   go_wp2_with fail
   refine ((same10_any T T _ _ _ _ _ _ E E w6 hX.out hY.out).mono fun _ _ h => BoolPost.tell (b := true) ⟨fun _ => ⟨rfl, same_refl _ (ArrP.full _ _ _ _ hX.out)⟩, fun _ => rfl⟩ h).mono ?_
   rintro e w7 ⟨rfl, hb⟩
   replace bb := Lib.hid (below_then bb.out (Nat.le_refl _) hb); replace u := Lib.hid (u.out.later hb); replace hX := Lib.hid (hX.out.later hb)
   clear q0 q1 q2 r0 r1 r2 hb v hY
   by_cases hE0 : E = 0
   ·subst hE0
    have hTr := Lib.hid (show RightT T 8 from by
     rw [hT'.out, ← hE'.out]
     exact one_right f A 8 hR.out (oneR_zero hE'.out.symm))
    have q0 := u.out.c0; have q1 := u.out.c1; have q2 := u.out.c2
    go_wp2_with fail
    refine ((right8_any T 8 _ _ _ w7 hX.out (by decide)).mono fun _ _ h => BoolPost.tell (b := true) ⟨fun _ => hTr.out, fun _ => rfl⟩ h).mono ?_
    rintro e w8 ⟨rfl, hb⟩
    replace bb := Lib.hid (below_then bb.out (Nat.le_refl _) hb)
    clear q0 q1 q2 hb u hX
    go_wp2_with fail
    refine (hA.out _).mono ?_
    rintro e wz ⟨rfl, hb⟩
    replace bb := Lib.hid (below_then bb.out (Nat.le_refl _) hb)
    clear hb
    go_wp2_with fail
    go_ret
    exact ⟨rfl, bb.out⟩
   ·have hEn : (E != 0) = true := by rw [bne_iff_ne]; exact hE0
    clear u hX
    go_wp2_with fail
    refine (hA.out _).mono ?_
    rintro e wz ⟨rfl, hb⟩
    replace bb := Lib.hid (below_then bb.out (Nat.le_refl _) hb)
    clear hb
    go_wp2_with fail
    go_ret
    exact ⟨rfl, bb.out⟩
end Go.Proofs.YtaepelipkkmeaaaGreat
