/-
  scrimref10.factorial.
  scrimref10.Numbers: powers.
  scrimref10.Number and Numbers: each word in one.
  scrimref10.Ones, Twos.
  What the functions of package scalar are to tell (as hypotheses of the walks of the statements); the document's One and Two, of any word.
  scrimref04.Small of a number whose bottom has not one limb; scrimlaw10.small.
  scrimref04.Small of a number whatever, with limbs of any length: it ends with an int and a bool.
  scrimlaw10.ScalarNumbers, walked.
  An api.Num that came in, with its sizes.
  ratio.Small; scalar.IsOne, IsTwo, truth.
  array.Num of a right number; scalar.Number but for not and the product.
-/
import Derived.Test.YtaepelipkkmeaaaGreatMgtA
import Derived.Test.YtaepelipkkmeaaaGreatMgtB
import Derived.Test.YtaepelipkkmeaaaGreatMgtC
import Derived.Test.YtaepelipkkmeaaaGreatMgtD
import Derived.Test.YtaepelipkkmeaaaGreatMgtE
import Derived.Test.YtaepelipkkmeaaaGreatMgtF
import Derived.Test.YtaepelipkkmeaaaGreatMgtG
import Derived.Test.YtaepelipkkmeaaaGreatMgtH
import Derived.Test.YtaepelipkkmeaaaGreatMgtScalarNumbers1
import Derived.Deep.LoopGhost
import Derived.WalkKit
import Derived.Lib.BitFns
import Derived.Laws.CopyOwn
import Derived.Deep.RegionWith
import Derived.Deep.RegionHeld3
import Derived.Deep.DrawnRows
import Derived.Deep.CutRange
import Derived.Lib.Small
import Derived.Lib.Walk
import Derived.Deep.QuietTactic
import Derived.BigQuiet
import Derived.WalkSpells
import Derived.WalkLawsBesides
import Derived.Lib.Hide
import Derived.Laws.AppendOwn
import Derived.Deep.AppendLies
import Derived.Laws.OwnMore
import Derived.OpenShut
import Derived.SizedLaws
import Derived.Lib.SliceRun
import Derived.Deep.RegionLaw
set_option maxRecDepth 20000
set_option maxHeartbeats 16000000
namespace Go.Proofs.YtaepelipkkmeaaaGreat
open Go.RowKit Num
attribute [local go_sem ↓] Go.wp_at_zero Go.wp_at_succ
theorem factZ_abs : (j : Nat) → j ≤ 200 → (factZ j).natAbs < pw (j + 1)
 | 0, _ => by show (1 : Int).natAbs < pw 1; decide
 | j + 1, h => by
  have := factZ_abs j (by omega)
  show (factZ j * ((j : Int) + 1)).natAbs < 4294967296 * pw (j + 1)
  rw [Int.natAbs_mul, show ((j : Int) + 1).natAbs = j + 1 by omega, Nat.mul_comm]
  exact Nat.lt_of_le_of_lt (Nat.mul_le_mul_right _ (show j + 1 ≤ 4294967295 by omega)) (by omega)
theorem factZ_lt {j : Nat} (h : j ≤ 200) : (factZ j).natAbs < pw 201 := Nat.lt_of_lt_of_le (factZ_abs j h) (pw_le (by omega))
theorem small_of {P : Int} {Q : Nat} (hQ : Q = 1) (h0 : -9223372036854775808 ≤ P) (h1 : P ≤ 9223372036854775807) : smallR P Q = .tuple #[.int .i64 P, .bool true] := by
 have e : smallQ P Q = true := by unfold smallQ isSmall; rw [decide_eq_true hQ, Bool.true_and]; exact decide_eq_true ⟨h0, h1⟩
 unfold smallR smallP; rw [e, if_pos rfl]
theorem small_200 {n : Nat} (h : n ≤ 201) : (n : Int).natAbs < pw 201 := Nat.lt_of_lt_of_le (show (n : Int).natAbs < pw 1 by rw [Int.natAbs_natCast]; exact Nat.lt_of_le_of_lt h (by decide)) (pw_le (by omega))
theorem fact10_any (ab : Bool) (ap aq : Option Addr) (an ac am ae : Nat) (P : Int) (Q : Nat) (w : World) (Ra : Rt w ab ap an ac aq am ae P Q) (la : Low P Q) :
  Calls Tryz.prog 62 #[.agg #[.bool ab, .slice ap an ac, .slice aq am ae]] w (NumRes (factR P Q) w) := by
 replace Ra := Lib.hid Ra; replace la := Lib.hid la
 go_enter Tryz.func62, Tryz.ntmps62
 go_upto_region 1 with fail
 refine gen_wp (fun w' => Below w.heap.size w w' ∧ Box3 w' w.heap.size (.bool ab) (.slice ap an ac) (.slice aq am ae) ∧ Box3 w' (w.heap.size + 1) (.bool false) (.slice none 0 0) (.slice none 0 0))
  ⟨(((Below.refl _ _).alloc (Nat.le_refl _) _).alloc (by simp <;> omega) _), ((Box3.new _ _ _ _ rfl).alloc _), (Box3.new _ _ _ _ (by simp <;> omega))⟩ ?_
 rintro w0 ⟨bb, Xa, X2⟩
 replace Ra := Ra.out.below bb
 replace bb := Lib.hid bb; replace Xa := Lib.hid Xa; replace X2 := Lib.hid X2; replace Ra := Lib.hid Ra
 have hng := Ra.out.top.neg
 by_cases hQ : Q = 1
 ·have hQ' := Lib.hid hQ
  clear hQ
  by_cases hP : P < 0
  ·have hab : ab = true := by rw [hng]; exact decide_eq_true hP
   have hP' := Lib.hid hP
   clear hP hng
   subst hab
   have p00 := Xa.out.c0; have p01 := Xa.out.c1; have p02 := Xa.out.c2
   go_wp2_with fail
   clear p00 p01 p02
   refine ((isWhole_any true ap aq an ac am ae P Q _ Ra.out).mono fun _ _ h => (show Says (.bool true) _ _ _ by rw [decide_eq_true hQ'.out] at h; exact h)).mono ?_
   rintro e v1 ⟨rfl, hb⟩
   replace bb := Lib.hid (below_then bb.out (Nat.le_refl _) hb); replace Xa := Lib.hid (Xa.out.later hb); replace X2 := Lib.hid (X2.out.later hb); replace Ra := Lib.hid (Ra.out.below hb)
   clear hb
   have p00 := Xa.out.c0; have p01 := Xa.out.c1; have p02 := Xa.out.c2
   replace X2 := X2.out
   replace bb := bb.out
   have q0 := X2.c0; have q1 := X2.c1; have q2 := X2.c2; have q3 := X2.fr 0; have q4 := X2.fr 1; have q5 := X2.fr 2
   have zz := X2.set (.bool false) (.slice none 0 0) (.slice none 0 0)
   have e0 := zz.c0; have e1 := zz.c1; have e2 := zz.c2
   have Y2 := Lib.hid X2; have bb' := Lib.hid bb
   clear zz X2 bb
   go_wp2_with fail
   refine bodyPost_ret (v := .tuple #[.agg #[.bool false, .slice none 0 0, .slice none 0 0], .int .i64 (3)]) (by simp [results, Tryz.results62, go_sem, e0, e1, e2]) rfl ?_
   exact NumRes.of (ResPost.stored (rt_zero _) Y2.out bb'.out (by omega)) (if_neg (fun e => absurd e.2 (Int.not_le.2 hP'.out)))
  ·have hab : ab = false := by rw [hng]; exact decide_eq_false hP
   have hP0 : 0 ≤ P := by omega
   clear hP hng
   subst hab
   have p00 := Xa.out.c0; have p01 := Xa.out.c1; have p02 := Xa.out.c2
   go_wp2_with fail
   clear p00 p01 p02
   refine ((isWhole_any false ap aq an ac am ae P Q _ Ra.out).mono fun _ _ h => (show Says (.bool true) _ _ _ by rw [decide_eq_true hQ'.out] at h; exact h)).mono ?_
   rintro e v1 ⟨rfl, hb⟩
   replace bb := Lib.hid (below_then bb.out (Nat.le_refl _) hb); replace Xa := Lib.hid (Xa.out.later hb); replace X2 := Lib.hid (X2.out.later hb); replace Ra := Lib.hid (Ra.out.below hb)
   clear hb
   have p00 := Xa.out.c0; have p01 := Xa.out.c1; have p02 := Xa.out.c2
   by_cases h200 : P ≤ 200
   ·have hP0' := Lib.hid hP0
    obtain ⟨c, hc, hcd⟩ : ∃ c, c = cmpI (P * ((1 : Nat) : Int)) (200 * (Q : Int)) ∧ decide ((0 : Int) < c) = false := ⟨_, rfl, decide_eq_false (by rw [hQ'.out]; unfold cmpI; split <;> (try split) <;> omega)⟩
    replace hc := Lib.hid hc
    go_upto_region 3 with fail
    clear p00 p01 p02
    replace bb := bb.out; replace Xa := Xa.out; replace X2 := X2.out; replace Ra := Ra.out
    have bb := bb.drew; have Xa := Xa.drew; have X2 := X2.drew; have Ra := Ra.drew
    have sa0 := True.intro
    go_region_held3 (fun w' => w'.cell? ⟨w.heap.size, 0, none⟩ = some (.bool false) ∧ w'.cell? ⟨w.heap.size, 1, none⟩ = some (.slice ap an ac) ∧ w'.cell? ⟨w.heap.size, 2, none⟩ = some (.slice aq am ae))
     (first | with_reducible exact ⟨Xa.c0, Xa.c1, Xa.c2⟩ | with_reducible exact ⟨(Xa.other3 (by omega) _ _ _).c0, (Xa.other3 (by omega) _ _ _).c1, (Xa.other3 (by omega) _ _ _).c2⟩ | go_keep)
     (first
     | (go_at_call 47; clear sa0; refine (of4_any 200 _ (by decide) (by decide)).mono ?_; rintro e w' ⟨ob, op, on, oc, oq, om, oe, rfl, O, hb⟩; have bb := below_then bb (Nat.le_refl _) hb; have Xa := Xa.later hb; have X2 := X2.later hb; have Ra := Ra.below hb; clear hb; have sa1 := True.intro)
     | (go_at_call 59; clear sa1; refine ((rCmp4_any false ap aq an ac am ae P Q ob op oq on oc om oe 200 1 _ Ra la.out O (low_one (Nat.lt_of_lt_of_le (show (200 : Int).natAbs < pw 1 by decide) (pw_le (by omega))))).mono fun _ _ h => (show Says (.int .i64 c) _ _ _ by rw [hc.out]; exact h)).mono ?_; rintro e w' ⟨rfl, hb⟩; have bb := below_then bb (Nat.le_refl _) hb; have Xa := Xa.later hb; have X2 := X2.later hb; have Ra := Ra.below hb; have O := O.below hb; clear hb; have sa2 := True.intro))
    replace bb := Lib.hid bb; replace Xa := Lib.hid Xa; replace X2 := Lib.hid X2; replace Ra := Lib.hid Ra
    clear O
    have p00 := Xa.out.c0; have p01 := Xa.out.c1; have p02 := Xa.out.c2
    go_wp2_with fail
    clear p00 p01 p02
    refine ((small4_any false ap aq an ac am ae P Q _ Ra.out la.out).mono fun _ _ h => (show Says (.tuple #[.int .i64 P, .bool true]) _ _ _ by rw [small_of hQ'.out (by omega) (by omega)] at h; exact h)).mono ?_
    rintro e v2 ⟨rfl, hb⟩
    replace bb := Lib.hid (below_then bb.out (Nat.le_refl _) hb); replace Xa := Lib.hid (Xa.out.later hb); replace X2 := Lib.hid (X2.out.later hb); replace Ra := Lib.hid (Ra.out.below hb)
    clear hb
    go_wp2_with fail
    refine (rOf_any 1 _ (by decide) (by decide)).mono ?_
    rintro e v3 ⟨tb, to_, tn, tc, rfl, T, hb⟩
    replace bb := Lib.hid (below_then bb.out (Nat.le_refl _) hb); replace Xa := Lib.hid (Xa.out.later hb); replace X2 := Lib.hid (X2.out.later hb); replace Ra := Lib.hid (Ra.out.below hb)
    have hgt := X2.out.lt
    replace T := Lib.hid T
    clear hb
    go_upto_region 7 with fail
    refine gen_wp (fun w' => Below w.heap.size w w' ∧ Box3 w' w.heap.size (.bool false) (.slice ap an ac) (.slice aq am ae) ∧ Box3 w' (w.heap.size + 1) (.bool false) (.slice none 0 0) (.slice none 0 0) ∧ Box w' v3.heap.size (.bool tb) (.slice to_ tn tc) ∧ Rt w' false ap an ac aq am ae P Q ∧ Right w' tb to_ tn tc 1)
     ⟨bb.out.alloc bb.out.size _, Xa.out.alloc _, X2.out.alloc _, Box.new _ _ _ rfl, Ra.out.alloc _, T.out.alloc _⟩ ?_
    clear bb Xa X2 Ra T
    rintro x3 ⟨bb, Xa, X2, XB, Ra, T⟩
    replace bb := Lib.hid bb; replace Xa := Lib.hid Xa; replace X2 := Lib.hid X2; replace XB := Lib.hid XB; replace Ra := Lib.hid Ra; replace T := Lib.hid T
    clear Ra Xa
    go_wp2_with fail
    go_loopw [7] (fun v wr => ∃ (j : Nat) (sb : Bool) (so : Option Addr) (sn sc : Nat), v = .int .i64 ((j : Int) + 1) ∧ (j : Int) ≤ P ∧ Box wr v3.heap.size (.bool sb) (.slice so sn sc) ∧ Right wr sb so sn sc (factZ j) ∧ Box3 wr (w.heap.size + 1) (.bool false) (.slice none 0 0) (.slice none 0 0) ∧ Below w.heap.size w wr) (fun v _ => 201 - (intOf v).toNat)
    case atStart => exact ⟨0, _, _, _, _, rfl, by simpa using hP0, XB.out, T.out, X2.out, bb.out⟩
    case round =>
     clear XB T X2 bb
     obtain ⟨j, sb, so, sn, sc, rfl, hj, XB, T, X2, bb⟩ := hrel
     have lt1 := Lib.hid (factZ_lt (j := j) (by omega))
     by_cases hl : (j : Int) + 1 ≤ P
     ·have lt2 := Lib.hid (small_200 (n := j + 1) (by omega))
      go_upto_region 10 with fail
      have XB := XB.drew; have T := T.drew; have X2 := X2.drew; have bb := bb.drew
      have p0 := XB.c0; have p1 := XB.c1
      have s0 := True.intro
      go_region_with (first
       | (go_at_call 97; clear s0; refine (rOf_any ((j : Int) + 1) _ (by omega) (by omega)).mono ?_; rintro e w' ⟨ub, uo, un, uc, rfl, U, hb⟩; have bb := below_then bb (Nat.le_refl _) hb; have XB := XB.later hb; have X2 := X2.later hb; have T := T.below hb; clear hb; have p0 := XB.c0; have p1 := XB.c1)
       | (go_at_call 120; refine (rMul_any sb ub so uo sn sc un uc (factZ j) ((j : Int) + 1) _ (T.whole lt1.out (by omega)) (U.whole lt2.out (by omega)) 201 (by omega) lt1.out lt2.out).mono ?_; rintro e w' ⟨mb, mo, mn, mc, rfl, M, hb⟩; have bb := below_then bb (Nat.le_refl _) hb; have XB := XB.later hb; have X2 := X2.later hb; clear hb; have q0 := XB.c0; have q1 := XB.c1; have q2 := XB.fr 0; have q3 := XB.fr 1))
      all_goals
       have bw := Lib.hid (below_set bb (show w.heap.size ≤ v3.heap.size by omega) (.bool mb) (.slice mo mn mc))
       have z2 := Lib.hid (X2.other (show w.heap.size + 1 ≠ v3.heap.size by omega) (.bool mb) (.slice mo mn mc))
       have zB := Lib.hid (XB.set (.bool mb) (.slice mo mn mc))
       have zM := Lib.hid (M.box XB (.bool mb) (.slice mo mn mc))
       go_wp2_with fail
       go_roundw
       case rel => exact ⟨j + 1, _, _, _, _, by go_num, by omega, zB.out, zM.out, z2.out, bw.out⟩
       case measure => simp [intOf]; omega
     ·have ej : P.toNat = j := by omega
      have hR : Hid (factR P Q = (mkT (factZ j) 1, mkB (factZ j) 1, mkE (factZ j) 1)) := Lib.hid (by unfold factR; rw [if_pos ⟨hQ'.out, hP0⟩, if_pos h200, ej])
      have lt2 := Lib.hid (small_200 (n := 1) (by omega))
      go_upto_region 11 with fail
      have XB := XB.drew; have T := T.drew; have X2 := X2.drew; have bb := bb.drew
      have sb0 := True.intro
      go_region_held3 (fun w' => w'.cell? ⟨v3.heap.size, 0, none⟩ = some (.bool sb) ∧ w'.cell? ⟨v3.heap.size, 1, none⟩ = some (.slice so sn sc))
       (first | with_reducible exact ⟨XB.c0, XB.c1⟩ | with_reducible exact ⟨(XB.other3 (by omega) _ _ _).c0, (XB.other3 (by omega) _ _ _).c1⟩ | go_keep)
       (first
       | (go_at_call 97; clear sb0; refine (rOf_any 1 _ (by decide) (by decide)).mono ?_; rintro e w' ⟨ub, uo, un, uc, rfl, U, hb⟩; have bb := below_then bb (Nat.le_refl _) hb; have XB := XB.later hb; have X2 := X2.later hb; have T := T.below hb; clear hb; have sb1 := True.intro)
       | (go_at_call 42; clear sb1; refine (rMake_any sb ub so uo sn sc un uc (factZ j) 1 _ (T.whole lt1.out (by omega)) (U.whole lt2.out (by omega)) 201 (by omega) lt1.out lt2.out).mono ?_; rintro e w' ⟨db, dp, dn, dc, dq, dm, de, rfl, D, hb⟩; have bb := below_then bb (Nat.le_refl _) hb; have XB := XB.later hb; have X2 := X2.later hb; have T := T.below hb; have U := U.below hb; clear hb; have q0 := X2.c0; have q1 := X2.c1; have q2 := X2.c2; have q3 := X2.fr 0; have q4 := X2.fr 1; have q5 := X2.fr 2; have sb2 := True.intro))
      have zz := X2.set (.bool db) (.slice dp dn dc) (.slice dq dm de)
      have e0 := zz.c0; have e1 := zz.c1; have e2 := zz.c2
      have Y2 := Lib.hid X2; have bb' := Lib.hid bb
      clear zz X2 bb
      go_wp2_with fail
      refine bodyPost_ret (v := .tuple #[.agg #[.bool db, .slice dp dn dc, .slice dq dm de], .int .i64 (mkE (factZ j) 1)]) (by simp [results, Tryz.results62, go_sem, e0, e1, e2]) rfl ?_
      exact NumRes.of (ResPost.stored D Y2.out bb'.out (by omega)) hR.out
   ·have hP2 := Lib.hid h200
    have hc : Hid (1 = cmpI (P * ((1 : Nat) : Int)) (200 * (Q : Int))) := Lib.hid (cmpI_gt (by rw [hQ'.out]; omega)).symm
    go_upto_region 3 with fail
    clear p00 p01 p02
    replace bb := bb.out; replace Xa := Xa.out; replace X2 := X2.out; replace Ra := Ra.out
    have bb := bb.drew; have Xa := Xa.drew; have X2 := X2.drew; have Ra := Ra.drew
    have sc0 := True.intro
    go_region_held3 (fun w' => w'.cell? ⟨w.heap.size, 0, none⟩ = some (.bool false) ∧ w'.cell? ⟨w.heap.size, 1, none⟩ = some (.slice ap an ac) ∧ w'.cell? ⟨w.heap.size, 2, none⟩ = some (.slice aq am ae))
     (first | with_reducible exact ⟨Xa.c0, Xa.c1, Xa.c2⟩ | with_reducible exact ⟨(Xa.other3 (by omega) _ _ _).c0, (Xa.other3 (by omega) _ _ _).c1, (Xa.other3 (by omega) _ _ _).c2⟩ | go_keep)
     (first
     | (go_at_call 47; clear sc0; refine (of4_any 200 _ (by decide) (by decide)).mono ?_; rintro e w' ⟨ob, op, on, oc, oq, om, oe, rfl, O, hb⟩; have bb := below_then bb (Nat.le_refl _) hb; have Xa := Xa.later hb; have X2 := X2.later hb; have Ra := Ra.below hb; clear hb; have sc1 := True.intro)
     | (go_at_call 59; clear sc1; refine ((rCmp4_any false ap aq an ac am ae P Q ob op oq on oc om oe 200 1 _ Ra la.out O (low_one (Nat.lt_of_lt_of_le (show (200 : Int).natAbs < pw 1 by decide) (pw_le (by omega))))).mono fun _ _ h => (show Says (.int .i64 1) _ _ _ by rw [hc.out]; exact h)).mono ?_; rintro e w' ⟨rfl, hb⟩; have bb := below_then bb (Nat.le_refl _) hb; have Xa := Xa.later hb; have X2 := X2.later hb; have Ra := Ra.below hb; have O := O.below hb; clear hb; have sc2 := True.intro))
    replace bb := Lib.hid bb; replace Xa := Lib.hid Xa; replace X2 := Lib.hid X2; replace Ra := Lib.hid Ra
    clear O
    replace X2 := X2.out
    replace bb := bb.out
    have q0 := X2.c0; have q1 := X2.c1; have q2 := X2.c2; have q3 := X2.fr 0; have q4 := X2.fr 1; have q5 := X2.fr 2
    have zz := X2.set (.bool false) (.slice none 0 0) (.slice none 0 0)
    have e0 := zz.c0; have e1 := zz.c1; have e2 := zz.c2
    have Y2 := Lib.hid X2; have bb' := Lib.hid bb
    clear zz X2 bb
    go_wp2_with fail
    refine bodyPost_ret (v := .tuple #[.agg #[.bool false, .slice none 0 0, .slice none 0 0], .int .i64 (7)]) (by simp [results, Tryz.results62, go_sem, e0, e1, e2]) rfl ?_
    exact NumRes.of (ResPost.stored (rt_zero _) Y2.out bb'.out (by omega)) (by unfold factR; rw [if_pos ⟨hQ'.out, hP0⟩, if_neg (Int.not_le.2 hP2.out)])
 ·have hQ' := Lib.hid hQ
  clear hQ hng
  have p00 := Xa.out.c0; have p01 := Xa.out.c1; have p02 := Xa.out.c2
  go_wp2_with fail
  clear p00 p01 p02
  refine ((isWhole_any ab ap aq an ac am ae P Q _ Ra.out).mono fun _ _ h => (show Says (.bool false) _ _ _ by rw [decide_eq_false hQ'.out] at h; exact h)).mono ?_
  rintro e v1 ⟨rfl, hb⟩
  replace bb := Lib.hid (below_then bb.out (Nat.le_refl _) hb); replace Xa := Lib.hid (Xa.out.later hb); replace X2 := Lib.hid (X2.out.later hb); replace Ra := Lib.hid (Ra.out.below hb)
  clear hb
  replace X2 := X2.out
  replace bb := bb.out
  have q0 := X2.c0; have q1 := X2.c1; have q2 := X2.c2; have q3 := X2.fr 0; have q4 := X2.fr 1; have q5 := X2.fr 2
  have zz := X2.set (.bool false) (.slice none 0 0) (.slice none 0 0)
  have e0 := zz.c0; have e1 := zz.c1; have e2 := zz.c2
  have Y2 := Lib.hid X2; have bb' := Lib.hid bb
  clear zz X2 bb
  go_wp2_with fail
  refine bodyPost_ret (v := .tuple #[.agg #[.bool false, .slice none 0 0, .slice none 0 0], .int .i64 (3)]) (by simp [results, Tryz.results62, go_sem, e0, e1, e2]) rfl ?_
  exact NumRes.of (ResPost.stored (rt_zero _) Y2.out bb'.out (by omega)) (if_neg (fun e => hQ'.out e.1))
end Go.Proofs.YtaepelipkkmeaaaGreat
namespace Go.Proofs.YtaepelipkkmeaaaGreat
open Go.RowKit Num
attribute [local go_sem ↓] Go.wp_at_zero Go.wp_at_succ
theorem num2_pow (ab : Bool) (ap aq : Option Addr) (an ac am ae : Nat) (P : Int) (Q : Nat) (cb : Bool) (cp cq : Option Addr) (cn cc cm ce : Nat) (R : Int) (S : Nat) (w : World) (Ra : Rt w ab ap an ac aq am ae P Q) (la : Low P Q) (Rb : Rt w cb cp cn cc cq cm ce R S) (lb : Low R S) :
  Calls Tryz.prog 20 #[.int .i64 42, .agg #[.bool ab, .slice ap an ac, .slice aq am ae], .agg #[.bool cb, .slice cp cn cc, .slice cq cm ce]] w (NumRes (powN P Q R S) w) := by
 obtain ⟨c, hc⟩ : ∃ c, c = cmpI (P * S) (R * Q) := ⟨_, rfl⟩
 replace hc := Lib.hid hc
 replace Ra := Lib.hid Ra; replace la := Lib.hid la; replace Rb := Lib.hid Rb; replace lb := Lib.hid lb
 go_enter Tryz.func20, Tryz.ntmps20
 go_upto_region 1 with fail
 refine gen_wp (fun w' => Below w.heap.size w w' ∧ Box3 w' w.heap.size (.bool ab) (.slice ap an ac) (.slice aq am ae) ∧ Box3 w' (w.heap.size + 1) (.bool cb) (.slice cp cn cc) (.slice cq cm ce) ∧ Box3 w' (w.heap.size + 2) (.bool false) (.slice none 0 0) (.slice none 0 0))
  ⟨((((Below.refl _ _).alloc (Nat.le_refl _) _).alloc (by simp <;> omega) _).alloc (by simp <;> omega) _), (((Box3.new _ _ _ _ rfl).alloc _).alloc _), ((Box3.new _ _ _ _ (by simp <;> omega)).alloc _), (Box3.new _ _ _ _ (by simp <;> omega))⟩ ?_
 rintro w0 ⟨bb, Xa, Xb, X2⟩
 replace Ra := Ra.out.below bb; replace Rb := Rb.out.below bb
 replace bb := Lib.hid bb; replace Xa := Lib.hid Xa; replace Xb := Lib.hid Xb; replace X2 := Lib.hid X2; replace Ra := Lib.hid Ra; replace Rb := Lib.hid Rb
 have p00 := Xa.out.c0; have p01 := Xa.out.c1; have p02 := Xa.out.c2; have p10 := Xb.out.c0; have p11 := Xb.out.c1; have p12 := Xb.out.c2
 go_wp2_with fail
 clear p00 p01 p02 p10 p11 p12
 refine ((rCmp4_any ab ap aq an ac am ae P Q cb cp cq cn cc cm ce R S _ Ra.out la.out Rb.out lb.out).mono fun _ _ h => (show Says (.int .i64 c) _ _ _ by rw [hc.out]; exact h)).mono ?_
 rintro e v1 ⟨rfl, hb⟩
 replace bb := Lib.hid (below_then bb.out (Nat.le_refl _) hb); replace Xa := Lib.hid (Xa.out.later hb); replace Xb := Lib.hid (Xb.out.later hb); replace X2 := Lib.hid (X2.out.later hb); replace Ra := Lib.hid (Ra.out.below hb); replace Rb := Lib.hid (Rb.out.below hb)
 clear hb
 have p00 := Xb.out.c0; have p01 := Xb.out.c1; have p02 := Xb.out.c2
 go_wp2_with fail
 clear p00 p01 p02
 refine ((small4_any cb cp cq cn cc cm ce R S _ Rb.out lb.out).mono fun _ _ h => (show Says (.tuple #[.int .i64 (smallP R S), .bool (smallQ R S)]) _ _ _ from h)).mono ?_
 rintro e v2 ⟨rfl, hb⟩
 replace bb := Lib.hid (below_then bb.out (Nat.le_refl _) hb); replace Xa := Lib.hid (Xa.out.later hb); replace Xb := Lib.hid (Xb.out.later hb); replace X2 := Lib.hid (X2.out.later hb); replace Ra := Lib.hid (Ra.out.below hb); replace Rb := Lib.hid (Rb.out.below hb)
 clear hb
 have hsb := Lib.hid (small_bounds (P := R) (Q := S))
 obtain ⟨n, hn⟩ : ∃ n, n = smallP R S := ⟨_, rfl⟩
 rw [← hn] at hsb ⊢
 replace hn := Lib.hid hn
 cases hq : smallQ R S
 ·have hq' := Lib.hid hq
  clear hq
  replace X2 := X2.out
  replace bb := bb.out
  have q0 := X2.c0; have q1 := X2.c1; have q2 := X2.c2; have q3 := X2.fr 0; have q4 := X2.fr 1; have q5 := X2.fr 2
  have zz := X2.set (.bool false) (.slice none 0 0) (.slice none 0 0)
  have e0 := zz.c0; have e1 := zz.c1; have e2 := zz.c2
  have Y2 := Lib.hid X2; have bb' := Lib.hid bb
  clear zz X2 bb
  go_wp2_with fail
  refine bodyPost_ret (v := .tuple #[.agg #[.bool false, .slice none 0 0, .slice none 0 0], .int .i64 (8)]) (by simp [results, Tryz.results20, go_sem, e0, e1, e2]) rfl ?_
  exact NumRes.of (ResPost.stored (rt_zero _) Y2.out bb'.out (by omega)) (if_neg (by rw [hq'.out]; decide))
 ·have hq' := Lib.hid hq
  clear hq
  have p00 := Xa.out.c0; have p01 := Xa.out.c1; have p02 := Xa.out.c2
  go_wp2_with fail
  clear p00 p01 p02
  refine (rPow4_any ab ap aq an ac am ae P Q n _ Ra.out la.out hsb.out.1 hsb.out.2).mono ?_
  rintro e v3 ⟨db, dp, dn, dc, dq, dm, de, rfl, D, hb⟩
  replace bb := Lib.hid (below_then bb.out (Nat.le_refl _) hb); replace Xa := Lib.hid (Xa.out.later hb); replace Xb := Lib.hid (Xb.out.later hb); replace X2 := Lib.hid (X2.out.later hb); replace Ra := Lib.hid (Ra.out.below hb); replace Rb := Lib.hid (Rb.out.below hb)
  replace D := Lib.hid D
  clear hb
  replace X2 := X2.out
  replace bb := bb.out
  have q0 := X2.c0; have q1 := X2.c1; have q2 := X2.c2; have q3 := X2.fr 0; have q4 := X2.fr 1; have q5 := X2.fr 2
  have zz := X2.set (.bool db) (.slice dp dn dc) (.slice dq dm de)
  have e0 := zz.c0; have e1 := zz.c1; have e2 := zz.c2
  have Y2 := Lib.hid X2; have bb' := Lib.hid bb
  clear zz X2 bb
  go_wp2_with fail
  refine bodyPost_ret (v := .tuple #[.agg #[.bool db, .slice dp dn dc, .slice dq dm de], .int .i64 ((powRes P Q n).2.2)]) (by simp [results, Tryz.results20, go_sem, e0, e1, e2]) rfl ?_
  exact NumRes.of (ResPost.stored D.out Y2.out bb'.out (by omega)) (by unfold powN; rw [if_pos hq'.out, ← hn.out])
end Go.Proofs.YtaepelipkkmeaaaGreat
namespace Go.Proofs.YtaepelipkkmeaaaGreat
open Go.RowKit Num
attribute [local go_sem ↓] Go.wp_at_zero Go.wp_at_succ
theorem num10_fact (ab : Bool) (ap aq : Option Addr) (an ac am ae : Nat) (P : Int) (Q : Nat) (w : World) (Ra : Rt w ab ap an ac aq am ae P Q) (la : Low P Q) :
  Calls Tryz.prog 18 #[.int .i64 33, .agg #[.bool ab, .slice ap an ac, .slice aq am ae]] w (NumRes (factR P Q) w) := by
 replace Ra := Lib.hid Ra; replace la := Lib.hid la
 go_enter Tryz.func18, Tryz.ntmps18
 go_upto_region 1 with fail
 refine gen_wp (fun w' => Below w.heap.size w w' ∧ Box3 w' w.heap.size (.bool ab) (.slice ap an ac) (.slice aq am ae) ∧ Box3 w' (w.heap.size + 1) (.bool false) (.slice none 0 0) (.slice none 0 0))
  ⟨(((Below.refl _ _).alloc (Nat.le_refl _) _).alloc (by simp <;> omega) _), ((Box3.new _ _ _ _ rfl).alloc _), (Box3.new _ _ _ _ (by simp <;> omega))⟩ ?_
 rintro w0 ⟨bb, Xa, X2⟩
 replace Ra := Ra.out.below bb
 replace bb := Lib.hid bb; replace Xa := Lib.hid Xa; replace X2 := Lib.hid X2; replace Ra := Lib.hid Ra
 have p00 := Xa.out.c0; have p01 := Xa.out.c1; have p02 := Xa.out.c2
 go_wp2_with fail
 clear p00 p01 p02
 refine (fact10_any ab ap aq an ac am ae P Q _ Ra.out la.out).mono ?_
 rintro e v1 ⟨db, dp, dn, dc, dq, dm, de, rfl, D, hb⟩
 replace bb := Lib.hid (below_then bb.out (Nat.le_refl _) hb); replace Xa := Lib.hid (Xa.out.later hb); replace X2 := Lib.hid (X2.out.later hb); replace Ra := Lib.hid (Ra.out.below hb)
 replace D := Lib.hid D
 clear hb
 replace X2 := X2.out
 replace bb := bb.out
 have q0 := X2.c0; have q1 := X2.c1; have q2 := X2.c2; have q3 := X2.fr 0; have q4 := X2.fr 1; have q5 := X2.fr 2
 have zz := X2.set (.bool db) (.slice dp dn dc) (.slice dq dm de)
 have e0 := zz.c0; have e1 := zz.c1; have e2 := zz.c2
 have Y2 := Lib.hid X2; have bb' := Lib.hid bb
 clear zz X2 bb
 go_wp2_with fail
 refine bodyPost_ret (v := .tuple #[.agg #[.bool db, .slice dp dn dc, .slice dq dm de], .int .i64 ((factR P Q).2.2)]) (by simp [results, Tryz.results18, go_sem, e0, e1, e2]) rfl ?_
 exact (ResPost.stored D.out Y2.out bb'.out (by omega))
theorem number10_any (f : Int) (ab : Bool) (ap aq : Option Addr) (an ac am ae : Nat) (P : Int) (Q : Nat) (w : World) (Ra : Rt w ab ap an ac aq am ae P Q) (la : Low P Q) :
  Calls Tryz.prog 18 #[.int .i64 f, .agg #[.bool ab, .slice ap an ac, .slice aq am ae]] w (NumRes (numR f P Q) w) := by
 by_cases h43 : f = 43
 ·subst h43; exact (num10_plus ab ap aq an ac am ae P Q w Ra la).mono fun _ _ h => (show NumRes (numR 43 P Q) w _ _ from by rw [show numR 43 P Q = _ from (by unfold numR; rw [if_pos rfl])]; exact h)
 by_cases h45 : f = 45
 ·subst h45; exact (num10_minus ab ap aq an ac am ae P Q w Ra la).mono fun _ _ h => (show NumRes (numR 45 P Q) w _ _ from by rw [show numR 45 P Q = _ from (by unfold numR; rw [if_neg (by decide), if_pos rfl])]; exact h)
 by_cases h215 : f = 215
 ·subst h215; exact (num10_times ab ap aq an ac am ae P Q w Ra la).mono fun _ _ h => (show NumRes (numR 215 P Q) w _ _ from by rw [show numR 215 P Q = _ from (by unfold numR; rw [if_neg (by decide), if_neg (by decide), if_pos rfl])]; exact h)
 by_cases h247 : f = 247
 ·subst h247; exact (num10_div ab ap aq an ac am ae P Q w Ra la).mono fun _ _ h => (show NumRes (numR 247 P Q) w _ _ from by rw [show numR 247 P Q = _ from (by unfold numR; rw [if_neg (by decide), if_neg (by decide), if_neg (by decide), if_pos rfl])]; exact h)
 by_cases h8968 : f = 8968
 ·subst h8968; exact (num10_ceil ab ap aq an ac am ae P Q w Ra la).mono fun _ _ h => (show NumRes (numR 8968 P Q) w _ _ from by rw [show numR 8968 P Q = _ from (by unfold numR; rw [if_neg (by decide), if_neg (by decide), if_neg (by decide), if_neg (by decide), if_pos rfl])]; exact h)
 by_cases h8970 : f = 8970
 ·subst h8970; exact (num10_floor ab ap aq an ac am ae P Q w Ra la).mono fun _ _ h => (show NumRes (numR 8970 P Q) w _ _ from by rw [show numR 8970 P Q = _ from (by unfold numR; rw [if_neg (by decide), if_neg (by decide), if_neg (by decide), if_neg (by decide), if_neg (by decide), if_pos rfl])]; exact h)
 by_cases h124 : f = 124
 ·subst h124; exact (num10_abs ab ap aq an ac am ae P Q w Ra la).mono fun _ _ h => (show NumRes (numR 124 P Q) w _ _ from by rw [show numR 124 P Q = _ from (by unfold numR; rw [if_neg (by decide), if_neg (by decide), if_neg (by decide), if_neg (by decide), if_neg (by decide), if_neg (by decide), if_pos rfl])]; exact h)
 by_cases h126 : f = 126
 ·subst h126; exact (num10_not ab ap aq an ac am ae P Q w Ra la).mono fun _ _ h => (show NumRes (numR 126 P Q) w _ _ from by rw [show numR 126 P Q = _ from (by unfold numR; rw [if_neg (by decide), if_neg (by decide), if_neg (by decide), if_neg (by decide), if_neg (by decide), if_neg (by decide), if_neg (by decide), if_pos rfl])]; exact h)
 by_cases h33 : f = 33
 ·subst h33; exact (num10_fact ab ap aq an ac am ae P Q w Ra la).mono fun _ _ h => (show NumRes (numR 33 P Q) w _ _ from by rw [show numR 33 P Q = _ from (by unfold numR; rw [if_neg (by decide), if_neg (by decide), if_neg (by decide), if_neg (by decide), if_neg (by decide), if_neg (by decide), if_neg (by decide), if_neg (by decide), if_pos rfl])]; exact h)
 exact (num10_none f ab ap aq an ac am ae P Q w Ra la h43 h45 h215 h247 h8968 h8970 h124 h126 h33).mono fun _ _ h => (show NumRes (numR f P Q) w _ _ from by rw [show numR f P Q = (0, 0, 8) from by unfold numR; rw [if_neg h43, if_neg h45, if_neg h215, if_neg h247, if_neg h8968, if_neg h8970, if_neg h124, if_neg h126, if_neg h33]]; exact h)
theorem numbers10_any (f : Int) (ab : Bool) (ap aq : Option Addr) (an ac am ae : Nat) (P : Int) (Q : Nat) (cb : Bool) (cp cq : Option Addr) (cn cc cm ce : Nat) (R : Int) (S : Nat) (w : World) (Ra : Rt w ab ap an ac aq am ae P Q) (la : Low P Q) (Rb : Rt w cb cp cn cc cq cm ce R S) (lb : Low R S) :
  Calls Tryz.prog 20 #[.int .i64 f, .agg #[.bool ab, .slice ap an ac, .slice aq am ae], .agg #[.bool cb, .slice cp cn cc, .slice cq cm ce]] w (NumRes (num2R f P Q R S) w) := by
 by_cases h43 : f = 43
 ·subst h43; exact num2_call 43 _ ab ap aq an ac am ae P Q cb cp cq cn cc cm ce R S w Ra la Rb lb ((.inl ⟨rfl, (by unfold num2R; rw [if_pos rfl])⟩))
 by_cases h45 : f = 45
 ·subst h45; exact num2_call 45 _ ab ap aq an ac am ae P Q cb cp cq cn cc cm ce R S w Ra la Rb lb (.inr ((.inl ⟨rfl, (by unfold num2R; rw [if_neg (by decide), if_pos rfl])⟩)))
 by_cases h215 : f = 215
 ·subst h215; exact num2_call 215 _ ab ap aq an ac am ae P Q cb cp cq cn cc cm ce R S w Ra la Rb lb (.inr (.inr ((.inl ⟨rfl, (by unfold num2R; rw [if_neg (by decide), if_neg (by decide), if_pos rfl])⟩))))
 by_cases h247 : f = 247
 ·subst h247; exact num2_call 247 _ ab ap aq an ac am ae P Q cb cp cq cn cc cm ce R S w Ra la Rb lb (.inr (.inr (.inr ((.inl ⟨rfl, (by unfold num2R; rw [if_neg (by decide), if_neg (by decide), if_neg (by decide), if_pos rfl])⟩)))))
 by_cases h8968 : f = 8968
 ·subst h8968; exact (num2_max ab ap aq an ac am ae P Q cb cp cq cn cc cm ce R S w Ra la Rb lb).mono fun _ _ h => (show NumRes (num2R 8968 P Q R S) w _ _ from by rw [show num2R 8968 P Q R S = _ from (by unfold num2R; rw [if_neg (by decide), if_neg (by decide), if_neg (by decide), if_neg (by decide), if_pos rfl])]; exact h)
 by_cases h8970 : f = 8970
 ·subst h8970; exact (num2_min ab ap aq an ac am ae P Q cb cp cq cn cc cm ce R S w Ra la Rb lb).mono fun _ _ h => (show NumRes (num2R 8970 P Q R S) w _ _ from by rw [show num2R 8970 P Q R S = _ from (by unfold num2R; rw [if_neg (by decide), if_neg (by decide), if_neg (by decide), if_neg (by decide), if_neg (by decide), if_pos rfl])]; exact h)
 by_cases h124 : f = 124
 ·subst h124; exact num2_call 124 _ ab ap aq an ac am ae P Q cb cp cq cn cc cm ce R S w Ra la Rb lb (.inr (.inr (.inr (.inr ((.inl ⟨rfl, (by unfold num2R; rw [if_neg (by decide), if_neg (by decide), if_neg (by decide), if_neg (by decide), if_neg (by decide), if_neg (by decide), if_pos rfl])⟩))))))
 by_cases h42 : f = 42
 ·subst h42; exact (num2_pow ab ap aq an ac am ae P Q cb cp cq cn cc cm ce R S w Ra la Rb lb).mono fun _ _ h => (show NumRes (num2R 42 P Q R S) w _ _ from by rw [show num2R 42 P Q R S = _ from (by unfold num2R; rw [if_neg (by decide), if_neg (by decide), if_neg (by decide), if_neg (by decide), if_neg (by decide), if_neg (by decide), if_neg (by decide), if_pos rfl])]; exact h)
 by_cases h60 : f = 60
 ·subst h60; exact num2_truth 60 _ ab ap aq an ac am ae P Q cb cp cq cn cc cm ce R S w Ra la Rb lb ((.inl ⟨rfl, (by unfold num2R; rw [if_neg (by decide), if_neg (by decide), if_neg (by decide), if_neg (by decide), if_neg (by decide), if_neg (by decide), if_neg (by decide), if_neg (by decide), if_pos rfl])⟩))
 by_cases h8804 : f = 8804
 ·subst h8804; exact num2_truth 8804 _ ab ap aq an ac am ae P Q cb cp cq cn cc cm ce R S w Ra la Rb lb (.inr ((.inl ⟨rfl, (by unfold num2R; rw [if_neg (by decide), if_neg (by decide), if_neg (by decide), if_neg (by decide), if_neg (by decide), if_neg (by decide), if_neg (by decide), if_neg (by decide), if_neg (by decide), if_pos rfl])⟩)))
 by_cases h61 : f = 61
 ·subst h61; exact num2_truth 61 _ ab ap aq an ac am ae P Q cb cp cq cn cc cm ce R S w Ra la Rb lb (.inr (.inr ((.inl ⟨rfl, (by unfold num2R; rw [if_neg (by decide), if_neg (by decide), if_neg (by decide), if_neg (by decide), if_neg (by decide), if_neg (by decide), if_neg (by decide), if_neg (by decide), if_neg (by decide), if_neg (by decide), if_pos rfl])⟩))))
 by_cases h8805 : f = 8805
 ·subst h8805; exact num2_truth 8805 _ ab ap aq an ac am ae P Q cb cp cq cn cc cm ce R S w Ra la Rb lb (.inr (.inr (.inr ((.inl ⟨rfl, (by unfold num2R; rw [if_neg (by decide), if_neg (by decide), if_neg (by decide), if_neg (by decide), if_neg (by decide), if_neg (by decide), if_neg (by decide), if_neg (by decide), if_neg (by decide), if_neg (by decide), if_neg (by decide), if_pos rfl])⟩)))))
 by_cases h62 : f = 62
 ·subst h62; exact num2_truth 62 _ ab ap aq an ac am ae P Q cb cp cq cn cc cm ce R S w Ra la Rb lb (.inr (.inr (.inr (.inr ((.inl ⟨rfl, (by unfold num2R; rw [if_neg (by decide), if_neg (by decide), if_neg (by decide), if_neg (by decide), if_neg (by decide), if_neg (by decide), if_neg (by decide), if_neg (by decide), if_neg (by decide), if_neg (by decide), if_neg (by decide), if_neg (by decide), if_pos rfl])⟩))))))
 by_cases h8800 : f = 8800
 ·subst h8800; exact num2_truth 8800 _ ab ap aq an ac am ae P Q cb cp cq cn cc cm ce R S w Ra la Rb lb (.inr (.inr (.inr (.inr (.inr (⟨rfl, (by unfold num2R; rw [if_neg (by decide), if_neg (by decide), if_neg (by decide), if_neg (by decide), if_neg (by decide), if_neg (by decide), if_neg (by decide), if_neg (by decide), if_neg (by decide), if_neg (by decide), if_neg (by decide), if_neg (by decide), if_neg (by decide), if_pos rfl])⟩))))))
 by_cases h8743 : f = 8743
 ·subst h8743; exact num2_call 8743 _ ab ap aq an ac am ae P Q cb cp cq cn cc cm ce R S w Ra la Rb lb (.inr (.inr (.inr (.inr (.inr ((.inl ⟨rfl, (by unfold num2R; rw [if_neg (by decide), if_neg (by decide), if_neg (by decide), if_neg (by decide), if_neg (by decide), if_neg (by decide), if_neg (by decide), if_neg (by decide), if_neg (by decide), if_neg (by decide), if_neg (by decide), if_neg (by decide), if_neg (by decide), if_neg (by decide), if_pos rfl])⟩)))))))
 by_cases h8744 : f = 8744
 ·subst h8744; exact num2_call 8744 _ ab ap aq an ac am ae P Q cb cp cq cn cc cm ce R S w Ra la Rb lb (.inr (.inr (.inr (.inr (.inr (.inr (⟨rfl, (by unfold num2R; rw [if_neg (by decide), if_neg (by decide), if_neg (by decide), if_neg (by decide), if_neg (by decide), if_neg (by decide), if_neg (by decide), if_neg (by decide), if_neg (by decide), if_neg (by decide), if_neg (by decide), if_neg (by decide), if_neg (by decide), if_neg (by decide), if_neg (by decide), if_pos rfl])⟩)))))))
 exact (num2_none f ab ap aq an ac am ae P Q cb cp cq cn cc cm ce R S w Ra la Rb lb h43 h45 h215 h247 h8968 h8970 h124 h42 h60 h8804 h61 h8805 h62 h8800 h8743 h8744).mono fun _ _ h => (show NumRes (num2R f P Q R S) w _ _ from by rw [show num2R f P Q R S = (0, 0, 8) from by unfold num2R; rw [if_neg h43, if_neg h45, if_neg h215, if_neg h247, if_neg h8968, if_neg h8970, if_neg h124, if_neg h42, if_neg h60, if_neg h8804, if_neg h61, if_neg h8805, if_neg h62, if_neg h8800, if_neg h8743, if_neg h8744]]; exact h)
end Go.Proofs.YtaepelipkkmeaaaGreat
namespace Go.Proofs.YtaepelipkkmeaaaGreat
open Go.RowKit Num
theorem twosZ_any (w : World) : Calls Tryz.prog 12 #[] w (ListPost twosZ w) := by
 go_enter Tryz.func12, Tryz.ntmps12
 go_wp2_with fail
 go_ret
 exact ⟨_, rfl, slz_new w twosZ _ _ rfl, (Below.refl _ _).alloc (Nat.le_refl _) _⟩
end Go.Proofs.YtaepelipkkmeaaaGreat
namespace Go.Proofs.YtaepelipkkmeaaaGreat
open Go.RowKit Num
def IsOneC : Prop := ∀ (f : Int) (w : World), IsZ f → Calls Tryz.prog 8 #[.int .i64 f] w (Tell (.bool (decide (f ∈ onesZ))) w)
def IsTwoC : Prop := ∀ (f : Int) (w : World), IsZ f → Calls Tryz.prog 11 #[.int .i64 f] w (Tell (.bool (decide (f ∈ twosZ))) w)
def NumberC : Prop := ∀ (f : Int) (ab : Bool) (ap aq : Option Addr) (an ac am ae : Nat) (P : Int) (Q : Nat) (w : World), IsZ f → Rt w ab ap an ac aq am ae P Q → Low P Q →
 Calls Tryz.prog 17 #[.int .i64 f, .agg #[.bool ab, .slice ap an ac, .slice aq am ae]] w (NumRes (numR f P Q) w)
def NumbersC : Prop := ∀ (f : Int) (ab : Bool) (ap aq : Option Addr) (an ac am ae : Nat) (P : Int) (Q : Nat) (cb : Bool) (cp cq : Option Addr) (cn cc cm ce : Nat) (R : Int) (S : Nat) (w : World), IsZ f → Rt w ab ap an ac aq am ae P Q → Low P Q → Rt w cb cp cn cc cq cm ce R S → Low R S →
 Calls Tryz.prog 19 #[.int .i64 f, .agg #[.bool ab, .slice ap an ac, .slice aq am ae], .agg #[.bool cb, .slice cp cn cc, .slice cq cm ce]] w (NumRes (num2R f P Q R S) w)
end Go.Proofs.YtaepelipkkmeaaaGreat
namespace Go.Proofs.YtaepelipkkmeaaaGreat
open Go.RowKit Num
attribute [local go_sem ↓] Go.wp_at_zero Go.wp_at_succ
theorem smallNum_any (ab : Bool) (ap aq : Option Addr) (an ac am ae : Nat) (w : World) :
  Calls Tryz.prog 15 #[.agg #[.bool ab, .slice ap an ac, .slice aq am ae]] w (Tell (.bool (decide (an ≤ 8) && decide (am ≤ 8))) w) := by
 by_cases h1 : an ≤ 8
 ·have d1 : decide ((an : Int) ≤ 8) = true := decide_eq_true (by omega)
  by_cases h2 : am ≤ 8
  ·have d2 : decide ((am : Int) ≤ 8) = true := decide_eq_true (by omega)
   have e1 := Lib.hid (show (decide (an ≤ 8) && decide (am ≤ 8)) = true from by rw [decide_eq_true h1, decide_eq_true h2]; rfl)
   clear h1 h2
   go_enter Tryz.func15, Tryz.ntmps15
   go_wp2_with fail
   go_ret
   exact ⟨by rw [e1.out]; rfl, (Below.refl _ w).alloc (Nat.le_refl _) _⟩
  ·have d2 : decide ((am : Int) ≤ 8) = false := decide_eq_false (by omega)
   have e1 := Lib.hid (show (decide (an ≤ 8) && decide (am ≤ 8)) = false from by rw [decide_eq_true h1, decide_eq_false h2]; rfl)
   clear h1 h2
   go_enter Tryz.func15, Tryz.ntmps15
   go_wp2_with fail
   go_ret
   exact ⟨by rw [e1.out]; rfl, (Below.refl _ w).alloc (Nat.le_refl _) _⟩
 ·have d1 : decide ((an : Int) ≤ 8) = false := decide_eq_false (by omega)
  have e1 := Lib.hid (show (decide (an ≤ 8) && decide (am ≤ 8)) = false from by rw [decide_eq_false h1]; rfl)
  clear h1
  go_enter Tryz.func15, Tryz.ntmps15
  go_wp2_with fail
  go_ret
  exact ⟨by rw [e1.out]; rfl, (Below.refl _ w).alloc (Nat.le_refl _) _⟩
end Go.Proofs.YtaepelipkkmeaaaGreat
namespace Go.Proofs.YtaepelipkkmeaaaGreat
open Go.RowKit Num
attribute [local go_sem ↓] Go.wp_at_zero Go.wp_at_succ
structure Wide (w : World) (b : Bool) (ao : Option Addr) (n nc : Nat) (x : Int) : Prop where
 ex : ∃ f, In w ao n nc f ∧ sgn b (val f n) = x
 few : n * 4 ≤ 140737488355328
theorem Wide.below {w w' : World} {b : Bool} {ao : Option Addr} {n nc : Nat} {x : Int} (h : Wide w b ao n nc x) (hb : Below w.heap.size w w') : Wide w' b ao n nc x := by
 obtain ⟨f, A, e⟩ := h.ex
 exact ⟨⟨f, A.below hb, e⟩, h.few⟩
theorem Right.wide {w : World} {b : Bool} {ao : Option Addr} {n nc k : Nat} {x : Int} (h : Right w b ao n nc x) (hx : x.natAbs < pw k) (hk : k * 4 ≤ 140737488355328) : Wide w b ao n nc x := by
 obtain ⟨f, h1, h2, h3, h4, h5⟩ := h.ex
 have hl := h4.len_le hx
 refine ⟨⟨f, ⟨h1, h2, h3, h4.lim⟩, ?_⟩, by omega⟩
 rw [h4.val, h5]
 exact sgn_self x
theorem right_lt {w : World} {b : Bool} {ao : Option Addr} {n nc : Nat} {x : Int} (h : Right w b ao n nc x) : x.natAbs < pw n := by
 obtain ⟨f, _, _, _, h4, _⟩ := h.ex
 exact h4.lt_pw
theorem refNorm_in (ao : Option Addr) (n nc : Nat) (f : Nat → Nat) (w : World) (A : In w ao n nc f) (hB : n * 4 ≤ 140737488355328) :
  Calls Tryz.prog 140 #[.slice ao n nc] w (NumPost (val f n) w) := by
 obtain ⟨i32, hi, hz0, hz1, hz2⟩ := info_parts info32
 obtain ⟨hn, hnc, hf, lf⟩ := A
 have lf' := Lib.hid lf
 clear lf
 rcases hf with rfl | ⟨b, off, rfl, hc⟩
 ·go_enter Tryz.func140, Tryz.ntmps140
  go_wp2_with fail
  go_loop [3] (fun i => i = .int .i64 0) (fun i => (intOf i).toNat)
  case atStart => exact rfl
  case round =>
   obtain rfl := hrel
   go_wp2_with (at_builtin; refine wpList_append_empty rfl (.tmp 19) (.tmp 22) 22 rfl 104 i32 Tryz.underlying22 hi _ _ rfl rfl ?_)
   all_goals
    go_ret
    exact ⟨none, 0, 0, f, rfl, Nat.le_refl _, by omega, .inl rfl, canon_zero f, Below.refl _ _⟩
 ·go_enter Tryz.func140, Tryz.ntmps140
  go_wp2_with fail
  go_loop [3] (fun i => ∃ k : Nat, k ≤ n ∧ i = .int .i64 k ∧ val f k = val f n) (fun i => (intOf i).toNat)
  case atStart => exact ⟨n, Nat.le_refl _, rfl, rfl⟩
  case round =>
   obtain ⟨k, hk, rfl, hv0⟩ := hrel
   have hv := Lib.hid hv0; clear hv0
   by_cases h0 : k = 0
   ·subst h0
    go_wp2_with (at_builtin; refine wpList_append_empty rfl (.tmp 19) (.tmp 22) 22 rfl 104 i32 Tryz.underlying22 hi _ _ rfl rfl ?_)
    go_ret
    exact ⟨none, 0, 0, f, rfl, Nat.le_refl _, by omega, .inl rfl, by rw [← hv.out]; exact canon_zero f, Below.refl _ _⟩
   ·have hpos : 0 < k := by omega
    have hcell := hc (k - 1) (by omega)
    have hc' := Lib.hid hc
    clear hc
    by_cases hz : f (k - 1) = 0
    ·have hzi : ((f (k - 1) : Int) == 0) = true := by simp [hz]
     have hz' := Lib.hid hz; clear hz
     go_wp2_with fail
     go_round
     case rel =>
      have hk1 : k = k - 1 + 1 := by omega
      have e := val_nought hz'.out
      rw [← hk1] at e
      exact ⟨k - 1, by omega, int_eq (by omega), e.symm.trans hv.out⟩
     case measure => simp [intOf]; omega
    ·have hzi : ((f (k - 1) : Int) == 0) = false := by simp [hz]
     have hone := limbCells_one f k
     have hlen := limbCells_length f k
     have hat := limbCells_at (w := w) (b := b) (off := off) (n := k) (f := f) (fun j hj => hc'.out j (by omega))
     obtain ⟨cs, hcs⟩ : ∃ cs, cs = limbCells f k := ⟨_, rfl⟩
     rw [← hcs] at hone hlen hat
     have hcs' := Lib.hid hcs; have hlen' := Lib.hid hlen
     clear hcs hlen
     go_wp2_with (at_builtin; refine wpList_append_own _ rfl (.tmp 19) (.tmp 22) 22 rfl w.heap.size 104 i32 (.int .u32 0) 1 4 Tryz.underlying22 hi hz0 hz1 hz2 rfl (by decide) _ _ _ rfl (World.ownsRow_nil _ _ _ _) ⟨b, off, none⟩ k nc cs rfl (by rw [hlen'.out]; omega) hat hone (by unfold maxLen; omega) (by omega) (Nat.le_refl _) ?_)
     intro v' w1 hown hgr hnil
     rw [hcs'.out] at hown
     obtain ⟨ao', cap', rfl, g1, g2, g3⟩ := owns_slice hown
     have g3' := Lib.hid g3
     have hb := Lib.hid ((Below.refl w.heap.size w).grown hgr (Nat.le_refl _) (fun _ h => by cases h))
     clear hown hgr hnil g3
     go_wp2_with fail
     go_ret
     exact ⟨ao', k, cap', f, rfl, g1, g2, g3'.out, ⟨lf'.out.mono hk, .inr hz, hv.out⟩, hb.out⟩
theorem rNorm_wide (b : Bool) (ao : Option Addr) (n nc : Nat) (x : Int) (w : World) (A : Wide w b ao n nc x) :
  Calls Tryz.prog 95 #[.agg #[.bool b, .slice ao n nc]] w (IntPost x w) := by
 have hfew := Lib.hid A.few
 obtain ⟨f, A, hx⟩ := A.ex
 have A' := Lib.hid A; have hx' := Lib.hid hx
 clear A hx
 go_enter Tryz.func95, Tryz.ntmps95
 go_wp2_with fail
 refine gen_calls (fun w' => Below w.heap.size w w' ∧ Box w' w.heap.size (.bool b) (.slice ao n nc) ∧ Box w' (w.heap.size + 1) (.bool false) (.slice none 0 0))
  ⟨(((Below.refl _ w).alloc (Nat.le_refl _) _).alloc (by simp <;> omega) _), ((Box.new _ _ _ rfl).alloc _), (Box.new _ _ _ (by simp <;> omega))⟩ ?_
 rintro w0 ⟨hb0, x0, x1⟩
 refine (refNorm_in ao n nc f _ (A'.out.below hb0) hfew.out).mono ?_
 rintro e w1 ⟨co, cn, cc, c, rfl, h1, h2, h3, h4, hb⟩
 have y0 := x0.later hb; have y1 := x1.later hb
 have hb1 := Lib.hid (below_then hb0 (Nat.le_refl _) hb)
 have h3' := Lib.hid h3; have h4' := Lib.hid h4; have y0' := Lib.hid y0; have y1' := Lib.hid y1
 have p0 := y0.c0; have q1 := y1.c0; have q2 := y1.c1; have q3 := y1.fr 0; have q4 := y1.fr 1
 clear h3 h4 x0 x1 hb hb0 y0 y1
 by_cases h0 : cn = 0
 ·subst h0
  have z := y1'.out.set (.bool false) (.slice none 0 0)
  have e0 := z.c0; have e1 := z.c1
  have hz : x = 0 := by
   rw [← hx'.out, h4'.out.ne_zero.1 rfl]; cases b <;> rfl
  have hz' := Lib.hid hz
  clear z hz
  go_wp2_with fail
  refine bodyPost_ret (v := .agg #[.bool false, .slice none 0 0]) (by simp [results, Tryz.results95, go_sem, e0, e1]) rfl ?_
  rw [hz'.out]
  exact IntPost.stored ⟨fun _ => 0, Nat.le_refl _, by omega, .inl rfl, canon_zero _, rfl⟩ y1'.out hb1.out (by omega)
 ·have z := y1'.out.set (.bool b) (.slice co cn cc)
  have e0 := z.c0; have e1 := z.c1
  clear z
  go_wp2_with fail
  refine bodyPost_ret (v := .agg #[.bool b, .slice co cn cc]) (by simp [results, Tryz.results95, go_sem, e0, e1]) rfl ?_
  rw [← hx'.out]
  exact IntPost.stored (canon_right h1 h2 h3'.out h4'.out (.inl (Nat.pos_of_ne_zero h0))) y1'.out hb1.out (by omega)
theorem rTop_wide (ab : Bool) (ap aq : Option Addr) (an ac am ae : Nat) (P : Int) (w : World) (A : Wide w ab ap an ac P) :
  Calls Tryz.prog 41 #[.agg #[.bool ab, .slice ap an ac, .slice aq am ae]] w (IntPost P w) := by
 have A' := Lib.hid A
 clear A
 go_enter Tryz.func41, Tryz.ntmps41
 go_wp2_with fail
 refine gen_calls (fun w' => Below w.heap.size w w' ∧ Box3 w' w.heap.size (.bool ab) (.slice ap an ac) (.slice aq am ae) ∧ Box w' (w.heap.size + 1) (.bool false) (.slice none 0 0))
  ⟨(((Below.refl _ _).alloc (Nat.le_refl _) _).alloc (by simp <;> omega) _), ((Box3.new _ _ _ _ rfl).alloc _), (Box.new _ _ _ (by simp <;> omega))⟩ ?_
 rintro w0 ⟨hb0, x0, x1⟩
 refine (rNorm_wide ab ap an ac P _ (A'.out.below hb0)).mono ?_
 rintro e w1 ⟨eb, eo, en, ec, rfl, hR, hb⟩
 have bb := Lib.hid (below_then hb0 (Nat.le_refl _) hb)
 have x1 := x1.later hb
 have x1' := Lib.hid x1; have hR' := Lib.hid hR
 have q0 := x1.c0; have q1 := x1.c1; have q2 := x1.fr 0; have q3 := x1.fr 1
 have z := x1.set (.bool eb) (.slice eo en ec)
 have e0 := z.c0; have e1 := z.c1
 clear x0 x1 hb hb0 z hR
 go_wp2_with fail
 refine bodyPost_ret (v := .agg #[.bool eb, .slice eo en ec]) (by simp [results, Tryz.results41, go_sem, e0, e1]) rfl ?_
 exact IntPost.stored hR'.out x1'.out bb.out (by omega)
theorem rSmall_wide (b : Bool) (ao : Option Addr) (n nc : Nat) (x : Int) (w : World) (A : Wide w b ao n nc x) :
  Calls Tryz.prog 40 #[.agg #[.bool b, .slice ao n nc]] w (Says (smallV x) w) := by
 have A' := Lib.hid A
 obtain ⟨M, hMe⟩ : ∃ M, M = 3 := ⟨_, rfl⟩
 have h3 : 3 ≤ M := by omega
 have hM : M ≤ 1000 := by omega
 have m1 := Lib.hid (Nat.lt_of_lt_of_le (int_small (n := 9223372036854775807) (by decide) (by decide)) (pw_le h3))
 have m2 := Lib.hid (Nat.lt_of_lt_of_le (int_small (n := -9223372036854775808) (by decide) (by decide)) (pw_le h3))
 clear A
 go_enter Tryz.func40, Tryz.ntmps40
 go_wp2_with fail
 refine gen_calls (fun w' => Below w.heap.size w w' ∧ Box w' w.heap.size (.bool b) (.slice ao n nc))
  ⟨((Below.refl _ w).alloc (Nat.le_refl _) _), (Box.new _ _ _ rfl)⟩ ?_
 rintro w0 ⟨hb0, x0⟩
 refine (rNorm_wide b ao n nc x _ (A'.out.below hb0)).mono ?_
 rintro e w1 ⟨sb, so, sn, sc, rfl, hR, hb⟩
 have hb1 := Lib.hid (below_then hb0 (Nat.le_refl _) hb)
 have hR' := Lib.hid hR
 clear hb0 hb x0
 by_cases h2 : 2 < sn
 ·have h2i : decide ((2 : Int) < (sn : Int)) = true := decide_eq_true (by omega)
  have es := Lib.hid (big_not hR h2)
  clear hR
  go_wp2_with fail
  refine gen_wp (fun w' => Below w.heap.size w w' ∧ Box w' w1.heap.size (.bool sb) (.slice so sn sc) ∧ Right w' sb so sn sc x) ⟨hb1.out.alloc hb1.out.size _, Box.new _ _ _ rfl, hR'.out.alloc _⟩ ?_
  rintro w2 ⟨bb, p, hR⟩
  have p0 := p.c0; have p1 := p.c1
  clear p hR
  go_quiet (fail)
  have bb := below_drewN bb
  go_wp2_with fail
  go_ret2
  refine ⟨?_, bb _⟩
  simp [smallV, es.out]
 ·have h2i : decide ((2 : Int) < (sn : Int)) = false := decide_eq_false (by omega)
  have hx' := Lib.hid (show x.natAbs < pw M from Nat.lt_of_lt_of_le (right_lt hR) (pw_le (by omega)))
  clear hR
  by_cases hhi : (9223372036854775807 : Int) < x
  ·have es : Hid (isSmall x = false) := Lib.hid (by simp only [isSmall, decide_eq_false_iff_not]; omega)
   go_wp2_with fail
   refine gen_wp (fun w' => Below w.heap.size w w' ∧ Box w' w1.heap.size (.bool sb) (.slice so sn sc) ∧ Right w' sb so sn sc x) ⟨hb1.out.alloc hb1.out.size _, Box.new _ _ _ rfl, hR'.out.alloc _⟩ ?_
   rintro w2 ⟨bb, p, hR⟩
   have bb := bb.drew; have p := p.drew; have A := (hR.whole hx'.out (by omega)).drew
   have p0 := p.c0; have p1 := p.c1
   have s0 := True.intro
   clear hR
   go_region_with (first
    | (go_at_call 97; clear s0; refine (rOf_any 9223372036854775807 _ (by decide) (by decide)).mono ?_; rintro e w' ⟨tb, to_, tn, tc, rfl, hT, hb⟩; have bb := below_then bb (Nat.le_refl _) hb; have p := p.later hb; have A := A.below hb; have hT := hT.whole m1.out (by omega); have p0 := p.c0; have p1 := p.c1)
    | (go_at_call 96; refine (rCmp_any sb tb so to_ sn sc tn tc x 9223372036854775807 _ A hT M hM hx'.out m1.out).mono ?_; rintro e w' ⟨rfl, hb⟩; have bb := below_then bb (Nat.le_refl _) hb; rw [cmpI_gt hhi]))
   all_goals
    go_wp2_with fail
    go_ret2
    refine ⟨?_, bb⟩
    simp [smallV, es.out]
  ·have d1 : decide ((0 : Int) < cmpI x 9223372036854775807) = false := decide_eq_false (by
    by_cases h : x = 9223372036854775807
    ·rw [cmpI_eq h]; omega
    ·rw [cmpI_lt (by omega)]; omega)
   by_cases hlo : x < (-9223372036854775808 : Int)
   ·have es : Hid (isSmall x = false) := Lib.hid (by simp only [isSmall, decide_eq_false_iff_not]; omega)
    go_wp2_with fail
    refine gen_wp (fun w' => Below w.heap.size w w' ∧ Box w' w1.heap.size (.bool sb) (.slice so sn sc) ∧ Right w' sb so sn sc x) ⟨hb1.out.alloc hb1.out.size _, Box.new _ _ _ rfl, hR'.out.alloc _⟩ ?_
    rintro w2 ⟨bb, p, hR⟩
    have bb := bb.drew; have p := p.drew; have A := (hR.whole hx'.out (by omega)).drew
    have sa0 := True.intro
    go_region_held3 (fun w' => w'.cell? ⟨w1.heap.size, 0, none⟩ = some (.bool sb) ∧ w'.cell? ⟨w1.heap.size, 1, none⟩ = some (.slice so sn sc))
     (first | with_reducible exact ⟨p.c0, p.c1⟩ | go_keep)
     (first
     | (go_at_call 97; clear sa0; refine (rOf_any 9223372036854775807 _ (by decide) (by decide)).mono ?_; rintro e w' ⟨tb, to_, tn, tc, rfl, hT, hb⟩; have bb := below_then bb (Nat.le_refl _) hb; have p := p.later hb; have A := A.below hb; have hT := hT.whole m1.out (by omega); have sa1 := True.intro)
     | (go_at_call 96; clear sa1; refine (rCmp_any sb tb so to_ sn sc tn tc x 9223372036854775807 _ A hT M hM hx'.out m1.out).mono ?_; rintro e w' ⟨rfl, hb⟩; have bb := below_then bb (Nat.le_refl _) hb; have p := p.later hb; have A := A.below hb; have hT := hT.below hb; have sa2 := True.intro)
     | (go_at_call 97; clear sa2; refine (rOf_any (-9223372036854775808) _ (by decide) (by decide)).mono ?_; rintro e w' ⟨tb, to_, tn, tc, rfl, hT, hb⟩; have bb := below_then bb (Nat.le_refl _) hb; have p := p.later hb; have A := A.below hb; have hT := hT.whole m2.out (by omega); have sa3 := True.intro)
     | (go_at_call 96; clear sa3; refine (rCmp_any sb tb so to_ sn sc tn tc x (-9223372036854775808) _ A hT M hM hx'.out m2.out).mono ?_; rintro e w' ⟨rfl, hb⟩; have bb := below_then bb (Nat.le_refl _) hb; have p := p.later hb; have A := A.below hb; have hT := hT.below hb; rw [cmpI_lt hlo]; have sa4 := True.intro))
    go_wp2_with fail
    go_ret2
    refine ⟨?_, bb⟩
    simp [smallV, es.out]
   ·have d2 : decide (cmpI x (-9223372036854775808) < (0 : Int)) = false := decide_eq_false (by
     by_cases h : x = -9223372036854775808
     ·rw [cmpI_eq h]; omega
     ·rw [cmpI_gt (by omega)]; omega)
    have es : Hid (isSmall x = true) := Lib.hid (by simp only [isSmall, decide_eq_true_eq]; omega)
    go_wp2_with fail
    refine gen_wp (fun w' => Below w.heap.size w w' ∧ Box w' w1.heap.size (.bool sb) (.slice so sn sc) ∧ Right w' sb so sn sc x) ⟨hb1.out.alloc hb1.out.size _, Box.new _ _ _ rfl, hR'.out.alloc _⟩ ?_
    rintro w2 ⟨bb, p, hR⟩
    obtain ⟨f, f1, f2, hs, cf, hsg⟩ := hR.ex
    have bb := bb.drew; have p := p.drew; have A := (hR.whole hx'.out (by omega)).drew
    have hs := hs.below (Below.refl _ _).drew
    have cf' := Lib.hid cf; have hsg' := Lib.hid hsg
    clear hsg cf f1 f2 hR
    have sb0 := True.intro
    go_region_held3 (fun w' => w'.cell? ⟨w1.heap.size, 0, none⟩ = some (.bool sb) ∧ w'.cell? ⟨w1.heap.size, 1, none⟩ = some (.slice so sn sc))
     (first | with_reducible exact ⟨p.c0, p.c1⟩ | go_keep)
     (first
     | (go_at_call 97; clear sb0; refine (rOf_any 9223372036854775807 _ (by decide) (by decide)).mono ?_; rintro e w' ⟨tb, to_, tn, tc, rfl, hT, hb⟩; have bb := below_then bb (Nat.le_refl _) hb; have p := p.later hb; have A := A.below hb; have hs := hs.below hb; have hT := hT.whole m1.out (by omega); have sb1 := True.intro)
     | (go_at_call 96; clear sb1; refine (rCmp_any sb tb so to_ sn sc tn tc x 9223372036854775807 _ A hT M hM hx'.out m1.out).mono ?_; rintro e w' ⟨rfl, hb⟩; have bb := below_then bb (Nat.le_refl _) hb; have p := p.later hb; have A := A.below hb; have hs := hs.below hb; have hT := hT.below hb; have sb2 := True.intro)
     | (go_at_call 97; clear sb2; refine (rOf_any (-9223372036854775808) _ (by decide) (by decide)).mono ?_; rintro e w' ⟨tb, to_, tn, tc, rfl, hT, hb⟩; have bb := below_then bb (Nat.le_refl _) hb; have p := p.later hb; have A := A.below hb; have hs := hs.below hb; have hT := hT.whole m2.out (by omega); have sb3 := True.intro)
     | (go_at_call 96; clear sb3; refine (rCmp_any sb tb so to_ sn sc tn tc x (-9223372036854775808) _ A hT M hM hx'.out m2.out).mono ?_; rintro e w' ⟨rfl, hb⟩; have bb := below_then bb (Nat.le_refl _) hb; have p := p.later hb; have A := A.below hb; have hs := hs.below hb; have hT := hT.below hb; have sb4 := True.intro))
    have hs' := Lib.hid hs; have bb' := Lib.hid bb
    have p0 := p.c0; have p1 := p.c1
    have hxb := Lib.hid (show x.natAbs ≤ 9223372036854775808 by omega)
    have sn2 := Lib.hid (show sn ≤ 2 by omega)
    have xx := Lib.hid (sgn_self x)
    clear hs bb p A hT
    go_wp2_with fail
    go_loop [5, 6] (fun v i => ∃ j : Nat, j ≤ sn ∧ i = .int .i64 ((j : Int) - 1) ∧ v = .int .i64 (sgn sb (x.natAbs / pw j))) (fun _ i => (intOf i + 1).toNat)
    case atStart => exact ⟨sn, Nat.le_refl _, rfl, int_eq (by rw [Nat.div_eq_of_lt cf'.out.lt_pw]; cases sb <;> rfl)⟩
    case round =>
     obtain ⟨j, hj, rfl, rfl⟩ := hrel
     by_cases h0 : j = 0
     ·subst h0
      have e : sgn sb (x.natAbs / pw 0) = x := by
       rw [show pw 0 = 1 from rfl, Nat.div_one, hsg'.out]
       exact xx.out
      rw [e]
      clear e
      go_wp2_with fail
      go_ret2
      refine ⟨?_, bb'.out⟩
      simp [smallV, es.out]
     ·obtain ⟨t, rfl⟩ : ∃ t, j = t + 1 := ⟨j - 1, by omega⟩
      have e : ((t + 1 : Nat) : Int) - 1 = (t : Int) := by omega
      rw [e]
      clear e
      rcases hs'.out with h | ⟨g, off, rfl, hc⟩
      ·omega
      have hcell := hc t (by omega)
      have hl := cf'.out.lim t (by omega)
      have hd := val_digit sn2.out (by omega) cf'.out.lim cf'.out.val (j := t)
      have hle := Nat.div_le_self x.natAbs (pw t)
      obtain ⟨a, ha⟩ : ∃ a, a = x.natAbs / pw (t + 1) := ⟨_, rfl⟩
      rw [← ha] at hd ⊢
      have hd' := Lib.hid hd; have ha' := Lib.hid ha
      cases sb
      ·have hx0 : 0 ≤ x := by have := hsg'.out; simp at this; exact this
       have b1 : (a : Int) * 4294967296 + (f t : Int) ≤ 9223372036854775807 := by omega
       have b2 : (0 : Int) ≤ (a : Int) * 4294967296 := by omega
       rw [sgn_false]
       clear hc hd ha hle hx0
       go_wp2_with fail
       go_round
       case rel => exact ⟨t, by omega, rfl, int_eq (by rw [hd'.out, sgn_false]; omega)⟩
       case measure => simp [intOf]
      ·have b1 : -9223372036854775808 ≤ -(a : Int) * 4294967296 - (f t : Int) := by have := hxb.out; omega
       have b2 : -(a : Int) * 4294967296 ≤ 0 := by omega
       rw [sgn_true]
       clear hc hd ha hle
       go_wp2_with fail
       go_round
       case rel => exact ⟨t, by omega, rfl, int_eq (by rw [hd'.out, sgn_true]; omega)⟩
       case measure => simp [intOf]
theorem isWhole_one (ab : Bool) (ap : Option Addr) (an ac ae b off k : Nat) (v : Bool) (w : World) (c1 : w.cell? ⟨b, off, none⟩ = some (.int .u32 k)) (hz : ((k : Int) == 1) = v) :
  Calls Tryz.prog 39 #[.agg #[.bool ab, .slice ap an ac, .slice (some ⟨b, off, none⟩) 1 ae]] w (Tell (.bool v) w) := by
 have hl := World.block_lt_of_cell? w _ c1
 have hne : ∀ o : Obj, (w.alloc o).cell? ⟨b, off, none⟩ = some (.int .u32 k) := fun o => (((Below.refl _ w).alloc (Nat.le_refl _) o).cell hl).trans c1
 go_enter Tryz.func39, Tryz.ntmps39
 go_wp2_with fail
 go_ret
 exact ⟨by simp, (Below.refl _ w).alloc (Nat.le_refl _) _⟩
theorem smallV_post {x : Int} {w w' : World} {e : Ending} (h : Says (smallV x) w e w') : SmallPost w e w' := by
 obtain ⟨rfl, hb⟩ := h
 refine ⟨_, _, ?_, rfl, hb⟩
 cases hs : isSmall x with
 | false => rw [if_neg (by decide)]; exact ⟨by decide, by decide⟩
 | true =>
  rw [if_pos rfl]
  simp only [isSmall, decide_eq_true_eq] at hs
  exact ⟨by omega, by omega⟩
theorem small4_wide (ab : Bool) (ap aq : Option Addr) (an ac am ae : Nat) (f g : Nat → Nat) (w : World) (A : In w ap an ac f) (B : In w aq am ae g) (hA : an * 4 ≤ 140737488355328) :
  Calls Tryz.prog 13 #[.agg #[.bool ab, .slice ap an ac, .slice aq am ae]] w (SmallPost w) := by
 by_cases h1 : am = 1
 ·subst h1
  rcases B.sl with h | ⟨b, off, rfl, hc⟩
  ·omega
  have c1 := hc 0 (by omega)
  rw [Nat.add_zero] at c1
  have c1' := Lib.hid c1
  have W0 := Lib.hid (show Wide w ab ap an ac (sgn ab (val f an)) from ⟨⟨f, A, rfl⟩, hA⟩)
  have hlt := Lib.hid (show (sgn ab (val f an)).natAbs < pw an by rw [sgn_abs]; exact val_lt A.lim)
  have hA' := Lib.hid hA
  obtain ⟨x, hx⟩ : ∃ x, x = sgn ab (val f an) := ⟨_, rfl⟩
  rw [← hx] at W0 hlt
  clear hc c1 A B hx hA
  obtain ⟨v, hv⟩ : ∃ v, ((g 0 : Int) == 1) = v := ⟨_, rfl⟩
  have hv' := Lib.hid hv
  clear hv
  go_enter Tryz.func13, Tryz.ntmps13
  go_upto_region 1 with fail
  refine told_wp (fun w' => Below w.heap.size w w' ∧ Box3 w' w.heap.size (.bool ab) (.slice ap an ac) (.slice (some ⟨b, off, none⟩) 1 ae)) ⟨(Below.refl _ _).alloc (Nat.le_refl _) _, Box3.new _ _ _ _ rfl⟩ ?_
  rintro w0 ⟨bb, X⟩
  have p0 := X.c0; have p1 := X.c1; have p2 := X.c2
  replace bb := Lib.hid bb; replace X := Lib.hid X
  go_wp2_with fail
  refine (isWhole_one ab ap an ac ae b off (g 0) v w0 ((bb.out.cell (World.block_lt_of_cell? w _ c1'.out)).trans c1'.out) hv'.out).mono ?_
  rintro e v1 ⟨rfl, hb⟩
  replace bb := Lib.hid (below_then bb.out (Nat.le_refl _) hb); replace X := Lib.hid (X.out.later hb)
  clear hb p0 p1 p2
  cases v with
  | false =>
   clear X
   go_wp2_with fail
   go_ret2
   exact ⟨0, false, ⟨by decide, by decide⟩, rfl, bb.out⟩
  | true =>
   have p0 := X.out.c0; have p1 := X.out.c1; have p2 := X.out.c2
   go_wp2_with fail
   refine (rTop_wide ab ap _ an ac 1 ae x v1 (W0.out.below bb.out)).mono ?_
   rintro e v2 ⟨tb, tp, tn, tc, rfl, T, hb⟩
   replace bb := Lib.hid (below_then bb.out (Nat.le_refl _) hb); replace T := Lib.hid T
   clear hb p0 p1 p2 X
   go_wp2_with fail
   refine ((rSmall_wide tb tp tn tc x _ (T.out.wide hlt.out hA'.out)).mono fun _ _ => smallV_post).mono ?_
   rintro e v3 ⟨k, r, hk, rfl, hb⟩
   replace bb := Lib.hid (below_then bb.out (Nat.le_refl _) hb)
   replace hk := Lib.hid hk
   clear hb T
   go_wp2_with fail
   go_ret2
   exact ⟨k, r, hk.out, rfl, bb.out⟩
 ·refine (small4_not ab ap aq an ac am ae w h1).mono ?_
  rintro e w' ⟨rfl, hb⟩
  exact ⟨0, false, ⟨by decide, by decide⟩, rfl, hb⟩
end Go.Proofs.YtaepelipkkmeaaaGreat
namespace Go.Proofs.YtaepelipkkmeaaaGreat
open Go.RowKit Num
theorem NumRes.is {r : Int × Nat × Int} {T : Int} {B : Nat} {E : Int} {w w' : World} {e : Ending} (h : NumRes r w e w') (hr : r = (T, B, E)) : ResPost T B E w e w' := by subst hr; exact h
theorem in_list (L : List Int) (ao : Option Addr) (nc : Nat) (c : Int) (v : Bool) (w : World) (hn : L.length ≤ 9223372036854775807) (hl : SlZ w ao L.length (fun j => L.getD j 0)) (hv : v = decide (c ∈ L)) :
  Calls Tryz.prog 9 #[.slice ao L.length nc, .int .i64 c] w (Tell (.bool v) w) := by
 refine (in6_any ao L.length nc _ c w hn hl).mono ?_
 rintro e w' ⟨h, rfl⟩
 refine ⟨?_, Below.refl _ _⟩
 rcases h with ⟨rfl, hm⟩ | ⟨rfl, hm⟩
 ·rw [hv, decide_eq_true ((memZ_list L c).1 hm)]
 ·rw [hv, decide_eq_false fun k => hm ((memZ_list L c).2 k)]
theorem numbers10_walk (hA : Awake10C) (hI : IsOneC) (hJ : IsTwoC) (hN : NumberC) (hM : NumbersC) (f : Int) (ab : Bool) (ap aq : Option Addr) (an ac am ae : Nat) (fa ga : Nat → Nat) (cb : Bool) (cp cq : Option Addr) (cn cc cm ce : Nat) (fb gb : Nat → Nat) (w : World) (hf : IsZ f) (Ia : In w ap an ac fa) (Ja : In w aq am ae ga) (Ib : In w cp cn cc fb) (Jb : In w cq cm ce gb) (hB : cn * 4 ≤ 140737488355328) :
  Calls Tryz.prog 3 #[.int .i64 f, .agg #[.bool ab, .slice ap an ac, .slice aq am ae], .agg #[.bool cb, .slice cp cn cc, .slice cq cm ce]] w (Says (.bool true) w) := by
 replace hA := Lib.hid hA; replace hI := Lib.hid hI; replace hJ := Lib.hid hJ; replace hN := Lib.hid hN; replace hM := Lib.hid hM; replace hf := Lib.hid hf; replace hB := Lib.hid hB; replace Ia := Lib.hid Ia; replace Ja := Lib.hid Ja; replace Ib := Lib.hid Ib; replace Jb := Lib.hid Jb
 obtain ⟨u1, hu1⟩ : ∃ v : Bool, v = decide (f ∈ onesZ) := ⟨_, rfl⟩
 obtain ⟨u2, hu2⟩ : ∃ v : Bool, v = decide (f ∈ twosZ) := ⟨_, rfl⟩
 replace hu1 := Lib.hid hu1; replace hu2 := Lib.hid hu2
 have hn1 : (u1 != u1) = false := by cases u1 <;> rfl
 have hn2 : (u2 != u2) = false := by cases u2 <;> rfl
 go_enter Tryz.func3, Tryz.ntmps3
 go_upto_region 1 with fail
 refine gen_wp (fun w' => Below w.heap.size w w' ∧ Box3 w' w.heap.size (.bool ab) (.slice ap an ac) (.slice aq am ae) ∧ Box3 w' (w.heap.size + 1) (.bool cb) (.slice cp cn cc) (.slice cq cm ce))
  ⟨(((Below.refl _ _).alloc (Nat.le_refl _) _).alloc (by simp <;> omega) _), ((Box3.new _ _ _ _ rfl).alloc _), (Box3.new _ _ _ _ (by simp <;> omega))⟩ ?_
 rintro w0 ⟨bb, Xa, Xb⟩
 replace bb := Lib.hid bb; replace Xa := Lib.hid Xa; replace Xb := Lib.hid Xb
 go_wp2_with fail
 refine ((hI.out f _ hf.out).mono fun _ _ h => (show Tell (.bool u1) _ _ _ by rw [hu1.out]; exact h)).mono ?_
 rintro e v1 ⟨rfl, hb⟩
 replace bb := Lib.hid (below_then bb.out (Nat.le_refl _) hb); replace Xa := Lib.hid (Xa.out.later hb); replace Xb := Lib.hid (Xb.out.later hb)
 clear hb
 go_wp2_with fail
 refine (onesZ_any _).mono ?_
 rintro e v2 ⟨BL1, rfl, L1, hb⟩
 replace bb := Lib.hid (below_then bb.out (Nat.le_refl _) hb); replace Xa := Lib.hid (Xa.out.later hb); replace Xb := Lib.hid (Xb.out.later hb)
 replace L1 := Lib.hid L1
 clear hb
 go_wp2_with fail
 refine (in_list onesZ _ _ f u1 _ (by decide) L1.out hu1.out).mono ?_
 rintro e v3 ⟨rfl, hb⟩
 replace bb := Lib.hid (below_then bb.out (Nat.le_refl _) hb); replace Xa := Lib.hid (Xa.out.later hb); replace Xb := Lib.hid (Xb.out.later hb)
 clear hb L1
 go_wp2_with fail
 refine ((hJ.out f _ hf.out).mono fun _ _ h => (show Tell (.bool u2) _ _ _ by rw [hu2.out]; exact h)).mono ?_
 rintro e v4 ⟨rfl, hb⟩
 replace bb := Lib.hid (below_then bb.out (Nat.le_refl _) hb); replace Xa := Lib.hid (Xa.out.later hb); replace Xb := Lib.hid (Xb.out.later hb)
 clear hb
 go_wp2_with fail
 refine (twosZ_any _).mono ?_
 rintro e v5 ⟨BL2, rfl, L2, hb⟩
 replace bb := Lib.hid (below_then bb.out (Nat.le_refl _) hb); replace Xa := Lib.hid (Xa.out.later hb); replace Xb := Lib.hid (Xb.out.later hb)
 replace L2 := Lib.hid L2
 clear hb
 go_wp2_with fail
 refine (in_list twosZ _ _ f u2 _ (by decide) L2.out hu2.out).mono ?_
 rintro e v6 ⟨rfl, hb⟩
 replace bb := Lib.hid (below_then bb.out (Nat.le_refl _) hb); replace Xa := Lib.hid (Xa.out.later hb); replace Xb := Lib.hid (Xb.out.later hb)
 clear hb L2
 go_upto_region 3 with fail
 have p00 := Xb.out.c0; have p01 := Xb.out.c1; have p02 := Xb.out.c2
 go_wp2_with fail
 clear p00 p01 p02
 refine (small4_wide cb cp cq cn cc cm ce fb gb _ (Ib.out.below bb.out) (Jb.out.below bb.out) hB.out).mono ?_
 rintro e v7 ⟨kk, rr, hkz, rfl, hb⟩
 replace bb := Lib.hid (below_then bb.out (Nat.le_refl _) hb); replace Xa := Lib.hid (Xa.out.later hb); replace Xb := Lib.hid (Xb.out.later hb)
 clear hb
 have kz1 := hkz.1; have kz2 := hkz.2
 clear hkz
 go_upto_region 4 with fail
 have p00 := Xa.out.c0; have p01 := Xa.out.c1; have p02 := Xa.out.c2
 go_wp2_with fail
 clear p00 p01 p02
 refine (right4_in ab ap aq an ac am ae fa ga _ (Ia.out.below bb.out) (Ja.out.below bb.out)).mono ?_
 rintro e v8 ⟨r, rfl, hyes, hno, hb⟩
 clear hno
 replace hyes := Lib.hid hyes
 cases r
 ·replace bb := Lib.hid (below_then bb.out (Nat.le_refl _) hb)
  clear Xa Xb hb hyes
  go_wp2_with fail
  refine (hA.out _).mono ?_
  rintro e vz ⟨rfl, hb⟩
  replace bb := Lib.hid (below_then bb.out (Nat.le_refl _) hb)
  clear hb
  go_wp2_with fail
  go_ret
  exact ⟨rfl, bb.out⟩
 obtain ⟨P, Q, la, Ra⟩ := hyes.out (by first | exact rfl | trivial)
 replace la := Lib.hid la; replace Ra := Lib.hid (Ra.below hb)
 clear hyes
 replace bb := Lib.hid (below_then bb.out (Nat.le_refl _) hb); replace Xa := Lib.hid (Xa.out.later hb); replace Xb := Lib.hid (Xb.out.later hb)
 clear hb
 have p00 := Xb.out.c0; have p01 := Xb.out.c1; have p02 := Xb.out.c2
 go_wp2_with fail
 clear p00 p01 p02
 refine (right4_in cb cp cq cn cc cm ce fb gb _ (Ib.out.below bb.out) (Jb.out.below bb.out)).mono ?_
 rintro e v9 ⟨r, rfl, hyes, hno, hb⟩
 clear hno
 replace hyes := Lib.hid hyes
 cases r
 ·replace bb := Lib.hid (below_then bb.out (Nat.le_refl _) hb)
  clear Xa Xb Ra hb hyes
  go_wp2_with fail
  refine (hA.out _).mono ?_
  rintro e vz ⟨rfl, hb⟩
  replace bb := Lib.hid (below_then bb.out (Nat.le_refl _) hb)
  clear hb
  go_wp2_with fail
  go_ret
  exact ⟨rfl, bb.out⟩
 obtain ⟨R, S, lb, Rb⟩ := hyes.out (by first | exact rfl | trivial)
 replace lb := Lib.hid lb; replace Rb := Lib.hid (Rb.below hb)
 clear hyes
 replace bb := Lib.hid (below_then bb.out (Nat.le_refl _) hb); replace Xa := Lib.hid (Xa.out.later hb); replace Xb := Lib.hid (Xb.out.later hb); replace Ra := Lib.hid (Ra.out.below hb)
 clear hb
 have p00 := Xa.out.c0; have p01 := Xa.out.c1; have p02 := Xa.out.c2
 go_wp2_with fail
 clear p00 p01 p02
 refine ((smallNum_any ab ap aq an ac am ae _).mono fun _ _ h => (show SomeBool _ _ _ from ⟨⟨_, h.1⟩, h.2⟩)).mono ?_
 rintro e v10 ⟨⟨r, rfl⟩, hb⟩
 replace bb := Lib.hid (below_then bb.out (Nat.le_refl _) hb); replace Xa := Lib.hid (Xa.out.later hb); replace Xb := Lib.hid (Xb.out.later hb); replace Ra := Lib.hid (Ra.out.below hb); replace Rb := Lib.hid (Rb.out.below hb)
 clear hb
 cases r
 ·clear Xa Xb Ra Rb 
  go_wp2_with fail
  refine (hA.out _).mono ?_
  rintro e vz ⟨rfl, hb⟩
  replace bb := Lib.hid (below_then bb.out (Nat.le_refl _) hb)
  clear hb
  go_wp2_with fail
  go_ret
  exact ⟨rfl, bb.out⟩
 have p00 := Xb.out.c0; have p01 := Xb.out.c1; have p02 := Xb.out.c2
 go_wp2_with fail
 clear p00 p01 p02
 refine ((smallNum_any cb cp cq cn cc cm ce _).mono fun _ _ h => (show SomeBool _ _ _ from ⟨⟨_, h.1⟩, h.2⟩)).mono ?_
 rintro e v11 ⟨⟨r, rfl⟩, hb⟩
 replace bb := Lib.hid (below_then bb.out (Nat.le_refl _) hb); replace Xa := Lib.hid (Xa.out.later hb); replace Xb := Lib.hid (Xb.out.later hb); replace Ra := Lib.hid (Ra.out.below hb); replace Rb := Lib.hid (Rb.out.below hb)
 clear hb
 cases r
 ·clear Xa Xb Ra Rb 
  go_wp2_with fail
  refine (hA.out _).mono ?_
  rintro e vz ⟨rfl, hb⟩
  replace bb := Lib.hid (below_then bb.out (Nat.le_refl _) hb)
  clear hb
  go_wp2_with fail
  go_ret
  exact ⟨rfl, bb.out⟩
 cases hfb : (f == 42) with
 | false =>
  go_upto_region 6 with fail
  obtain ⟨T1, D1, E1, hr1⟩ : ∃ T D E, numR f P Q = (T, D, E) := ⟨_, _, _, rfl⟩
  obtain ⟨T2, D2, E2, hr2⟩ : ∃ T D E, num2R f P Q R S = (T, D, E) := ⟨_, _, _, rfl⟩
  replace hr1 := Lib.hid hr1; replace hr2 := Lib.hid hr2
  have p00 := Xa.out.c0; have p01 := Xa.out.c1; have p02 := Xa.out.c2
  go_wp2_with fail
  clear p00 p01 p02
  refine ((hN.out f ab ap aq an ac am ae P Q _ hf.out Ra.out la.out).mono fun _ _ h => NumRes.is h hr1.out).mono ?_
  rintro e v12 ⟨z0b, z0p, z0n, z0c, z0q, z0m, z0e, rfl, N0, hb⟩
  replace bb := Lib.hid (below_then bb.out (Nat.le_refl _) hb); replace Xa := Lib.hid (Xa.out.later hb); replace Xb := Lib.hid (Xb.out.later hb); replace Ra := Lib.hid (Ra.out.below hb); replace Rb := Lib.hid (Rb.out.below hb)
  replace N0 := Lib.hid N0
  clear hb
  go_upto_region 7 with fail
  refine gen_wp (fun w' => Below w.heap.size w w' ∧ Box3 w' w.heap.size (.bool ab) (.slice ap an ac) (.slice aq am ae) ∧ Box3 w' (w.heap.size + 1) (.bool cb) (.slice cp cn cc) (.slice cq cm ce) ∧ Box3 w' v12.heap.size (.bool z0b) (.slice z0p z0n z0c) (.slice z0q z0m z0e) ∧ Rt w' ab ap an ac aq am ae P Q ∧ Rt w' cb cp cn cc cq cm ce R S ∧ Rt w' z0b z0p z0n z0c z0q z0m z0e T1 D1)
   ⟨bb.out.alloc bb.out.size _, Xa.out.alloc _, Xb.out.alloc _, Box3.new _ _ _ _ rfl, Ra.out.alloc _, Rb.out.alloc _, N0.out.alloc _⟩ ?_
  clear bb Xa Xb Ra Rb N0
  rintro x12 ⟨bb, Xa, Xb, Y0, Ra, Rb, N0⟩
  replace bb := Lib.hid bb; replace Xa := Lib.hid Xa; replace Xb := Lib.hid Xb; replace Y0 := Lib.hid Y0; replace Ra := Lib.hid Ra; replace Rb := Lib.hid Rb; replace N0 := Lib.hid N0
  have p00 := Xa.out.c0; have p01 := Xa.out.c1; have p02 := Xa.out.c2
  go_wp2_with fail
  clear p00 p01 p02
  refine ((number10_any f ab ap aq an ac am ae P Q _ Ra.out la.out).mono fun _ _ h => NumRes.is h hr1.out).mono ?_
  rintro e v13 ⟨z1b, z1p, z1n, z1c, z1q, z1m, z1e, rfl, N1, hb⟩
  replace bb := Lib.hid (below_then bb.out (Nat.le_refl _) hb); replace Xa := Lib.hid (Xa.out.later hb); replace Xb := Lib.hid (Xb.out.later hb); replace Y0 := Lib.hid (Y0.out.later hb); replace Ra := Lib.hid (Ra.out.below hb); replace Rb := Lib.hid (Rb.out.below hb); replace N0 := Lib.hid (N0.out.below hb)
  replace N1 := Lib.hid N1
  clear hb
  go_upto_region 8 with fail
  refine gen_wp (fun w' => Below w.heap.size w w' ∧ Box3 w' w.heap.size (.bool ab) (.slice ap an ac) (.slice aq am ae) ∧ Box3 w' (w.heap.size + 1) (.bool cb) (.slice cp cn cc) (.slice cq cm ce) ∧ Box3 w' v12.heap.size (.bool z0b) (.slice z0p z0n z0c) (.slice z0q z0m z0e) ∧ Box3 w' v13.heap.size (.bool z1b) (.slice z1p z1n z1c) (.slice z1q z1m z1e) ∧ Rt w' ab ap an ac aq am ae P Q ∧ Rt w' cb cp cn cc cq cm ce R S ∧ Rt w' z0b z0p z0n z0c z0q z0m z0e T1 D1 ∧ Rt w' z1b z1p z1n z1c z1q z1m z1e T1 D1)
   ⟨bb.out.alloc bb.out.size _, Xa.out.alloc _, Xb.out.alloc _, Y0.out.alloc _, Box3.new _ _ _ _ rfl, Ra.out.alloc _, Rb.out.alloc _, N0.out.alloc _, N1.out.alloc _⟩ ?_
  clear bb Xa Xb Y0 Ra Rb N0 N1
  rintro x13 ⟨bb, Xa, Xb, Y0, Y1, Ra, Rb, N0, N1⟩
  replace bb := Lib.hid bb; replace Xa := Lib.hid Xa; replace Xb := Lib.hid Xb; replace Y0 := Lib.hid Y0; replace Y1 := Lib.hid Y1; replace Ra := Lib.hid Ra; replace Rb := Lib.hid Rb; replace N0 := Lib.hid N0; replace N1 := Lib.hid N1
  have p00 := Xa.out.c0; have p01 := Xa.out.c1; have p02 := Xa.out.c2; have p10 := Xb.out.c0; have p11 := Xb.out.c1; have p12 := Xb.out.c2
  go_wp2_with fail
  clear p00 p01 p02 p10 p11 p12
  refine ((hM.out f ab ap aq an ac am ae P Q cb cp cq cn cc cm ce R S _ hf.out Ra.out la.out Rb.out lb.out).mono fun _ _ h => NumRes.is h hr2.out).mono ?_
  rintro e v14 ⟨z2b, z2p, z2n, z2c, z2q, z2m, z2e, rfl, N2, hb⟩
  replace bb := Lib.hid (below_then bb.out (Nat.le_refl _) hb); replace Xa := Lib.hid (Xa.out.later hb); replace Xb := Lib.hid (Xb.out.later hb); replace Y0 := Lib.hid (Y0.out.later hb); replace Y1 := Lib.hid (Y1.out.later hb); replace Ra := Lib.hid (Ra.out.below hb); replace Rb := Lib.hid (Rb.out.below hb); replace N0 := Lib.hid (N0.out.below hb); replace N1 := Lib.hid (N1.out.below hb)
  replace N2 := Lib.hid N2
  clear hb
  go_upto_region 9 with fail
  refine gen_wp (fun w' => Below w.heap.size w w' ∧ Box3 w' w.heap.size (.bool ab) (.slice ap an ac) (.slice aq am ae) ∧ Box3 w' (w.heap.size + 1) (.bool cb) (.slice cp cn cc) (.slice cq cm ce) ∧ Box3 w' v12.heap.size (.bool z0b) (.slice z0p z0n z0c) (.slice z0q z0m z0e) ∧ Box3 w' v13.heap.size (.bool z1b) (.slice z1p z1n z1c) (.slice z1q z1m z1e) ∧ Box3 w' v14.heap.size (.bool z2b) (.slice z2p z2n z2c) (.slice z2q z2m z2e) ∧ Rt w' ab ap an ac aq am ae P Q ∧ Rt w' cb cp cn cc cq cm ce R S ∧ Rt w' z0b z0p z0n z0c z0q z0m z0e T1 D1 ∧ Rt w' z1b z1p z1n z1c z1q z1m z1e T1 D1 ∧ Rt w' z2b z2p z2n z2c z2q z2m z2e T2 D2)
   ⟨bb.out.alloc bb.out.size _, Xa.out.alloc _, Xb.out.alloc _, Y0.out.alloc _, Y1.out.alloc _, Box3.new _ _ _ _ rfl, Ra.out.alloc _, Rb.out.alloc _, N0.out.alloc _, N1.out.alloc _, N2.out.alloc _⟩ ?_
  clear bb Xa Xb Y0 Y1 Ra Rb N0 N1 N2
  rintro x14 ⟨bb, Xa, Xb, Y0, Y1, Y2, Ra, Rb, N0, N1, N2⟩
  replace bb := Lib.hid bb; replace Xa := Lib.hid Xa; replace Xb := Lib.hid Xb; replace Y0 := Lib.hid Y0; replace Y1 := Lib.hid Y1; replace Y2 := Lib.hid Y2; replace Ra := Lib.hid Ra; replace Rb := Lib.hid Rb; replace N0 := Lib.hid N0; replace N1 := Lib.hid N1; replace N2 := Lib.hid N2
  have p00 := Xa.out.c0; have p01 := Xa.out.c1; have p02 := Xa.out.c2; have p10 := Xb.out.c0; have p11 := Xb.out.c1; have p12 := Xb.out.c2
  go_wp2_with fail
  clear p00 p01 p02 p10 p11 p12
  refine ((numbers10_any f ab ap aq an ac am ae P Q cb cp cq cn cc cm ce R S _ Ra.out la.out Rb.out lb.out).mono fun _ _ h => NumRes.is h hr2.out).mono ?_
  rintro e v15 ⟨z3b, z3p, z3n, z3c, z3q, z3m, z3e, rfl, N3, hb⟩
  replace bb := Lib.hid (below_then bb.out (Nat.le_refl _) hb); replace Xa := Lib.hid (Xa.out.later hb); replace Xb := Lib.hid (Xb.out.later hb); replace Y0 := Lib.hid (Y0.out.later hb); replace Y1 := Lib.hid (Y1.out.later hb); replace Y2 := Lib.hid (Y2.out.later hb); replace Ra := Lib.hid (Ra.out.below hb); replace Rb := Lib.hid (Rb.out.below hb); replace N0 := Lib.hid (N0.out.below hb); replace N1 := Lib.hid (N1.out.below hb); replace N2 := Lib.hid (N2.out.below hb)
  replace N3 := Lib.hid N3
  clear hb
  go_upto_region 10 with fail
  refine gen_wp (fun w' => Below w.heap.size w w' ∧ Box3 w' w.heap.size (.bool ab) (.slice ap an ac) (.slice aq am ae) ∧ Box3 w' (w.heap.size + 1) (.bool cb) (.slice cp cn cc) (.slice cq cm ce) ∧ Box3 w' v12.heap.size (.bool z0b) (.slice z0p z0n z0c) (.slice z0q z0m z0e) ∧ Box3 w' v13.heap.size (.bool z1b) (.slice z1p z1n z1c) (.slice z1q z1m z1e) ∧ Box3 w' v14.heap.size (.bool z2b) (.slice z2p z2n z2c) (.slice z2q z2m z2e) ∧ Box3 w' v15.heap.size (.bool z3b) (.slice z3p z3n z3c) (.slice z3q z3m z3e) ∧ Rt w' ab ap an ac aq am ae P Q ∧ Rt w' cb cp cn cc cq cm ce R S ∧ Rt w' z0b z0p z0n z0c z0q z0m z0e T1 D1 ∧ Rt w' z1b z1p z1n z1c z1q z1m z1e T1 D1 ∧ Rt w' z2b z2p z2n z2c z2q z2m z2e T2 D2 ∧ Rt w' z3b z3p z3n z3c z3q z3m z3e T2 D2)
   ⟨bb.out.alloc bb.out.size _, Xa.out.alloc _, Xb.out.alloc _, Y0.out.alloc _, Y1.out.alloc _, Y2.out.alloc _, Box3.new _ _ _ _ rfl, Ra.out.alloc _, Rb.out.alloc _, N0.out.alloc _, N1.out.alloc _, N2.out.alloc _, N3.out.alloc _⟩ ?_
  clear bb Xa Xb Y0 Y1 Y2 Ra Rb N0 N1 N2 N3
  rintro x15 ⟨bb, Xa, Xb, Y0, Y1, Y2, Y3, Ra, Rb, N0, N1, N2, N3⟩
  replace bb := Lib.hid bb; replace Xa := Lib.hid Xa; replace Xb := Lib.hid Xb; replace Y0 := Lib.hid Y0; replace Y1 := Lib.hid Y1; replace Y2 := Lib.hid Y2; replace Y3 := Lib.hid Y3; replace Ra := Lib.hid Ra; replace Rb := Lib.hid Rb; replace N0 := Lib.hid N0; replace N1 := Lib.hid N1; replace N2 := Lib.hid N2; replace N3 := Lib.hid N3
  have p00 := Y0.out.c0; have p01 := Y0.out.c1; have p02 := Y0.out.c2; have p10 := Y1.out.c0; have p11 := Y1.out.c1; have p12 := Y1.out.c2
  go_wp2_with fail
  clear p00 p01 p02 p10 p11 p12
  refine (same4_iff z0b z0p z0q z0n z0c z0m z0e T1 D1 z1b z1p z1q z1n z1c z1m z1e T1 D1 _ N0.out N1.out true (by simp)).mono ?_
  rintro e v16 ⟨rfl, hb⟩
  replace bb := Lib.hid (below_then bb.out (Nat.le_refl _) hb); replace Xa := Lib.hid (Xa.out.later hb); replace Xb := Lib.hid (Xb.out.later hb); replace Y0 := Lib.hid (Y0.out.later hb); replace Y1 := Lib.hid (Y1.out.later hb); replace Y2 := Lib.hid (Y2.out.later hb); replace Y3 := Lib.hid (Y3.out.later hb); replace Ra := Lib.hid (Ra.out.below hb); replace Rb := Lib.hid (Rb.out.below hb); replace N0 := Lib.hid (N0.out.below hb); replace N1 := Lib.hid (N1.out.below hb); replace N2 := Lib.hid (N2.out.below hb); replace N3 := Lib.hid (N3.out.below hb)
  clear hb
  have p00 := Y2.out.c0; have p01 := Y2.out.c1; have p02 := Y2.out.c2; have p10 := Y3.out.c0; have p11 := Y3.out.c1; have p12 := Y3.out.c2
  go_wp2_with fail
  clear p00 p01 p02 p10 p11 p12
  refine (same4_iff z2b z2p z2q z2n z2c z2m z2e T2 D2 z3b z3p z3q z3n z3c z3m z3e T2 D2 _ N2.out N3.out true (by simp)).mono ?_
  rintro e v17 ⟨rfl, hb⟩
  replace bb := Lib.hid (below_then bb.out (Nat.le_refl _) hb); replace Xa := Lib.hid (Xa.out.later hb); replace Xb := Lib.hid (Xb.out.later hb); replace Y0 := Lib.hid (Y0.out.later hb); replace Y1 := Lib.hid (Y1.out.later hb); replace Y2 := Lib.hid (Y2.out.later hb); replace Y3 := Lib.hid (Y3.out.later hb); replace Ra := Lib.hid (Ra.out.below hb); replace Rb := Lib.hid (Rb.out.below hb); replace N0 := Lib.hid (N0.out.below hb); replace N1 := Lib.hid (N1.out.below hb); replace N2 := Lib.hid (N2.out.below hb); replace N3 := Lib.hid (N3.out.below hb)
  clear hb
  clear Xa Xb Y0 Y1 Y2 Y3 Ra Rb N0 N1 N2 N3 
  go_wp2_with fail
  refine (hA.out _).mono ?_
  rintro e vz ⟨rfl, hb⟩
  replace bb := Lib.hid (below_then bb.out (Nat.le_refl _) hb)
  clear hb
  go_wp2_with fail
  go_ret
  exact ⟨rfl, bb.out⟩
 | true =>
  cases rr with
  | false =>
   go_upto_region 6 with fail
   obtain ⟨T1, D1, E1, hr1⟩ : ∃ T D E, numR f P Q = (T, D, E) := ⟨_, _, _, rfl⟩
   obtain ⟨T2, D2, E2, hr2⟩ : ∃ T D E, num2R f P Q R S = (T, D, E) := ⟨_, _, _, rfl⟩
   replace hr1 := Lib.hid hr1; replace hr2 := Lib.hid hr2
   have p00 := Xa.out.c0; have p01 := Xa.out.c1; have p02 := Xa.out.c2
   go_wp2_with fail
   clear p00 p01 p02
   refine ((hN.out f ab ap aq an ac am ae P Q _ hf.out Ra.out la.out).mono fun _ _ h => NumRes.is h hr1.out).mono ?_
   rintro e v12 ⟨z0b, z0p, z0n, z0c, z0q, z0m, z0e, rfl, N0, hb⟩
   replace bb := Lib.hid (below_then bb.out (Nat.le_refl _) hb); replace Xa := Lib.hid (Xa.out.later hb); replace Xb := Lib.hid (Xb.out.later hb); replace Ra := Lib.hid (Ra.out.below hb); replace Rb := Lib.hid (Rb.out.below hb)
   replace N0 := Lib.hid N0
   clear hb
   go_upto_region 7 with fail
   refine gen_wp (fun w' => Below w.heap.size w w' ∧ Box3 w' w.heap.size (.bool ab) (.slice ap an ac) (.slice aq am ae) ∧ Box3 w' (w.heap.size + 1) (.bool cb) (.slice cp cn cc) (.slice cq cm ce) ∧ Box3 w' v12.heap.size (.bool z0b) (.slice z0p z0n z0c) (.slice z0q z0m z0e) ∧ Rt w' ab ap an ac aq am ae P Q ∧ Rt w' cb cp cn cc cq cm ce R S ∧ Rt w' z0b z0p z0n z0c z0q z0m z0e T1 D1)
    ⟨bb.out.alloc bb.out.size _, Xa.out.alloc _, Xb.out.alloc _, Box3.new _ _ _ _ rfl, Ra.out.alloc _, Rb.out.alloc _, N0.out.alloc _⟩ ?_
   clear bb Xa Xb Ra Rb N0
   rintro x12 ⟨bb, Xa, Xb, Y0, Ra, Rb, N0⟩
   replace bb := Lib.hid bb; replace Xa := Lib.hid Xa; replace Xb := Lib.hid Xb; replace Y0 := Lib.hid Y0; replace Ra := Lib.hid Ra; replace Rb := Lib.hid Rb; replace N0 := Lib.hid N0
   have p00 := Xa.out.c0; have p01 := Xa.out.c1; have p02 := Xa.out.c2
   go_wp2_with fail
   clear p00 p01 p02
   refine ((number10_any f ab ap aq an ac am ae P Q _ Ra.out la.out).mono fun _ _ h => NumRes.is h hr1.out).mono ?_
   rintro e v13 ⟨z1b, z1p, z1n, z1c, z1q, z1m, z1e, rfl, N1, hb⟩
   replace bb := Lib.hid (below_then bb.out (Nat.le_refl _) hb); replace Xa := Lib.hid (Xa.out.later hb); replace Xb := Lib.hid (Xb.out.later hb); replace Y0 := Lib.hid (Y0.out.later hb); replace Ra := Lib.hid (Ra.out.below hb); replace Rb := Lib.hid (Rb.out.below hb); replace N0 := Lib.hid (N0.out.below hb)
   replace N1 := Lib.hid N1
   clear hb
   go_upto_region 8 with fail
   refine gen_wp (fun w' => Below w.heap.size w w' ∧ Box3 w' w.heap.size (.bool ab) (.slice ap an ac) (.slice aq am ae) ∧ Box3 w' (w.heap.size + 1) (.bool cb) (.slice cp cn cc) (.slice cq cm ce) ∧ Box3 w' v12.heap.size (.bool z0b) (.slice z0p z0n z0c) (.slice z0q z0m z0e) ∧ Box3 w' v13.heap.size (.bool z1b) (.slice z1p z1n z1c) (.slice z1q z1m z1e) ∧ Rt w' ab ap an ac aq am ae P Q ∧ Rt w' cb cp cn cc cq cm ce R S ∧ Rt w' z0b z0p z0n z0c z0q z0m z0e T1 D1 ∧ Rt w' z1b z1p z1n z1c z1q z1m z1e T1 D1)
    ⟨bb.out.alloc bb.out.size _, Xa.out.alloc _, Xb.out.alloc _, Y0.out.alloc _, Box3.new _ _ _ _ rfl, Ra.out.alloc _, Rb.out.alloc _, N0.out.alloc _, N1.out.alloc _⟩ ?_
   clear bb Xa Xb Y0 Ra Rb N0 N1
   rintro x13 ⟨bb, Xa, Xb, Y0, Y1, Ra, Rb, N0, N1⟩
   replace bb := Lib.hid bb; replace Xa := Lib.hid Xa; replace Xb := Lib.hid Xb; replace Y0 := Lib.hid Y0; replace Y1 := Lib.hid Y1; replace Ra := Lib.hid Ra; replace Rb := Lib.hid Rb; replace N0 := Lib.hid N0; replace N1 := Lib.hid N1
   have p00 := Xa.out.c0; have p01 := Xa.out.c1; have p02 := Xa.out.c2; have p10 := Xb.out.c0; have p11 := Xb.out.c1; have p12 := Xb.out.c2
   go_wp2_with fail
   clear p00 p01 p02 p10 p11 p12
   refine ((hM.out f ab ap aq an ac am ae P Q cb cp cq cn cc cm ce R S _ hf.out Ra.out la.out Rb.out lb.out).mono fun _ _ h => NumRes.is h hr2.out).mono ?_
   rintro e v14 ⟨z2b, z2p, z2n, z2c, z2q, z2m, z2e, rfl, N2, hb⟩
   replace bb := Lib.hid (below_then bb.out (Nat.le_refl _) hb); replace Xa := Lib.hid (Xa.out.later hb); replace Xb := Lib.hid (Xb.out.later hb); replace Y0 := Lib.hid (Y0.out.later hb); replace Y1 := Lib.hid (Y1.out.later hb); replace Ra := Lib.hid (Ra.out.below hb); replace Rb := Lib.hid (Rb.out.below hb); replace N0 := Lib.hid (N0.out.below hb); replace N1 := Lib.hid (N1.out.below hb)
   replace N2 := Lib.hid N2
   clear hb
   go_upto_region 9 with fail
   refine gen_wp (fun w' => Below w.heap.size w w' ∧ Box3 w' w.heap.size (.bool ab) (.slice ap an ac) (.slice aq am ae) ∧ Box3 w' (w.heap.size + 1) (.bool cb) (.slice cp cn cc) (.slice cq cm ce) ∧ Box3 w' v12.heap.size (.bool z0b) (.slice z0p z0n z0c) (.slice z0q z0m z0e) ∧ Box3 w' v13.heap.size (.bool z1b) (.slice z1p z1n z1c) (.slice z1q z1m z1e) ∧ Box3 w' v14.heap.size (.bool z2b) (.slice z2p z2n z2c) (.slice z2q z2m z2e) ∧ Rt w' ab ap an ac aq am ae P Q ∧ Rt w' cb cp cn cc cq cm ce R S ∧ Rt w' z0b z0p z0n z0c z0q z0m z0e T1 D1 ∧ Rt w' z1b z1p z1n z1c z1q z1m z1e T1 D1 ∧ Rt w' z2b z2p z2n z2c z2q z2m z2e T2 D2)
    ⟨bb.out.alloc bb.out.size _, Xa.out.alloc _, Xb.out.alloc _, Y0.out.alloc _, Y1.out.alloc _, Box3.new _ _ _ _ rfl, Ra.out.alloc _, Rb.out.alloc _, N0.out.alloc _, N1.out.alloc _, N2.out.alloc _⟩ ?_
   clear bb Xa Xb Y0 Y1 Ra Rb N0 N1 N2
   rintro x14 ⟨bb, Xa, Xb, Y0, Y1, Y2, Ra, Rb, N0, N1, N2⟩
   replace bb := Lib.hid bb; replace Xa := Lib.hid Xa; replace Xb := Lib.hid Xb; replace Y0 := Lib.hid Y0; replace Y1 := Lib.hid Y1; replace Y2 := Lib.hid Y2; replace Ra := Lib.hid Ra; replace Rb := Lib.hid Rb; replace N0 := Lib.hid N0; replace N1 := Lib.hid N1; replace N2 := Lib.hid N2
   have p00 := Xa.out.c0; have p01 := Xa.out.c1; have p02 := Xa.out.c2; have p10 := Xb.out.c0; have p11 := Xb.out.c1; have p12 := Xb.out.c2
   go_wp2_with fail
   clear p00 p01 p02 p10 p11 p12
   refine ((numbers10_any f ab ap aq an ac am ae P Q cb cp cq cn cc cm ce R S _ Ra.out la.out Rb.out lb.out).mono fun _ _ h => NumRes.is h hr2.out).mono ?_
   rintro e v15 ⟨z3b, z3p, z3n, z3c, z3q, z3m, z3e, rfl, N3, hb⟩
   replace bb := Lib.hid (below_then bb.out (Nat.le_refl _) hb); replace Xa := Lib.hid (Xa.out.later hb); replace Xb := Lib.hid (Xb.out.later hb); replace Y0 := Lib.hid (Y0.out.later hb); replace Y1 := Lib.hid (Y1.out.later hb); replace Y2 := Lib.hid (Y2.out.later hb); replace Ra := Lib.hid (Ra.out.below hb); replace Rb := Lib.hid (Rb.out.below hb); replace N0 := Lib.hid (N0.out.below hb); replace N1 := Lib.hid (N1.out.below hb); replace N2 := Lib.hid (N2.out.below hb)
   replace N3 := Lib.hid N3
   clear hb
   go_upto_region 10 with fail
   refine gen_wp (fun w' => Below w.heap.size w w' ∧ Box3 w' w.heap.size (.bool ab) (.slice ap an ac) (.slice aq am ae) ∧ Box3 w' (w.heap.size + 1) (.bool cb) (.slice cp cn cc) (.slice cq cm ce) ∧ Box3 w' v12.heap.size (.bool z0b) (.slice z0p z0n z0c) (.slice z0q z0m z0e) ∧ Box3 w' v13.heap.size (.bool z1b) (.slice z1p z1n z1c) (.slice z1q z1m z1e) ∧ Box3 w' v14.heap.size (.bool z2b) (.slice z2p z2n z2c) (.slice z2q z2m z2e) ∧ Box3 w' v15.heap.size (.bool z3b) (.slice z3p z3n z3c) (.slice z3q z3m z3e) ∧ Rt w' ab ap an ac aq am ae P Q ∧ Rt w' cb cp cn cc cq cm ce R S ∧ Rt w' z0b z0p z0n z0c z0q z0m z0e T1 D1 ∧ Rt w' z1b z1p z1n z1c z1q z1m z1e T1 D1 ∧ Rt w' z2b z2p z2n z2c z2q z2m z2e T2 D2 ∧ Rt w' z3b z3p z3n z3c z3q z3m z3e T2 D2)
    ⟨bb.out.alloc bb.out.size _, Xa.out.alloc _, Xb.out.alloc _, Y0.out.alloc _, Y1.out.alloc _, Y2.out.alloc _, Box3.new _ _ _ _ rfl, Ra.out.alloc _, Rb.out.alloc _, N0.out.alloc _, N1.out.alloc _, N2.out.alloc _, N3.out.alloc _⟩ ?_
   clear bb Xa Xb Y0 Y1 Y2 Ra Rb N0 N1 N2 N3
   rintro x15 ⟨bb, Xa, Xb, Y0, Y1, Y2, Y3, Ra, Rb, N0, N1, N2, N3⟩
   replace bb := Lib.hid bb; replace Xa := Lib.hid Xa; replace Xb := Lib.hid Xb; replace Y0 := Lib.hid Y0; replace Y1 := Lib.hid Y1; replace Y2 := Lib.hid Y2; replace Y3 := Lib.hid Y3; replace Ra := Lib.hid Ra; replace Rb := Lib.hid Rb; replace N0 := Lib.hid N0; replace N1 := Lib.hid N1; replace N2 := Lib.hid N2; replace N3 := Lib.hid N3
   have p00 := Y0.out.c0; have p01 := Y0.out.c1; have p02 := Y0.out.c2; have p10 := Y1.out.c0; have p11 := Y1.out.c1; have p12 := Y1.out.c2
   go_wp2_with fail
   clear p00 p01 p02 p10 p11 p12
   refine (same4_iff z0b z0p z0q z0n z0c z0m z0e T1 D1 z1b z1p z1q z1n z1c z1m z1e T1 D1 _ N0.out N1.out true (by simp)).mono ?_
   rintro e v16 ⟨rfl, hb⟩
   replace bb := Lib.hid (below_then bb.out (Nat.le_refl _) hb); replace Xa := Lib.hid (Xa.out.later hb); replace Xb := Lib.hid (Xb.out.later hb); replace Y0 := Lib.hid (Y0.out.later hb); replace Y1 := Lib.hid (Y1.out.later hb); replace Y2 := Lib.hid (Y2.out.later hb); replace Y3 := Lib.hid (Y3.out.later hb); replace Ra := Lib.hid (Ra.out.below hb); replace Rb := Lib.hid (Rb.out.below hb); replace N0 := Lib.hid (N0.out.below hb); replace N1 := Lib.hid (N1.out.below hb); replace N2 := Lib.hid (N2.out.below hb); replace N3 := Lib.hid (N3.out.below hb)
   clear hb
   have p00 := Y2.out.c0; have p01 := Y2.out.c1; have p02 := Y2.out.c2; have p10 := Y3.out.c0; have p11 := Y3.out.c1; have p12 := Y3.out.c2
   go_wp2_with fail
   clear p00 p01 p02 p10 p11 p12
   refine (same4_iff z2b z2p z2q z2n z2c z2m z2e T2 D2 z3b z3p z3q z3n z3c z3m z3e T2 D2 _ N2.out N3.out true (by simp)).mono ?_
   rintro e v17 ⟨rfl, hb⟩
   replace bb := Lib.hid (below_then bb.out (Nat.le_refl _) hb); replace Xa := Lib.hid (Xa.out.later hb); replace Xb := Lib.hid (Xb.out.later hb); replace Y0 := Lib.hid (Y0.out.later hb); replace Y1 := Lib.hid (Y1.out.later hb); replace Y2 := Lib.hid (Y2.out.later hb); replace Y3 := Lib.hid (Y3.out.later hb); replace Ra := Lib.hid (Ra.out.below hb); replace Rb := Lib.hid (Rb.out.below hb); replace N0 := Lib.hid (N0.out.below hb); replace N1 := Lib.hid (N1.out.below hb); replace N2 := Lib.hid (N2.out.below hb); replace N3 := Lib.hid (N3.out.below hb)
   clear hb
   clear Xa Xb Y0 Y1 Y2 Y3 Ra Rb N0 N1 N2 N3 
   go_wp2_with fail
   refine (hA.out _).mono ?_
   rintro e vz ⟨rfl, hb⟩
   replace bb := Lib.hid (below_then bb.out (Nat.le_refl _) hb)
   clear hb
   go_wp2_with fail
   go_ret
   exact ⟨rfl, bb.out⟩
  | true =>
   cases h300 : decide ((300 : Int) < kk) with
   | true =>
    clear Xa Xb Ra Rb 
    go_wp2_with fail
    refine (hA.out _).mono ?_
    rintro e vz ⟨rfl, hb⟩
    replace bb := Lib.hid (below_then bb.out (Nat.le_refl _) hb)
    clear hb
    go_wp2_with fail
    go_ret
    exact ⟨rfl, bb.out⟩
   | false =>
    cases h301 : decide (kk < (-300 : Int)) with
    | true =>
     clear Xa Xb Ra Rb 
     go_wp2_with fail
     refine (hA.out _).mono ?_
     rintro e vz ⟨rfl, hb⟩
     replace bb := Lib.hid (below_then bb.out (Nat.le_refl _) hb)
     clear hb
     go_wp2_with fail
     go_ret
     exact ⟨rfl, bb.out⟩
    | false =>
     go_upto_region 6 with fail
     obtain ⟨T1, D1, E1, hr1⟩ : ∃ T D E, numR f P Q = (T, D, E) := ⟨_, _, _, rfl⟩
     obtain ⟨T2, D2, E2, hr2⟩ : ∃ T D E, num2R f P Q R S = (T, D, E) := ⟨_, _, _, rfl⟩
     replace hr1 := Lib.hid hr1; replace hr2 := Lib.hid hr2
     have p00 := Xa.out.c0; have p01 := Xa.out.c1; have p02 := Xa.out.c2
     go_wp2_with fail
     clear p00 p01 p02
     refine ((hN.out f ab ap aq an ac am ae P Q _ hf.out Ra.out la.out).mono fun _ _ h => NumRes.is h hr1.out).mono ?_
     rintro e v12 ⟨z0b, z0p, z0n, z0c, z0q, z0m, z0e, rfl, N0, hb⟩
     replace bb := Lib.hid (below_then bb.out (Nat.le_refl _) hb); replace Xa := Lib.hid (Xa.out.later hb); replace Xb := Lib.hid (Xb.out.later hb); replace Ra := Lib.hid (Ra.out.below hb); replace Rb := Lib.hid (Rb.out.below hb)
     replace N0 := Lib.hid N0
     clear hb
     go_upto_region 7 with fail
     refine gen_wp (fun w' => Below w.heap.size w w' ∧ Box3 w' w.heap.size (.bool ab) (.slice ap an ac) (.slice aq am ae) ∧ Box3 w' (w.heap.size + 1) (.bool cb) (.slice cp cn cc) (.slice cq cm ce) ∧ Box3 w' v12.heap.size (.bool z0b) (.slice z0p z0n z0c) (.slice z0q z0m z0e) ∧ Rt w' ab ap an ac aq am ae P Q ∧ Rt w' cb cp cn cc cq cm ce R S ∧ Rt w' z0b z0p z0n z0c z0q z0m z0e T1 D1)
      ⟨bb.out.alloc bb.out.size _, Xa.out.alloc _, Xb.out.alloc _, Box3.new _ _ _ _ rfl, Ra.out.alloc _, Rb.out.alloc _, N0.out.alloc _⟩ ?_
     clear bb Xa Xb Ra Rb N0
     rintro x12 ⟨bb, Xa, Xb, Y0, Ra, Rb, N0⟩
     replace bb := Lib.hid bb; replace Xa := Lib.hid Xa; replace Xb := Lib.hid Xb; replace Y0 := Lib.hid Y0; replace Ra := Lib.hid Ra; replace Rb := Lib.hid Rb; replace N0 := Lib.hid N0
     have p00 := Xa.out.c0; have p01 := Xa.out.c1; have p02 := Xa.out.c2
     go_wp2_with fail
     clear p00 p01 p02
     refine ((number10_any f ab ap aq an ac am ae P Q _ Ra.out la.out).mono fun _ _ h => NumRes.is h hr1.out).mono ?_
     rintro e v13 ⟨z1b, z1p, z1n, z1c, z1q, z1m, z1e, rfl, N1, hb⟩
     replace bb := Lib.hid (below_then bb.out (Nat.le_refl _) hb); replace Xa := Lib.hid (Xa.out.later hb); replace Xb := Lib.hid (Xb.out.later hb); replace Y0 := Lib.hid (Y0.out.later hb); replace Ra := Lib.hid (Ra.out.below hb); replace Rb := Lib.hid (Rb.out.below hb); replace N0 := Lib.hid (N0.out.below hb)
     replace N1 := Lib.hid N1
     clear hb
     go_upto_region 8 with fail
     refine gen_wp (fun w' => Below w.heap.size w w' ∧ Box3 w' w.heap.size (.bool ab) (.slice ap an ac) (.slice aq am ae) ∧ Box3 w' (w.heap.size + 1) (.bool cb) (.slice cp cn cc) (.slice cq cm ce) ∧ Box3 w' v12.heap.size (.bool z0b) (.slice z0p z0n z0c) (.slice z0q z0m z0e) ∧ Box3 w' v13.heap.size (.bool z1b) (.slice z1p z1n z1c) (.slice z1q z1m z1e) ∧ Rt w' ab ap an ac aq am ae P Q ∧ Rt w' cb cp cn cc cq cm ce R S ∧ Rt w' z0b z0p z0n z0c z0q z0m z0e T1 D1 ∧ Rt w' z1b z1p z1n z1c z1q z1m z1e T1 D1)
      ⟨bb.out.alloc bb.out.size _, Xa.out.alloc _, Xb.out.alloc _, Y0.out.alloc _, Box3.new _ _ _ _ rfl, Ra.out.alloc _, Rb.out.alloc _, N0.out.alloc _, N1.out.alloc _⟩ ?_
     clear bb Xa Xb Y0 Ra Rb N0 N1
     rintro x13 ⟨bb, Xa, Xb, Y0, Y1, Ra, Rb, N0, N1⟩
     replace bb := Lib.hid bb; replace Xa := Lib.hid Xa; replace Xb := Lib.hid Xb; replace Y0 := Lib.hid Y0; replace Y1 := Lib.hid Y1; replace Ra := Lib.hid Ra; replace Rb := Lib.hid Rb; replace N0 := Lib.hid N0; replace N1 := Lib.hid N1
     have p00 := Xa.out.c0; have p01 := Xa.out.c1; have p02 := Xa.out.c2; have p10 := Xb.out.c0; have p11 := Xb.out.c1; have p12 := Xb.out.c2
     go_wp2_with fail
     clear p00 p01 p02 p10 p11 p12
     refine ((hM.out f ab ap aq an ac am ae P Q cb cp cq cn cc cm ce R S _ hf.out Ra.out la.out Rb.out lb.out).mono fun _ _ h => NumRes.is h hr2.out).mono ?_
     rintro e v14 ⟨z2b, z2p, z2n, z2c, z2q, z2m, z2e, rfl, N2, hb⟩
     replace bb := Lib.hid (below_then bb.out (Nat.le_refl _) hb); replace Xa := Lib.hid (Xa.out.later hb); replace Xb := Lib.hid (Xb.out.later hb); replace Y0 := Lib.hid (Y0.out.later hb); replace Y1 := Lib.hid (Y1.out.later hb); replace Ra := Lib.hid (Ra.out.below hb); replace Rb := Lib.hid (Rb.out.below hb); replace N0 := Lib.hid (N0.out.below hb); replace N1 := Lib.hid (N1.out.below hb)
     replace N2 := Lib.hid N2
     clear hb
     go_upto_region 9 with fail
     refine gen_wp (fun w' => Below w.heap.size w w' ∧ Box3 w' w.heap.size (.bool ab) (.slice ap an ac) (.slice aq am ae) ∧ Box3 w' (w.heap.size + 1) (.bool cb) (.slice cp cn cc) (.slice cq cm ce) ∧ Box3 w' v12.heap.size (.bool z0b) (.slice z0p z0n z0c) (.slice z0q z0m z0e) ∧ Box3 w' v13.heap.size (.bool z1b) (.slice z1p z1n z1c) (.slice z1q z1m z1e) ∧ Box3 w' v14.heap.size (.bool z2b) (.slice z2p z2n z2c) (.slice z2q z2m z2e) ∧ Rt w' ab ap an ac aq am ae P Q ∧ Rt w' cb cp cn cc cq cm ce R S ∧ Rt w' z0b z0p z0n z0c z0q z0m z0e T1 D1 ∧ Rt w' z1b z1p z1n z1c z1q z1m z1e T1 D1 ∧ Rt w' z2b z2p z2n z2c z2q z2m z2e T2 D2)
      ⟨bb.out.alloc bb.out.size _, Xa.out.alloc _, Xb.out.alloc _, Y0.out.alloc _, Y1.out.alloc _, Box3.new _ _ _ _ rfl, Ra.out.alloc _, Rb.out.alloc _, N0.out.alloc _, N1.out.alloc _, N2.out.alloc _⟩ ?_
     clear bb Xa Xb Y0 Y1 Ra Rb N0 N1 N2
     rintro x14 ⟨bb, Xa, Xb, Y0, Y1, Y2, Ra, Rb, N0, N1, N2⟩
     replace bb := Lib.hid bb; replace Xa := Lib.hid Xa; replace Xb := Lib.hid Xb; replace Y0 := Lib.hid Y0; replace Y1 := Lib.hid Y1; replace Y2 := Lib.hid Y2; replace Ra := Lib.hid Ra; replace Rb := Lib.hid Rb; replace N0 := Lib.hid N0; replace N1 := Lib.hid N1; replace N2 := Lib.hid N2
     have p00 := Xa.out.c0; have p01 := Xa.out.c1; have p02 := Xa.out.c2; have p10 := Xb.out.c0; have p11 := Xb.out.c1; have p12 := Xb.out.c2
     go_wp2_with fail
     clear p00 p01 p02 p10 p11 p12
     refine ((numbers10_any f ab ap aq an ac am ae P Q cb cp cq cn cc cm ce R S _ Ra.out la.out Rb.out lb.out).mono fun _ _ h => NumRes.is h hr2.out).mono ?_
     rintro e v15 ⟨z3b, z3p, z3n, z3c, z3q, z3m, z3e, rfl, N3, hb⟩
     replace bb := Lib.hid (below_then bb.out (Nat.le_refl _) hb); replace Xa := Lib.hid (Xa.out.later hb); replace Xb := Lib.hid (Xb.out.later hb); replace Y0 := Lib.hid (Y0.out.later hb); replace Y1 := Lib.hid (Y1.out.later hb); replace Y2 := Lib.hid (Y2.out.later hb); replace Ra := Lib.hid (Ra.out.below hb); replace Rb := Lib.hid (Rb.out.below hb); replace N0 := Lib.hid (N0.out.below hb); replace N1 := Lib.hid (N1.out.below hb); replace N2 := Lib.hid (N2.out.below hb)
     replace N3 := Lib.hid N3
     clear hb
     go_upto_region 10 with fail
     refine gen_wp (fun w' => Below w.heap.size w w' ∧ Box3 w' w.heap.size (.bool ab) (.slice ap an ac) (.slice aq am ae) ∧ Box3 w' (w.heap.size + 1) (.bool cb) (.slice cp cn cc) (.slice cq cm ce) ∧ Box3 w' v12.heap.size (.bool z0b) (.slice z0p z0n z0c) (.slice z0q z0m z0e) ∧ Box3 w' v13.heap.size (.bool z1b) (.slice z1p z1n z1c) (.slice z1q z1m z1e) ∧ Box3 w' v14.heap.size (.bool z2b) (.slice z2p z2n z2c) (.slice z2q z2m z2e) ∧ Box3 w' v15.heap.size (.bool z3b) (.slice z3p z3n z3c) (.slice z3q z3m z3e) ∧ Rt w' ab ap an ac aq am ae P Q ∧ Rt w' cb cp cn cc cq cm ce R S ∧ Rt w' z0b z0p z0n z0c z0q z0m z0e T1 D1 ∧ Rt w' z1b z1p z1n z1c z1q z1m z1e T1 D1 ∧ Rt w' z2b z2p z2n z2c z2q z2m z2e T2 D2 ∧ Rt w' z3b z3p z3n z3c z3q z3m z3e T2 D2)
      ⟨bb.out.alloc bb.out.size _, Xa.out.alloc _, Xb.out.alloc _, Y0.out.alloc _, Y1.out.alloc _, Y2.out.alloc _, Box3.new _ _ _ _ rfl, Ra.out.alloc _, Rb.out.alloc _, N0.out.alloc _, N1.out.alloc _, N2.out.alloc _, N3.out.alloc _⟩ ?_
     clear bb Xa Xb Y0 Y1 Y2 Ra Rb N0 N1 N2 N3
     rintro x15 ⟨bb, Xa, Xb, Y0, Y1, Y2, Y3, Ra, Rb, N0, N1, N2, N3⟩
     replace bb := Lib.hid bb; replace Xa := Lib.hid Xa; replace Xb := Lib.hid Xb; replace Y0 := Lib.hid Y0; replace Y1 := Lib.hid Y1; replace Y2 := Lib.hid Y2; replace Y3 := Lib.hid Y3; replace Ra := Lib.hid Ra; replace Rb := Lib.hid Rb; replace N0 := Lib.hid N0; replace N1 := Lib.hid N1; replace N2 := Lib.hid N2; replace N3 := Lib.hid N3
     have p00 := Y0.out.c0; have p01 := Y0.out.c1; have p02 := Y0.out.c2; have p10 := Y1.out.c0; have p11 := Y1.out.c1; have p12 := Y1.out.c2
     go_wp2_with fail
     clear p00 p01 p02 p10 p11 p12
     refine (same4_iff z0b z0p z0q z0n z0c z0m z0e T1 D1 z1b z1p z1q z1n z1c z1m z1e T1 D1 _ N0.out N1.out true (by simp)).mono ?_
     rintro e v16 ⟨rfl, hb⟩
     replace bb := Lib.hid (below_then bb.out (Nat.le_refl _) hb); replace Xa := Lib.hid (Xa.out.later hb); replace Xb := Lib.hid (Xb.out.later hb); replace Y0 := Lib.hid (Y0.out.later hb); replace Y1 := Lib.hid (Y1.out.later hb); replace Y2 := Lib.hid (Y2.out.later hb); replace Y3 := Lib.hid (Y3.out.later hb); replace Ra := Lib.hid (Ra.out.below hb); replace Rb := Lib.hid (Rb.out.below hb); replace N0 := Lib.hid (N0.out.below hb); replace N1 := Lib.hid (N1.out.below hb); replace N2 := Lib.hid (N2.out.below hb); replace N3 := Lib.hid (N3.out.below hb)
     clear hb
     have p00 := Y2.out.c0; have p01 := Y2.out.c1; have p02 := Y2.out.c2; have p10 := Y3.out.c0; have p11 := Y3.out.c1; have p12 := Y3.out.c2
     go_wp2_with fail
     clear p00 p01 p02 p10 p11 p12
     refine (same4_iff z2b z2p z2q z2n z2c z2m z2e T2 D2 z3b z3p z3q z3n z3c z3m z3e T2 D2 _ N2.out N3.out true (by simp)).mono ?_
     rintro e v17 ⟨rfl, hb⟩
     replace bb := Lib.hid (below_then bb.out (Nat.le_refl _) hb); replace Xa := Lib.hid (Xa.out.later hb); replace Xb := Lib.hid (Xb.out.later hb); replace Y0 := Lib.hid (Y0.out.later hb); replace Y1 := Lib.hid (Y1.out.later hb); replace Y2 := Lib.hid (Y2.out.later hb); replace Y3 := Lib.hid (Y3.out.later hb); replace Ra := Lib.hid (Ra.out.below hb); replace Rb := Lib.hid (Rb.out.below hb); replace N0 := Lib.hid (N0.out.below hb); replace N1 := Lib.hid (N1.out.below hb); replace N2 := Lib.hid (N2.out.below hb); replace N3 := Lib.hid (N3.out.below hb)
     clear hb
     clear Xa Xb Y0 Y1 Y2 Y3 Ra Rb N0 N1 N2 N3 
     go_wp2_with fail
     refine (hA.out _).mono ?_
     rintro e vz ⟨rfl, hb⟩
     replace bb := Lib.hid (below_then bb.out (Nat.le_refl _) hb)
     clear hb
     go_wp2_with fail
     go_ret
     exact ⟨rfl, bb.out⟩
end Go.Proofs.YtaepelipkkmeaaaGreat
namespace Go.Proofs.YtaepelipkkmeaaaGreat
open Go.RowKit Num Go.ChangeShapes
section
variable {H : Type} {enc : TypeId × Value → H} {P : Program} {W : World}
theorem row_size {t e : TypeId} {fuel : Nat} {c : Value} {x : DataW H × List MemPlace} (ht : P.underlying t = some (.slice e))
  (h : DataW.trod enc P W 0 (fun _ => true) true fuel t [c] = some x) (hw : ∀ k ∈ x.1.weights P t, k ≤ reachBytes) : ∃ ao n nc, c = .slice ao n nc ∧ n * P.bytesOf e ≤ reachBytes := by
 rcases DataW.trod_slice ht h with ⟨h0, _⟩ | ⟨a, len, cap, elems, rest, n, hf, h1, rfl, _, hl, hm, hlen, hel, hsp, _⟩
 ·obtain rfl : c = .slice none 0 0 := by simpa using h0
  exact ⟨none, 0, 0, rfl, by omega⟩
 ·obtain rfl : c = .slice (some a) len cap := by simpa using h1
  have hwt : (elems.length + rest.length) * P.bytesOf e ≤ reachBytes := hw _ (by simp [DataW.weights, ht])
  exact ⟨some a, len, cap, rfl, Nat.le_trans (Nat.mul_le_mul_right _ (by omega)) hwt⟩
theorem struct_len {t : TypeId} {fs : Array Field} {fuel : Nat} {cs : List Value} {x : DataW H × List MemPlace} (ht : P.underlying t = some (.struct fs)) (h : DataW.trod enc P W 0 (fun _ => true) true fuel t cs = some x) : cs.length = P.cellsOf t := by
 obtain ⟨xs, n, hf, rfl, hl, hlen, hx⟩ := DataW.trod_struct ht h
 exact hl
end
variable {H : Type} {enc : TypeId × Value → H} {W : World}
theorem limbs_size {fuel n nc : Nat} {ao : Option Addr} {x : DataW H × List MemPlace} (h : DataW.trod enc Tryz.prog W 0 (fun _ => true) true fuel 22 [.slice ao n nc] = some x) (hw : ∀ k ∈ x.1.weights Tryz.prog 22, k ≤ reachBytes) : n * 4 ≤ 140737488355328 := by
 obtain ⟨_, m, _, he, hm⟩ := row_size Tryz.underlying22 h hw
 have hb : Tryz.prog.bytesOf 104 = 4 := by kernel_rfl
 have hr : reachBytes < 140737488355328 := reachBytes_lt
 have hn : n = m := by injection he
 rw [hb] at hm
 omega
theorem num_sized {fuel : Nat} {c0 c1 c2 : Value} {x : DataW H × List MemPlace} (h : DataW.trod enc Tryz.prog W 0 (fun _ => true) true fuel 24 [c0, c1, c2] = some x) (hw : ∀ k ∈ x.1.weights Tryz.prog 24, k ≤ reachBytes) : ∃ N, NumP W N c0 c1 c2 ∧ N.an * 4 ≤ 140737488355328 ∧ N.am * 4 ≤ 140737488355328 := by
 obtain ⟨N, hN⟩ := num_in h hw
 obtain ⟨n, _, _, hf⟩ := struct_open Tryz.underlying24 h hw
 obtain ⟨y1, h1, w1⟩ := hf 1 _ rfl
 obtain ⟨y2, h2, w2⟩ := hf 2 _ rfl
 have ks : Tryz.prog.cellsOf 22 = 1 := by kernel_rfl
 have h1' : DataW.trod enc Tryz.prog W 0 (fun _ => true) true n 22 [c1] = some y1 := by simpa [ks] using h1
 have h2' : DataW.trod enc Tryz.prog W 0 (fun _ => true) true n 22 [c2] = some y2 := by simpa [ks] using h2
 have hN' := hN
 obtain ⟨_, ⟨_, _, rfl, _⟩, ⟨_, _, rfl, _⟩⟩ := hN
 exact ⟨N, hN', limbs_size h1' w1, limbs_size h2' w2⟩
end Go.Proofs.YtaepelipkkmeaaaGreat
namespace Go.Proofs.YtaepelipkkmeaaaGreat
open Go.RowKit Num
theorem isOne_any (f : Int) (w : World) : Calls Tryz.prog 8 #[.int .i64 f] w (Tell (.bool (decide (f ∈ onesZ))) w) := by
 go_enter Tryz.func8, Tryz.ntmps8
 go_wp2_with fail
 all_goals (go_ret; refine ⟨?_, Below.refl _ _⟩; refine congrArg (fun b => Ending.returned (Value.bool b)) ?_)
 all_goals first
  | (rename_i h; rw [beq_iff_eq] at h; subst h; rfl)
  | (symm; rw [decide_eq_false_iff_not]; simp only [beq_eq_false_iff_ne, ne_eq] at *; simp only [onesZ, List.mem_cons, List.not_mem_nil, or_false, not_or]; repeat (first | assumption | refine ⟨by assumption, ?_⟩))
end Go.Proofs.YtaepelipkkmeaaaGreat
namespace Go.Proofs.YtaepelipkkmeaaaGreat
open Go.RowKit Num
attribute [local go_sem ↓] Go.wp_at_zero Go.wp_at_succ
theorem cmp_sgn (P : Int) : cmpI P 0 = P.sign := by have := cmp_diff P 0; rw [Int.sub_zero] at this; exact this.symm
theorem sign_bounds (P : Int) : -1 ≤ P.sign ∧ P.sign ≤ 1 := by rw [← cmp_sgn]; exact cmpI_small P 0
attribute [local go_sem] fieldNumP
theorem numP_plus (ab : Bool) (ap aq : Option Addr) (an ac am ae : Nat) (P : Int) (Q : Nat) (w : World) (Ra : Rt w ab ap an ac aq am ae P Q) (la : Low P Q) :
  Calls Tryz.prog 17 #[.int .i64 43, .agg #[.bool ab, .slice ap an ac, .slice aq am ae]] w (ResPost P Q 0 w) := by
 replace Ra := Lib.hid Ra; replace la := Lib.hid la
 go_enter Tryz.func17, Tryz.ntmps17
 go_upto_region 1 with fail
 refine gen_wp (fun w' => Below w.heap.size w w' ∧ Box3 w' w.heap.size (.bool ab) (.slice ap an ac) (.slice aq am ae) ∧ Box3 w' (w.heap.size + 1) (.bool false) (.slice none 0 0) (.slice none 0 0))
  ⟨(((Below.refl _ _).alloc (Nat.le_refl _) _).alloc (by simp <;> omega) _), ((Box3.new _ _ _ _ rfl).alloc _), (Box3.new _ _ _ _ (by simp <;> omega))⟩ ?_
 rintro w0 ⟨bb, Xa, X2⟩
 replace Ra := Ra.out.below bb
 replace bb := Lib.hid bb; replace Xa := Lib.hid Xa; replace X2 := Lib.hid X2; replace Ra := Lib.hid Ra
 have p00 := Xa.out.c0; have p01 := Xa.out.c1; have p02 := Xa.out.c2
 go_wp2_with fail
 clear p00 p01 p02
 refine (numRt_any ab ap aq an ac am ae P Q _ Ra.out la.out).mono ?_
 rintro e v1 ⟨db, dp, dn, dc, dq, dm, de, rfl, D, hb⟩
 replace bb := Lib.hid (below_then bb.out (Nat.le_refl _) hb); replace Xa := Lib.hid (Xa.out.later hb); replace X2 := Lib.hid (X2.out.later hb); replace Ra := Lib.hid (Ra.out.below hb)
 replace D := Lib.hid D
 clear hb
 replace X2 := X2.out
 replace bb := bb.out
 have q0 := X2.c0; have q1 := X2.c1; have q2 := X2.c2; have q3 := X2.fr 0; have q4 := X2.fr 1; have q5 := X2.fr 2
 have zz := X2.set (.bool db) (.slice dp dn dc) (.slice dq dm de)
 have e0 := zz.c0; have e1 := zz.c1; have e2 := zz.c2
 have Y2 := Lib.hid X2; have bb' := Lib.hid bb
 clear zz X2 bb
 go_wp2_with fail
 refine bodyPost_ret (v := .tuple #[.agg #[.bool db, .slice dp dn dc, .slice dq dm de], .int .i64 (0)]) (by simp [results, Tryz.results17, go_sem, e0, e1, e2]) rfl ?_
 exact (ResPost.stored D.out Y2.out bb'.out (by omega))
theorem numP_minus (ab : Bool) (ap aq : Option Addr) (an ac am ae : Nat) (P : Int) (Q : Nat) (w : World) (Ra : Rt w ab ap an ac aq am ae P Q) (la : Low P Q) :
  Calls Tryz.prog 17 #[.int .i64 45, .agg #[.bool ab, .slice ap an ac, .slice aq am ae]] w (ResPost (-P) Q 0 w) := by
 replace Ra := Lib.hid Ra; replace la := Lib.hid la
 go_enter Tryz.func17, Tryz.ntmps17
 go_upto_region 1 with fail
 refine gen_wp (fun w' => Below w.heap.size w w' ∧ Box3 w' w.heap.size (.bool ab) (.slice ap an ac) (.slice aq am ae) ∧ Box3 w' (w.heap.size + 1) (.bool false) (.slice none 0 0) (.slice none 0 0))
  ⟨(((Below.refl _ _).alloc (Nat.le_refl _) _).alloc (by simp <;> omega) _), ((Box3.new _ _ _ _ rfl).alloc _), (Box3.new _ _ _ _ (by simp <;> omega))⟩ ?_
 rintro w0 ⟨bb, Xa, X2⟩
 replace Ra := Ra.out.below bb
 replace bb := Lib.hid bb; replace Xa := Lib.hid Xa; replace X2 := Lib.hid X2; replace Ra := Lib.hid Ra
 have p00 := Xa.out.c0; have p01 := Xa.out.c1; have p02 := Xa.out.c2
 go_wp2_with fail
 clear p00 p01 p02
 refine (neg_any ab ap aq an ac am ae P Q _ Ra.out la.out).mono ?_
 rintro e v1 ⟨db, dp, dn, dc, dq, dm, de, rfl, D, hb⟩
 replace bb := Lib.hid (below_then bb.out (Nat.le_refl _) hb); replace Xa := Lib.hid (Xa.out.later hb); replace X2 := Lib.hid (X2.out.later hb); replace Ra := Lib.hid (Ra.out.below hb)
 replace D := Lib.hid D
 clear hb
 replace X2 := X2.out
 replace bb := bb.out
 have q0 := X2.c0; have q1 := X2.c1; have q2 := X2.c2; have q3 := X2.fr 0; have q4 := X2.fr 1; have q5 := X2.fr 2
 have zz := X2.set (.bool db) (.slice dp dn dc) (.slice dq dm de)
 have e0 := zz.c0; have e1 := zz.c1; have e2 := zz.c2
 have Y2 := Lib.hid X2; have bb' := Lib.hid bb
 clear zz X2 bb
 go_wp2_with fail
 refine bodyPost_ret (v := .tuple #[.agg #[.bool db, .slice dp dn dc, .slice dq dm de], .int .i64 (0)]) (by simp [results, Tryz.results17, go_sem, e0, e1, e2]) rfl ?_
 exact (ResPost.stored D.out Y2.out bb'.out (by omega))
theorem numP_ceil (ab : Bool) (ap aq : Option Addr) (an ac am ae : Nat) (P : Int) (Q : Nat) (w : World) (Ra : Rt w ab ap an ac aq am ae P Q) (la : Low P Q) :
  Calls Tryz.prog 17 #[.int .i64 8968, .agg #[.bool ab, .slice ap an ac, .slice aq am ae]] w (ResPost (-((-P).fdiv Q)) 1 0 w) := by
 replace Ra := Lib.hid Ra; replace la := Lib.hid la
 go_enter Tryz.func17, Tryz.ntmps17
 go_upto_region 1 with fail
 refine gen_wp (fun w' => Below w.heap.size w w' ∧ Box3 w' w.heap.size (.bool ab) (.slice ap an ac) (.slice aq am ae) ∧ Box3 w' (w.heap.size + 1) (.bool false) (.slice none 0 0) (.slice none 0 0))
  ⟨(((Below.refl _ _).alloc (Nat.le_refl _) _).alloc (by simp <;> omega) _), ((Box3.new _ _ _ _ rfl).alloc _), (Box3.new _ _ _ _ (by simp <;> omega))⟩ ?_
 rintro w0 ⟨bb, Xa, X2⟩
 replace Ra := Ra.out.below bb
 replace bb := Lib.hid bb; replace Xa := Lib.hid Xa; replace X2 := Lib.hid X2; replace Ra := Lib.hid Ra
 have p00 := Xa.out.c0; have p01 := Xa.out.c1; have p02 := Xa.out.c2
 go_wp2_with fail
 clear p00 p01 p02
 refine (ceil_any ab ap aq an ac am ae P Q _ Ra.out la.out).mono ?_
 rintro e v1 ⟨db, dp, dn, dc, dq, dm, de, rfl, D, hb⟩
 replace bb := Lib.hid (below_then bb.out (Nat.le_refl _) hb); replace Xa := Lib.hid (Xa.out.later hb); replace X2 := Lib.hid (X2.out.later hb); replace Ra := Lib.hid (Ra.out.below hb)
 replace D := Lib.hid D
 clear hb
 replace X2 := X2.out
 replace bb := bb.out
 have q0 := X2.c0; have q1 := X2.c1; have q2 := X2.c2; have q3 := X2.fr 0; have q4 := X2.fr 1; have q5 := X2.fr 2
 have zz := X2.set (.bool db) (.slice dp dn dc) (.slice dq dm de)
 have e0 := zz.c0; have e1 := zz.c1; have e2 := zz.c2
 have Y2 := Lib.hid X2; have bb' := Lib.hid bb
 clear zz X2 bb
 go_wp2_with fail
 refine bodyPost_ret (v := .tuple #[.agg #[.bool db, .slice dp dn dc, .slice dq dm de], .int .i64 (0)]) (by simp [results, Tryz.results17, go_sem, e0, e1, e2]) rfl ?_
 exact (ResPost.stored D.out Y2.out bb'.out (by omega))
theorem numP_floor (ab : Bool) (ap aq : Option Addr) (an ac am ae : Nat) (P : Int) (Q : Nat) (w : World) (Ra : Rt w ab ap an ac aq am ae P Q) (la : Low P Q) :
  Calls Tryz.prog 17 #[.int .i64 8970, .agg #[.bool ab, .slice ap an ac, .slice aq am ae]] w (ResPost (P.fdiv Q) 1 0 w) := by
 replace Ra := Lib.hid Ra; replace la := Lib.hid la
 go_enter Tryz.func17, Tryz.ntmps17
 go_upto_region 1 with fail
 refine gen_wp (fun w' => Below w.heap.size w w' ∧ Box3 w' w.heap.size (.bool ab) (.slice ap an ac) (.slice aq am ae) ∧ Box3 w' (w.heap.size + 1) (.bool false) (.slice none 0 0) (.slice none 0 0))
  ⟨(((Below.refl _ _).alloc (Nat.le_refl _) _).alloc (by simp <;> omega) _), ((Box3.new _ _ _ _ rfl).alloc _), (Box3.new _ _ _ _ (by simp <;> omega))⟩ ?_
 rintro w0 ⟨bb, Xa, X2⟩
 replace Ra := Ra.out.below bb
 replace bb := Lib.hid bb; replace Xa := Lib.hid Xa; replace X2 := Lib.hid X2; replace Ra := Lib.hid Ra
 have p00 := Xa.out.c0; have p01 := Xa.out.c1; have p02 := Xa.out.c2
 go_wp2_with fail
 clear p00 p01 p02
 refine (floor_any ab ap aq an ac am ae P Q _ Ra.out la.out).mono ?_
 rintro e v1 ⟨db, dp, dn, dc, dq, dm, de, rfl, D, hb⟩
 replace bb := Lib.hid (below_then bb.out (Nat.le_refl _) hb); replace Xa := Lib.hid (Xa.out.later hb); replace X2 := Lib.hid (X2.out.later hb); replace Ra := Lib.hid (Ra.out.below hb)
 replace D := Lib.hid D
 clear hb
 replace X2 := X2.out
 replace bb := bb.out
 have q0 := X2.c0; have q1 := X2.c1; have q2 := X2.c2; have q3 := X2.fr 0; have q4 := X2.fr 1; have q5 := X2.fr 2
 have zz := X2.set (.bool db) (.slice dp dn dc) (.slice dq dm de)
 have e0 := zz.c0; have e1 := zz.c1; have e2 := zz.c2
 have Y2 := Lib.hid X2; have bb' := Lib.hid bb
 clear zz X2 bb
 go_wp2_with fail
 refine bodyPost_ret (v := .tuple #[.agg #[.bool db, .slice dp dn dc, .slice dq dm de], .int .i64 (0)]) (by simp [results, Tryz.results17, go_sem, e0, e1, e2]) rfl ?_
 exact (ResPost.stored D.out Y2.out bb'.out (by omega))
theorem numP_abs (ab : Bool) (ap aq : Option Addr) (an ac am ae : Nat) (P : Int) (Q : Nat) (w : World) (Ra : Rt w ab ap an ac aq am ae P Q) (la : Low P Q) :
  Calls Tryz.prog 17 #[.int .i64 124, .agg #[.bool ab, .slice ap an ac, .slice aq am ae]] w (ResPost (P.natAbs : Int) Q 0 w) := by
 replace Ra := Lib.hid Ra; replace la := Lib.hid la
 go_enter Tryz.func17, Tryz.ntmps17
 go_upto_region 1 with fail
 refine gen_wp (fun w' => Below w.heap.size w w' ∧ Box3 w' w.heap.size (.bool ab) (.slice ap an ac) (.slice aq am ae) ∧ Box3 w' (w.heap.size + 1) (.bool false) (.slice none 0 0) (.slice none 0 0))
  ⟨(((Below.refl _ _).alloc (Nat.le_refl _) _).alloc (by simp <;> omega) _), ((Box3.new _ _ _ _ rfl).alloc _), (Box3.new _ _ _ _ (by simp <;> omega))⟩ ?_
 rintro w0 ⟨bb, Xa, X2⟩
 replace Ra := Ra.out.below bb
 replace bb := Lib.hid bb; replace Xa := Lib.hid Xa; replace X2 := Lib.hid X2; replace Ra := Lib.hid Ra
 have p00 := Xa.out.c0; have p01 := Xa.out.c1; have p02 := Xa.out.c2
 go_wp2_with fail
 clear p00 p01 p02
 refine (abs_any ab ap aq an ac am ae P Q _ Ra.out la.out).mono ?_
 rintro e v1 ⟨db, dp, dn, dc, dq, dm, de, rfl, D, hb⟩
 replace bb := Lib.hid (below_then bb.out (Nat.le_refl _) hb); replace Xa := Lib.hid (Xa.out.later hb); replace X2 := Lib.hid (X2.out.later hb); replace Ra := Lib.hid (Ra.out.below hb)
 replace D := Lib.hid D
 clear hb
 replace X2 := X2.out
 replace bb := bb.out
 have q0 := X2.c0; have q1 := X2.c1; have q2 := X2.c2; have q3 := X2.fr 0; have q4 := X2.fr 1; have q5 := X2.fr 2
 have zz := X2.set (.bool db) (.slice dp dn dc) (.slice dq dm de)
 have e0 := zz.c0; have e1 := zz.c1; have e2 := zz.c2
 have Y2 := Lib.hid X2; have bb' := Lib.hid bb
 clear zz X2 bb
 go_wp2_with fail
 refine bodyPost_ret (v := .tuple #[.agg #[.bool db, .slice dp dn dc, .slice dq dm de], .int .i64 (0)]) (by simp [results, Tryz.results17, go_sem, e0, e1, e2]) rfl ?_
 exact (ResPost.stored D.out Y2.out bb'.out (by omega))
theorem numP_times (ab : Bool) (ap aq : Option Addr) (an ac am ae : Nat) (P : Int) (Q : Nat) (w : World) (Ra : Rt w ab ap an ac aq am ae P Q) (la : Low P Q) :
  Calls Tryz.prog 17 #[.int .i64 215, .agg #[.bool ab, .slice ap an ac, .slice aq am ae]] w (ResPost (cmpI P 0) 1 0 w) := by
 have hsb := Lib.hid (sign_bounds P)
 rw [cmp_sgn]
 replace Ra := Lib.hid Ra; replace la := Lib.hid la
 go_enter Tryz.func17, Tryz.ntmps17
 go_upto_region 1 with fail
 refine gen_wp (fun w' => Below w.heap.size w w' ∧ Box3 w' w.heap.size (.bool ab) (.slice ap an ac) (.slice aq am ae) ∧ Box3 w' (w.heap.size + 1) (.bool false) (.slice none 0 0) (.slice none 0 0))
  ⟨(((Below.refl _ _).alloc (Nat.le_refl _) _).alloc (by simp <;> omega) _), ((Box3.new _ _ _ _ rfl).alloc _), (Box3.new _ _ _ _ (by simp <;> omega))⟩ ?_
 rintro w0 ⟨bb, Xa, X2⟩
 replace Ra := Ra.out.below bb
 replace bb := Lib.hid bb; replace Xa := Lib.hid Xa; replace X2 := Lib.hid X2; replace Ra := Lib.hid Ra
 have p00 := Xa.out.c0; have p01 := Xa.out.c1; have p02 := Xa.out.c2
 go_wp2_with fail
 clear p00 p01 p02
 refine (sign_any ab ap aq an ac am ae P Q _ Ra.out la.out).mono ?_
 rintro e v1 ⟨rfl, hb⟩
 replace bb := Lib.hid (below_then bb.out (Nat.le_refl _) hb); replace Xa := Lib.hid (Xa.out.later hb); replace X2 := Lib.hid (X2.out.later hb); replace Ra := Lib.hid (Ra.out.below hb)
 clear hb
 go_wp2_with fail
 refine (of_any _ _ (by have := hsb.out; omega) (by have := hsb.out; omega)).mono ?_
 rintro e v2 ⟨db, dp, dn, dc, dq, dm, de, rfl, D, hb⟩
 replace bb := Lib.hid (below_then bb.out (Nat.le_refl _) hb); replace Xa := Lib.hid (Xa.out.later hb); replace X2 := Lib.hid (X2.out.later hb); replace Ra := Lib.hid (Ra.out.below hb)
 replace D := Lib.hid D
 clear hb
 replace X2 := X2.out
 replace bb := bb.out
 have q0 := X2.c0; have q1 := X2.c1; have q2 := X2.c2; have q3 := X2.fr 0; have q4 := X2.fr 1; have q5 := X2.fr 2
 have zz := X2.set (.bool db) (.slice dp dn dc) (.slice dq dm de)
 have e0 := zz.c0; have e1 := zz.c1; have e2 := zz.c2
 have Y2 := Lib.hid X2; have bb' := Lib.hid bb
 clear zz X2 bb
 go_wp2_with fail
 refine bodyPost_ret (v := .tuple #[.agg #[.bool db, .slice dp dn dc, .slice dq dm de], .int .i64 (0)]) (by simp [results, Tryz.results17, go_sem, e0, e1, e2]) rfl ?_
 exact (ResPost.stored D.out Y2.out bb'.out (by omega))
theorem numP_div (ab : Bool) (ap aq : Option Addr) (an ac am ae : Nat) (P : Int) (Q : Nat) (w : World) (Ra : Rt w ab ap an ac aq am ae P Q) (la : Low P Q) :
  Calls Tryz.prog 17 #[.int .i64 247, .agg #[.bool ab, .slice ap an ac, .slice aq am ae]] w (ResPost (mkT ((1 : Int) * Q) (((1 : Nat) : Int) * P)) (mkB ((1 : Int) * Q) (((1 : Nat) : Int) * P)) (mkE ((1 : Int) * Q) (((1 : Nat) : Int) * P)) w) := by
 replace Ra := Lib.hid Ra; replace la := Lib.hid la
 go_enter Tryz.func17, Tryz.ntmps17
 go_upto_region 1 with fail
 refine gen_wp (fun w' => Below w.heap.size w w' ∧ Box3 w' w.heap.size (.bool ab) (.slice ap an ac) (.slice aq am ae) ∧ Box3 w' (w.heap.size + 1) (.bool false) (.slice none 0 0) (.slice none 0 0))
  ⟨(((Below.refl _ _).alloc (Nat.le_refl _) _).alloc (by simp <;> omega) _), ((Box3.new _ _ _ _ rfl).alloc _), (Box3.new _ _ _ _ (by simp <;> omega))⟩ ?_
 rintro w0 ⟨bb, Xa, X2⟩
 replace Ra := Ra.out.below bb
 replace bb := Lib.hid bb; replace Xa := Lib.hid Xa; replace X2 := Lib.hid X2; replace Ra := Lib.hid Ra
 go_upto_region 9 with fail
 replace bb := bb.out; replace Xa := Xa.out; replace X2 := X2.out; replace Ra := Ra.out
 have bb := bb.drew; have Xa := Xa.drew; have X2 := X2.drew; have Ra := Ra.drew
 have sa0 := True.intro
 go_region_held3 (fun w' => w'.cell? ⟨w.heap.size, 0, none⟩ = some (.bool ab) ∧ w'.cell? ⟨w.heap.size, 1, none⟩ = some (.slice ap an ac) ∧ w'.cell? ⟨w.heap.size, 2, none⟩ = some (.slice aq am ae))
  (first | with_reducible exact ⟨Xa.c0, Xa.c1, Xa.c2⟩ | with_reducible exact ⟨(Xa.other3 (by omega) _ _ _).c0, (Xa.other3 (by omega) _ _ _).c1, (Xa.other3 (by omega) _ _ _).c2⟩ | go_keep)
  (first
  | (go_at_call 50; clear sa0; refine (of_any 1 _ (by decide) (by decide)).mono ?_; rintro e w' ⟨ob, op, on, oc, oq, om, oe, rfl, O, hb⟩; have bb := below_then bb (Nat.le_refl _) hb; have Xa := Xa.later hb; have X2 := X2.later hb; have Ra := Ra.below hb; clear hb; have sa1 := True.intro)
  | (go_at_call 52; clear sa1; refine (div4_any ob op oq on oc om oe 1 1 ab ap aq an ac am ae P Q _ O (low_one (Nat.lt_of_lt_of_le (show (1 : Int).natAbs < pw 1 by decide) (pw_le (by omega)))) Ra la.out).mono ?_; rintro e w' ⟨db, dp, dn, dc, dq, dm, de, rfl, D, hb⟩; have bb := below_then bb (Nat.le_refl _) hb; have Xa := Xa.later hb; have X2 := X2.later hb; have Ra := Ra.below hb; have O := O.below hb; clear hb; have q0 := X2.c0; have q1 := X2.c1; have q2 := X2.c2; have q3 := X2.fr 0; have q4 := X2.fr 1; have q5 := X2.fr 2; have sa2 := True.intro))
 have zz := X2.set (.bool db) (.slice dp dn dc) (.slice dq dm de)
 have e0 := zz.c0; have e1 := zz.c1; have e2 := zz.c2
 have Y2 := Lib.hid X2; have bb' := Lib.hid bb
 clear zz X2 bb
 go_wp2_with fail
 refine bodyPost_ret (v := .tuple #[.agg #[.bool db, .slice dp dn dc, .slice dq dm de], .int .i64 (mkE ((1 : Int) * Q) (((1 : Nat) : Int) * P))]) (by simp [results, Tryz.results17, go_sem, e0, e1, e2]) rfl ?_
 exact (ResPost.stored D Y2.out bb'.out (by omega))
theorem numP_none (f : Int) (ab : Bool) (ap aq : Option Addr) (an ac am ae : Nat) (P : Int) (Q : Nat) (w : World) (Ra : Rt w ab ap an ac aq am ae P Q) (la : Low P Q) (h43 : f ≠ 43) (h45 : f ≠ 45) (h215 : f ≠ 215) (h247 : f ≠ 247) (h8968 : f ≠ 8968) (h8970 : f ≠ 8970) (h124 : f ≠ 124) (h126 : f ≠ 126) (h33 : f ≠ 33) :
  Calls Tryz.prog 17 #[.int .i64 f, .agg #[.bool ab, .slice ap an ac, .slice aq am ae]] w (ResPost 0 0 8 w) := by
 have g43 : (f == 43) = false := by rw [beq_eq_false_iff_ne]; exact h43
 have g45 : (f == 45) = false := by rw [beq_eq_false_iff_ne]; exact h45
 have g215 : (f == 215) = false := by rw [beq_eq_false_iff_ne]; exact h215
 have g247 : (f == 247) = false := by rw [beq_eq_false_iff_ne]; exact h247
 have g8968 : (f == 8968) = false := by rw [beq_eq_false_iff_ne]; exact h8968
 have g8970 : (f == 8970) = false := by rw [beq_eq_false_iff_ne]; exact h8970
 have g124 : (f == 124) = false := by rw [beq_eq_false_iff_ne]; exact h124
 have g126 : (f == 126) = false := by rw [beq_eq_false_iff_ne]; exact h126
 have g33 : (f == 33) = false := by rw [beq_eq_false_iff_ne]; exact h33
 clear h43 h45 h215 h247 h8968 h8970 h124 h126 h33
 replace Ra := Lib.hid Ra; replace la := Lib.hid la
 go_enter Tryz.func17, Tryz.ntmps17
 go_upto_region 1 with fail
 refine gen_wp (fun w' => Below w.heap.size w w' ∧ Box3 w' w.heap.size (.bool ab) (.slice ap an ac) (.slice aq am ae) ∧ Box3 w' (w.heap.size + 1) (.bool false) (.slice none 0 0) (.slice none 0 0))
  ⟨(((Below.refl _ _).alloc (Nat.le_refl _) _).alloc (by simp <;> omega) _), ((Box3.new _ _ _ _ rfl).alloc _), (Box3.new _ _ _ _ (by simp <;> omega))⟩ ?_
 rintro w0 ⟨bb, Xa, X2⟩
 replace Ra := Ra.out.below bb
 replace bb := Lib.hid bb; replace Xa := Lib.hid Xa; replace X2 := Lib.hid X2; replace Ra := Lib.hid Ra
 replace X2 := X2.out
 replace bb := bb.out
 have q0 := X2.c0; have q1 := X2.c1; have q2 := X2.c2; have q3 := X2.fr 0; have q4 := X2.fr 1; have q5 := X2.fr 2
 have zz := X2.set (.bool false) (.slice none 0 0) (.slice none 0 0)
 have e0 := zz.c0; have e1 := zz.c1; have e2 := zz.c2
 have Y2 := Lib.hid X2; have bb' := Lib.hid bb
 clear zz X2 bb
 go_wp2_with fail
 refine bodyPost_ret (v := .tuple #[.agg #[.bool false, .slice none 0 0, .slice none 0 0], .int .i64 (8)]) (by simp [results, Tryz.results17, go_sem, e0, e1, e2]) rfl ?_
 exact (ResPost.stored (rt_zero _) Y2.out bb'.out (by omega))
end Go.Proofs.YtaepelipkkmeaaaGreat
