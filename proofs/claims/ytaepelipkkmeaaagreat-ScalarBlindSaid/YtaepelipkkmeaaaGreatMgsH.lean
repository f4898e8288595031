/-
  scalar.chosen, compared, power; Numbers.
-/
import Derived.Test.YtaepelipkkmeaaaGreatMgsA
import Derived.Test.YtaepelipkkmeaaaGreatMgsB
import Derived.Test.YtaepelipkkmeaaaGreatMgsC
import Derived.Test.YtaepelipkkmeaaaGreatMgsD
import Derived.Test.YtaepelipkkmeaaaGreatMgsE
import Derived.Test.YtaepelipkkmeaaaGreatMgsF
import Derived.Test.YtaepelipkkmeaaaGreatMgsG
import Derived.Laws.CopyOwn
import Derived.WalkKit
import Derived.WalkSpells
import Derived.WalkLawsBesides
import Derived.Lib.Hide
import Derived.Laws.AppendOwn
import Derived.Laws.OwnMore
import Derived.BigQuiet
import Derived.Deep.CutRange
import Derived.Deep.RegionHeld3
import Derived.Deep.RegionLaw
import Derived.Deep.AppendLies
import Derived.Deep.RegionWith
import Derived.Lib.Small
import Derived.Lib.Walk
import Derived.Lib.BitFns
import Derived.Deep.QuietTactic
import Derived.Deep.LoopGhost
import Derived.OpenShut
import Derived.SizedLaws
import Derived.Lib.SliceRun
import Derived.Deep.DrawnRows
namespace Go.Proofs.YtaepelipkkmeaaaGreat

open Go.RowKit Num

attribute [local go_sem ↓] Go.wp_at_zero Go.wp_at_succ

attribute [local go_sem] fieldNumP

set_option maxRecDepth 20000 in
set_option maxHeartbeats 4000000 in
theorem chosen_true (ab : Bool) (ap aq : Option Addr) (an ac am ae : Nat) (P : Int) (Q : Nat) (cb : Bool) (cp cq : Option Addr) (cn cc cm ce : Nat) (R : Int) (S : Nat) (w : World) (Ra : Rt w ab ap an ac aq am ae P Q) (la : Low P Q) (Rb : Rt w cb cp cn cc cq cm ce R S) (lb : Low R S) :
    Calls Tryz.prog 126 #[.bool true, .agg #[.bool ab, .slice ap an ac, .slice aq am ae], .agg #[.bool cb, .slice cp cn cc, .slice cq cm ce]] w (RatPost P Q w) := by
  replace Ra := Lib.hid Ra; replace la := Lib.hid la; replace Rb := Lib.hid Rb; replace lb := Lib.hid lb
  go_enter Tryz.func126, Tryz.ntmps126
  go_upto_region 1 with fail
  refine gen_wp (fun w' => Below w.heap.size w w' ∧ Box3 w' w.heap.size (.bool ab) (.slice ap an ac) (.slice aq am ae) ∧ Box3 w' (w.heap.size + 1) (.bool cb) (.slice cp cn cc) (.slice cq cm ce) ∧ Box3 w' (w.heap.size + 2) (.bool false) (.slice none 0 0) (.slice none 0 0))
    ⟨((((Below.refl _ _).alloc (Nat.le_refl _) _).alloc (by first | (simp; done) | (simp; omega)) _).alloc (by first | (simp; done) | (simp; omega)) _), (((Box3.new _ _ _ _ rfl).alloc _).alloc _), ((Box3.new _ _ _ _ (by first | (simp; done) | (simp; omega))).alloc _), (Box3.new _ _ _ _ (by first | (simp; done) | (simp; omega)))⟩ ?_
  rintro w0 ⟨bb, Xa, Xb, X2⟩
  replace Ra := Ra.out.below bb; replace Rb := Rb.out.below bb
  replace bb := Lib.hid bb; replace Xa := Lib.hid Xa; replace Xb := Lib.hid Xb; replace X2 := Lib.hid X2; replace Ra := Lib.hid Ra; replace Rb := Lib.hid Rb
  have p00 := Xa.out.c0; have p01 := Xa.out.c1; have p02 := Xa.out.c2
  go_wp2_with fail
  clear p00 p01 p02
  refine (numRt_any ab ap aq an ac am ae P Q _ Ra.out la.out).mono ?_
  rintro e v1 ⟨db, dp, dn, dc, dq, dm, de, rfl, D, hb⟩
  replace bb := Lib.hid (below_then bb.out (Nat.le_refl _) hb); replace Xa := Lib.hid (Xa.out.later hb); replace Xb := Lib.hid (Xb.out.later hb); replace X2 := Lib.hid (X2.out.later hb); replace Ra := Lib.hid (Ra.out.below hb); replace Rb := Lib.hid (Rb.out.below hb)
  replace D := Lib.hid D
  clear hb
  replace X2 := X2.out
  replace bb := bb.out
  have q0 := X2.c0; have q1 := X2.c1; have q2 := X2.c2; have q3 := X2.fr 0; have q4 := X2.fr 1; have q5 := X2.fr 2
  have zz := X2.set (.bool db) (.slice dp dn dc) (.slice dq dm de)
  have e0 := zz.c0; have e1 := zz.c1; have e2 := zz.c2
  have Y2 := Lib.hid X2; have bb' := Lib.hid bb
  clear zz X2 bb
  go_wp2_with fail
  refine bodyPost_ret (v := .agg #[.bool db, .slice dp dn dc, .slice dq dm de]) (by simp [results, Tryz.results126, go_sem, e0, e1, e2]) rfl ?_
  exact (RatPost.stored D.out Y2.out bb'.out (by omega))

set_option maxRecDepth 20000 in
set_option maxHeartbeats 4000000 in
theorem chosen_false (ab : Bool) (ap aq : Option Addr) (an ac am ae : Nat) (P : Int) (Q : Nat) (cb : Bool) (cp cq : Option Addr) (cn cc cm ce : Nat) (R : Int) (S : Nat) (w : World) (Ra : Rt w ab ap an ac aq am ae P Q) (la : Low P Q) (Rb : Rt w cb cp cn cc cq cm ce R S) (lb : Low R S) :
    Calls Tryz.prog 126 #[.bool false, .agg #[.bool ab, .slice ap an ac, .slice aq am ae], .agg #[.bool cb, .slice cp cn cc, .slice cq cm ce]] w (RatPost R S w) := by
  replace Ra := Lib.hid Ra; replace la := Lib.hid la; replace Rb := Lib.hid Rb; replace lb := Lib.hid lb
  go_enter Tryz.func126, Tryz.ntmps126
  go_upto_region 1 with fail
  refine gen_wp (fun w' => Below w.heap.size w w' ∧ Box3 w' w.heap.size (.bool ab) (.slice ap an ac) (.slice aq am ae) ∧ Box3 w' (w.heap.size + 1) (.bool cb) (.slice cp cn cc) (.slice cq cm ce) ∧ Box3 w' (w.heap.size + 2) (.bool false) (.slice none 0 0) (.slice none 0 0))
    ⟨((((Below.refl _ _).alloc (Nat.le_refl _) _).alloc (by first | (simp; done) | (simp; omega)) _).alloc (by first | (simp; done) | (simp; omega)) _), (((Box3.new _ _ _ _ rfl).alloc _).alloc _), ((Box3.new _ _ _ _ (by first | (simp; done) | (simp; omega))).alloc _), (Box3.new _ _ _ _ (by first | (simp; done) | (simp; omega)))⟩ ?_
  rintro w0 ⟨bb, Xa, Xb, X2⟩
  replace Ra := Ra.out.below bb; replace Rb := Rb.out.below bb
  replace bb := Lib.hid bb; replace Xa := Lib.hid Xa; replace Xb := Lib.hid Xb; replace X2 := Lib.hid X2; replace Ra := Lib.hid Ra; replace Rb := Lib.hid Rb
  have p00 := Xb.out.c0; have p01 := Xb.out.c1; have p02 := Xb.out.c2
  go_wp2_with fail
  clear p00 p01 p02
  refine (numRt_any cb cp cq cn cc cm ce R S _ Rb.out lb.out).mono ?_
  rintro e v1 ⟨db, dp, dn, dc, dq, dm, de, rfl, D, hb⟩
  replace bb := Lib.hid (below_then bb.out (Nat.le_refl _) hb); replace Xa := Lib.hid (Xa.out.later hb); replace Xb := Lib.hid (Xb.out.later hb); replace X2 := Lib.hid (X2.out.later hb); replace Ra := Lib.hid (Ra.out.below hb); replace Rb := Lib.hid (Rb.out.below hb)
  replace D := Lib.hid D
  clear hb
  replace X2 := X2.out
  replace bb := bb.out
  have q0 := X2.c0; have q1 := X2.c1; have q2 := X2.c2; have q3 := X2.fr 0; have q4 := X2.fr 1; have q5 := X2.fr 2
  have zz := X2.set (.bool db) (.slice dp dn dc) (.slice dq dm de)
  have e0 := zz.c0; have e1 := zz.c1; have e2 := zz.c2
  have Y2 := Lib.hid X2; have bb' := Lib.hid bb
  clear zz X2 bb
  go_wp2_with fail
  refine bodyPost_ret (v := .agg #[.bool db, .slice dp dn dc, .slice dq dm de]) (by simp [results, Tryz.results126, go_sem, e0, e1, e2]) rfl ?_
  exact (RatPost.stored D.out Y2.out bb'.out (by omega))

/-- What a word of two numbers that asks for their order alone tells. -/
def cmpR (f P : Int) (Q : Nat) (R : Int) (S : Nat) : Int × Nat × Int :=
  if f = 8968 then maxR (cmpI (P * S) (R * Q)) P Q R S else
  if f = 8970 then minR (cmpI (P * S) (R * Q)) P Q R S else
  if f = 60 then (truthZ (decide ((cmpI (P * S) (R * Q)) < 0)), 1, 0) else
  if f = 8804 then (truthZ (decide ((cmpI (P * S) (R * Q)) ≤ 0)), 1, 0) else
  if f = 61 then (truthZ ((cmpI (P * S) (R * Q)) == 0), 1, 0) else
  if f = 8805 then (truthZ (decide (0 ≤ (cmpI (P * S) (R * Q)))), 1, 0) else
  if f = 62 then (truthZ (decide (0 < (cmpI (P * S) (R * Q)))), 1, 0) else
  if f = 8800 then (truthZ ((cmpI (P * S) (R * Q)) != 0), 1, 0) else
  (0, 0, 8)

set_option maxRecDepth 20000 in
set_option maxHeartbeats 4000000 in
theorem cmpP_max (ab : Bool) (ap aq : Option Addr) (an ac am ae : Nat) (P : Int) (Q : Nat) (cb : Bool) (cp cq : Option Addr) (cn cc cm ce : Nat) (R : Int) (S : Nat) (w : World) (Ra : Rt w ab ap an ac aq am ae P Q) (la : Low P Q) (Rb : Rt w cb cp cn cc cq cm ce R S) (lb : Low R S) :
    Calls Tryz.prog 70 #[.int .i64 8968, .agg #[.bool ab, .slice ap an ac, .slice aq am ae], .agg #[.bool cb, .slice cp cn cc, .slice cq cm ce]] w (NumRes (maxR (cmpI (P * S) (R * Q)) P Q R S) w) := by
  obtain ⟨c, hc⟩ : ∃ c, c = cmpI (P * S) (R * Q) := ⟨_, rfl⟩
  replace hc := Lib.hid hc
  replace Ra := Lib.hid Ra; replace la := Lib.hid la; replace Rb := Lib.hid Rb; replace lb := Lib.hid lb
  go_enter Tryz.func70, Tryz.ntmps70
  go_upto_region 1 with fail
  refine gen_wp (fun w' => Below w.heap.size w w' ∧ Box3 w' w.heap.size (.bool ab) (.slice ap an ac) (.slice aq am ae) ∧ Box3 w' (w.heap.size + 1) (.bool cb) (.slice cp cn cc) (.slice cq cm ce) ∧ Box3 w' (w.heap.size + 2) (.bool false) (.slice none 0 0) (.slice none 0 0))
    ⟨((((Below.refl _ _).alloc (Nat.le_refl _) _).alloc (by first | (simp; done) | (simp; omega)) _).alloc (by first | (simp; done) | (simp; omega)) _), (((Box3.new _ _ _ _ rfl).alloc _).alloc _), ((Box3.new _ _ _ _ (by first | (simp; done) | (simp; omega))).alloc _), (Box3.new _ _ _ _ (by first | (simp; done) | (simp; omega)))⟩ ?_
  rintro w0 ⟨bb, Xa, Xb, X2⟩
  replace Ra := Ra.out.below bb; replace Rb := Rb.out.below bb
  replace bb := Lib.hid bb; replace Xa := Lib.hid Xa; replace Xb := Lib.hid Xb; replace X2 := Lib.hid X2; replace Ra := Lib.hid Ra; replace Rb := Lib.hid Rb
  have p00 := Xa.out.c0; have p01 := Xa.out.c1; have p02 := Xa.out.c2; have p10 := Xb.out.c0; have p11 := Xb.out.c1; have p12 := Xb.out.c2
  go_wp2_with fail
  clear p00 p01 p02 p10 p11 p12
  refine ((cmp4_any ab ap aq an ac am ae P Q cb cp cq cn cc cm ce R S _ Ra.out la.out Rb.out lb.out).mono fun _ _ h => (show Says (.int .i64 c) _ _ _ by rw [hc.out]; exact h)).mono ?_
  rintro e v1 ⟨rfl, hb⟩
  replace bb := Lib.hid (below_then bb.out (Nat.le_refl _) hb); replace Xa := Lib.hid (Xa.out.later hb); replace Xb := Lib.hid (Xb.out.later hb); replace X2 := Lib.hid (X2.out.later hb); replace Ra := Lib.hid (Ra.out.below hb); replace Rb := Lib.hid (Rb.out.below hb)
  clear hb
  by_cases hlt : 0 < c
  · have hlt' := Lib.hid (show 0 < c from hlt)
    have hd : decide (0 < c) = true := decide_eq_true hlt
    clear hlt
    have p00 := Xa.out.c0; have p01 := Xa.out.c1; have p02 := Xa.out.c2; have p10 := Xb.out.c0; have p11 := Xb.out.c1; have p12 := Xb.out.c2
    go_wp2_with fail
    clear p00 p01 p02 p10 p11 p12
    refine (chosen_true ab ap aq an ac am ae P Q cb cp cq cn cc cm ce R S _ Ra.out la.out Rb.out lb.out).mono ?_
    rintro e v2 ⟨db, dp, dn, dc, dq, dm, de, rfl, D, hb⟩
    replace bb := Lib.hid (below_then bb.out (Nat.le_refl _) hb); replace Xa := Lib.hid (Xa.out.later hb); replace Xb := Lib.hid (Xb.out.later hb); replace X2 := Lib.hid (X2.out.later hb); replace Ra := Lib.hid (Ra.out.below hb); replace Rb := Lib.hid (Rb.out.below hb)
    replace D := Lib.hid D
    clear hb
    replace X2 := X2.out
    replace bb := bb.out
    have q0 := X2.c0; have q1 := X2.c1; have q2 := X2.c2; have q3 := X2.fr 0; have q4 := X2.fr 1; have q5 := X2.fr 2
    have zz := X2.set (.bool db) (.slice dp dn dc) (.slice dq dm de)
    have e0 := zz.c0; have e1 := zz.c1; have e2 := zz.c2
    have Y2 := Lib.hid X2; have bb' := Lib.hid bb
    clear zz X2 bb
    go_wp2_with fail
    refine bodyPost_ret (v := .tuple #[.agg #[.bool db, .slice dp dn dc, .slice dq dm de], .int .i64 (0)]) (by simp [results, Tryz.results70, go_sem, e0, e1, e2]) rfl ?_
    exact NumRes.of (ResPost.stored D.out Y2.out bb'.out (by omega)) (by rw [← hc.out]; exact if_pos hlt'.out)
  · have hlt' := Lib.hid (show ¬ (0 < c) from hlt)
    have hd : decide (0 < c) = false := decide_eq_false hlt
    clear hlt
    have p00 := Xa.out.c0; have p01 := Xa.out.c1; have p02 := Xa.out.c2; have p10 := Xb.out.c0; have p11 := Xb.out.c1; have p12 := Xb.out.c2
    go_wp2_with fail
    clear p00 p01 p02 p10 p11 p12
    refine (chosen_false ab ap aq an ac am ae P Q cb cp cq cn cc cm ce R S _ Ra.out la.out Rb.out lb.out).mono ?_
    rintro e v2 ⟨db, dp, dn, dc, dq, dm, de, rfl, D, hb⟩
    replace bb := Lib.hid (below_then bb.out (Nat.le_refl _) hb); replace Xa := Lib.hid (Xa.out.later hb); replace Xb := Lib.hid (Xb.out.later hb); replace X2 := Lib.hid (X2.out.later hb); replace Ra := Lib.hid (Ra.out.below hb); replace Rb := Lib.hid (Rb.out.below hb)
    replace D := Lib.hid D
    clear hb
    replace X2 := X2.out
    replace bb := bb.out
    have q0 := X2.c0; have q1 := X2.c1; have q2 := X2.c2; have q3 := X2.fr 0; have q4 := X2.fr 1; have q5 := X2.fr 2
    have zz := X2.set (.bool db) (.slice dp dn dc) (.slice dq dm de)
    have e0 := zz.c0; have e1 := zz.c1; have e2 := zz.c2
    have Y2 := Lib.hid X2; have bb' := Lib.hid bb
    clear zz X2 bb
    go_wp2_with fail
    refine bodyPost_ret (v := .tuple #[.agg #[.bool db, .slice dp dn dc, .slice dq dm de], .int .i64 (0)]) (by simp [results, Tryz.results70, go_sem, e0, e1, e2]) rfl ?_
    exact NumRes.of (ResPost.stored D.out Y2.out bb'.out (by omega)) (by rw [← hc.out]; exact if_neg (by have := hlt'.out; omega))

set_option maxRecDepth 20000 in
set_option maxHeartbeats 4000000 in
theorem cmpP_min (ab : Bool) (ap aq : Option Addr) (an ac am ae : Nat) (P : Int) (Q : Nat) (cb : Bool) (cp cq : Option Addr) (cn cc cm ce : Nat) (R : Int) (S : Nat) (w : World) (Ra : Rt w ab ap an ac aq am ae P Q) (la : Low P Q) (Rb : Rt w cb cp cn cc cq cm ce R S) (lb : Low R S) :
    Calls Tryz.prog 70 #[.int .i64 8970, .agg #[.bool ab, .slice ap an ac, .slice aq am ae], .agg #[.bool cb, .slice cp cn cc, .slice cq cm ce]] w (NumRes (minR (cmpI (P * S) (R * Q)) P Q R S) w) := by
  obtain ⟨c, hc⟩ : ∃ c, c = cmpI (P * S) (R * Q) := ⟨_, rfl⟩
  replace hc := Lib.hid hc
  replace Ra := Lib.hid Ra; replace la := Lib.hid la; replace Rb := Lib.hid Rb; replace lb := Lib.hid lb
  go_enter Tryz.func70, Tryz.ntmps70
  go_upto_region 1 with fail
  refine gen_wp (fun w' => Below w.heap.size w w' ∧ Box3 w' w.heap.size (.bool ab) (.slice ap an ac) (.slice aq am ae) ∧ Box3 w' (w.heap.size + 1) (.bool cb) (.slice cp cn cc) (.slice cq cm ce) ∧ Box3 w' (w.heap.size + 2) (.bool false) (.slice none 0 0) (.slice none 0 0))
    ⟨((((Below.refl _ _).alloc (Nat.le_refl _) _).alloc (by first | (simp; done) | (simp; omega)) _).alloc (by first | (simp; done) | (simp; omega)) _), (((Box3.new _ _ _ _ rfl).alloc _).alloc _), ((Box3.new _ _ _ _ (by first | (simp; done) | (simp; omega))).alloc _), (Box3.new _ _ _ _ (by first | (simp; done) | (simp; omega)))⟩ ?_
  rintro w0 ⟨bb, Xa, Xb, X2⟩
  replace Ra := Ra.out.below bb; replace Rb := Rb.out.below bb
  replace bb := Lib.hid bb; replace Xa := Lib.hid Xa; replace Xb := Lib.hid Xb; replace X2 := Lib.hid X2; replace Ra := Lib.hid Ra; replace Rb := Lib.hid Rb
  have p00 := Xa.out.c0; have p01 := Xa.out.c1; have p02 := Xa.out.c2; have p10 := Xb.out.c0; have p11 := Xb.out.c1; have p12 := Xb.out.c2
  go_wp2_with fail
  clear p00 p01 p02 p10 p11 p12
  refine ((cmp4_any ab ap aq an ac am ae P Q cb cp cq cn cc cm ce R S _ Ra.out la.out Rb.out lb.out).mono fun _ _ h => (show Says (.int .i64 c) _ _ _ by rw [hc.out]; exact h)).mono ?_
  rintro e v1 ⟨rfl, hb⟩
  replace bb := Lib.hid (below_then bb.out (Nat.le_refl _) hb); replace Xa := Lib.hid (Xa.out.later hb); replace Xb := Lib.hid (Xb.out.later hb); replace X2 := Lib.hid (X2.out.later hb); replace Ra := Lib.hid (Ra.out.below hb); replace Rb := Lib.hid (Rb.out.below hb)
  clear hb
  by_cases hlt : c < 0
  · have hlt' := Lib.hid (show c < 0 from hlt)
    have hd : decide (c < 0) = true := decide_eq_true hlt
    clear hlt
    have p00 := Xa.out.c0; have p01 := Xa.out.c1; have p02 := Xa.out.c2; have p10 := Xb.out.c0; have p11 := Xb.out.c1; have p12 := Xb.out.c2
    go_wp2_with fail
    clear p00 p01 p02 p10 p11 p12
    refine (chosen_true ab ap aq an ac am ae P Q cb cp cq cn cc cm ce R S _ Ra.out la.out Rb.out lb.out).mono ?_
    rintro e v2 ⟨db, dp, dn, dc, dq, dm, de, rfl, D, hb⟩
    replace bb := Lib.hid (below_then bb.out (Nat.le_refl _) hb); replace Xa := Lib.hid (Xa.out.later hb); replace Xb := Lib.hid (Xb.out.later hb); replace X2 := Lib.hid (X2.out.later hb); replace Ra := Lib.hid (Ra.out.below hb); replace Rb := Lib.hid (Rb.out.below hb)
    replace D := Lib.hid D
    clear hb
    replace X2 := X2.out
    replace bb := bb.out
    have q0 := X2.c0; have q1 := X2.c1; have q2 := X2.c2; have q3 := X2.fr 0; have q4 := X2.fr 1; have q5 := X2.fr 2
    have zz := X2.set (.bool db) (.slice dp dn dc) (.slice dq dm de)
    have e0 := zz.c0; have e1 := zz.c1; have e2 := zz.c2
    have Y2 := Lib.hid X2; have bb' := Lib.hid bb
    clear zz X2 bb
    go_wp2_with fail
    refine bodyPost_ret (v := .tuple #[.agg #[.bool db, .slice dp dn dc, .slice dq dm de], .int .i64 (0)]) (by simp [results, Tryz.results70, go_sem, e0, e1, e2]) rfl ?_
    exact NumRes.of (ResPost.stored D.out Y2.out bb'.out (by omega)) (by rw [← hc.out]; exact if_pos hlt'.out)
  · have hlt' := Lib.hid (show ¬ (c < 0) from hlt)
    have hd : decide (c < 0) = false := decide_eq_false hlt
    clear hlt
    have p00 := Xa.out.c0; have p01 := Xa.out.c1; have p02 := Xa.out.c2; have p10 := Xb.out.c0; have p11 := Xb.out.c1; have p12 := Xb.out.c2
    go_wp2_with fail
    clear p00 p01 p02 p10 p11 p12
    refine (chosen_false ab ap aq an ac am ae P Q cb cp cq cn cc cm ce R S _ Ra.out la.out Rb.out lb.out).mono ?_
    rintro e v2 ⟨db, dp, dn, dc, dq, dm, de, rfl, D, hb⟩
    replace bb := Lib.hid (below_then bb.out (Nat.le_refl _) hb); replace Xa := Lib.hid (Xa.out.later hb); replace Xb := Lib.hid (Xb.out.later hb); replace X2 := Lib.hid (X2.out.later hb); replace Ra := Lib.hid (Ra.out.below hb); replace Rb := Lib.hid (Rb.out.below hb)
    replace D := Lib.hid D
    clear hb
    replace X2 := X2.out
    replace bb := bb.out
    have q0 := X2.c0; have q1 := X2.c1; have q2 := X2.c2; have q3 := X2.fr 0; have q4 := X2.fr 1; have q5 := X2.fr 2
    have zz := X2.set (.bool db) (.slice dp dn dc) (.slice dq dm de)
    have e0 := zz.c0; have e1 := zz.c1; have e2 := zz.c2
    have Y2 := Lib.hid X2; have bb' := Lib.hid bb
    clear zz X2 bb
    go_wp2_with fail
    refine bodyPost_ret (v := .tuple #[.agg #[.bool db, .slice dp dn dc, .slice dq dm de], .int .i64 (0)]) (by simp [results, Tryz.results70, go_sem, e0, e1, e2]) rfl ?_
    exact NumRes.of (ResPost.stored D.out Y2.out bb'.out (by omega)) (by rw [← hc.out]; exact if_neg (by have := hlt'.out; omega))

set_option maxRecDepth 20000 in
set_option maxHeartbeats 4000000 in
theorem cmpP_lt (ab : Bool) (ap aq : Option Addr) (an ac am ae : Nat) (P : Int) (Q : Nat) (cb : Bool) (cp cq : Option Addr) (cn cc cm ce : Nat) (R : Int) (S : Nat) (w : World) (Ra : Rt w ab ap an ac aq am ae P Q) (la : Low P Q) (Rb : Rt w cb cp cn cc cq cm ce R S) (lb : Low R S) :
    Calls Tryz.prog 70 #[.int .i64 60, .agg #[.bool ab, .slice ap an ac, .slice aq am ae], .agg #[.bool cb, .slice cp cn cc, .slice cq cm ce]] w (ResPost (truthZ (decide ((cmpI (P * S) (R * Q)) < 0))) 1 0 w) := by
  obtain ⟨c, hc⟩ : ∃ c, c = cmpI (P * S) (R * Q) := ⟨_, rfl⟩
  replace hc := Lib.hid hc
  replace Ra := Lib.hid Ra; replace la := Lib.hid la; replace Rb := Lib.hid Rb; replace lb := Lib.hid lb
  go_enter Tryz.func70, Tryz.ntmps70
  go_upto_region 1 with fail
  refine gen_wp (fun w' => Below w.heap.size w w' ∧ Box3 w' w.heap.size (.bool ab) (.slice ap an ac) (.slice aq am ae) ∧ Box3 w' (w.heap.size + 1) (.bool cb) (.slice cp cn cc) (.slice cq cm ce) ∧ Box3 w' (w.heap.size + 2) (.bool false) (.slice none 0 0) (.slice none 0 0))
    ⟨((((Below.refl _ _).alloc (Nat.le_refl _) _).alloc (by first | (simp; done) | (simp; omega)) _).alloc (by first | (simp; done) | (simp; omega)) _), (((Box3.new _ _ _ _ rfl).alloc _).alloc _), ((Box3.new _ _ _ _ (by first | (simp; done) | (simp; omega))).alloc _), (Box3.new _ _ _ _ (by first | (simp; done) | (simp; omega)))⟩ ?_
  rintro w0 ⟨bb, Xa, Xb, X2⟩
  replace Ra := Ra.out.below bb; replace Rb := Rb.out.below bb
  replace bb := Lib.hid bb; replace Xa := Lib.hid Xa; replace Xb := Lib.hid Xb; replace X2 := Lib.hid X2; replace Ra := Lib.hid Ra; replace Rb := Lib.hid Rb
  have p00 := Xa.out.c0; have p01 := Xa.out.c1; have p02 := Xa.out.c2; have p10 := Xb.out.c0; have p11 := Xb.out.c1; have p12 := Xb.out.c2
  go_wp2_with fail
  clear p00 p01 p02 p10 p11 p12
  refine ((cmp4_any ab ap aq an ac am ae P Q cb cp cq cn cc cm ce R S _ Ra.out la.out Rb.out lb.out).mono fun _ _ h => (show Says (.int .i64 c) _ _ _ by rw [hc.out]; exact h)).mono ?_
  rintro e v1 ⟨rfl, hb⟩
  replace bb := Lib.hid (below_then bb.out (Nat.le_refl _) hb); replace Xa := Lib.hid (Xa.out.later hb); replace Xb := Lib.hid (Xb.out.later hb); replace X2 := Lib.hid (X2.out.later hb); replace Ra := Lib.hid (Ra.out.below hb); replace Rb := Lib.hid (Rb.out.below hb)
  clear hb
  go_wp2_with fail
  refine (truth_any _ _).mono ?_
  rintro e v2 ⟨db, dp, dn, dc, dq, dm, de, rfl, D, hb⟩
  replace bb := Lib.hid (below_then bb.out (Nat.le_refl _) hb); replace Xa := Lib.hid (Xa.out.later hb); replace Xb := Lib.hid (Xb.out.later hb); replace X2 := Lib.hid (X2.out.later hb); replace Ra := Lib.hid (Ra.out.below hb); replace Rb := Lib.hid (Rb.out.below hb)
  replace D := Lib.hid D
  clear hb
  replace X2 := X2.out
  replace bb := bb.out
  have q0 := X2.c0; have q1 := X2.c1; have q2 := X2.c2; have q3 := X2.fr 0; have q4 := X2.fr 1; have q5 := X2.fr 2
  have zz := X2.set (.bool db) (.slice dp dn dc) (.slice dq dm de)
  have e0 := zz.c0; have e1 := zz.c1; have e2 := zz.c2
  have Y2 := Lib.hid X2; have bb' := Lib.hid bb
  clear zz X2 bb
  go_wp2_with fail
  refine bodyPost_ret (v := .tuple #[.agg #[.bool db, .slice dp dn dc, .slice dq dm de], .int .i64 (0)]) (by simp [results, Tryz.results70, go_sem, e0, e1, e2]) rfl ?_
  exact (by rw [← hc.out]; exact (ResPost.stored D.out Y2.out bb'.out (by omega)))

set_option maxRecDepth 20000 in
set_option maxHeartbeats 4000000 in
theorem cmpP_le (ab : Bool) (ap aq : Option Addr) (an ac am ae : Nat) (P : Int) (Q : Nat) (cb : Bool) (cp cq : Option Addr) (cn cc cm ce : Nat) (R : Int) (S : Nat) (w : World) (Ra : Rt w ab ap an ac aq am ae P Q) (la : Low P Q) (Rb : Rt w cb cp cn cc cq cm ce R S) (lb : Low R S) :
    Calls Tryz.prog 70 #[.int .i64 8804, .agg #[.bool ab, .slice ap an ac, .slice aq am ae], .agg #[.bool cb, .slice cp cn cc, .slice cq cm ce]] w (ResPost (truthZ (decide ((cmpI (P * S) (R * Q)) ≤ 0))) 1 0 w) := by
  obtain ⟨c, hc⟩ : ∃ c, c = cmpI (P * S) (R * Q) := ⟨_, rfl⟩
  replace hc := Lib.hid hc
  replace Ra := Lib.hid Ra; replace la := Lib.hid la; replace Rb := Lib.hid Rb; replace lb := Lib.hid lb
  go_enter Tryz.func70, Tryz.ntmps70
  go_upto_region 1 with fail
  refine gen_wp (fun w' => Below w.heap.size w w' ∧ Box3 w' w.heap.size (.bool ab) (.slice ap an ac) (.slice aq am ae) ∧ Box3 w' (w.heap.size + 1) (.bool cb) (.slice cp cn cc) (.slice cq cm ce) ∧ Box3 w' (w.heap.size + 2) (.bool false) (.slice none 0 0) (.slice none 0 0))
    ⟨((((Below.refl _ _).alloc (Nat.le_refl _) _).alloc (by first | (simp; done) | (simp; omega)) _).alloc (by first | (simp; done) | (simp; omega)) _), (((Box3.new _ _ _ _ rfl).alloc _).alloc _), ((Box3.new _ _ _ _ (by first | (simp; done) | (simp; omega))).alloc _), (Box3.new _ _ _ _ (by first | (simp; done) | (simp; omega)))⟩ ?_
  rintro w0 ⟨bb, Xa, Xb, X2⟩
  replace Ra := Ra.out.below bb; replace Rb := Rb.out.below bb
  replace bb := Lib.hid bb; replace Xa := Lib.hid Xa; replace Xb := Lib.hid Xb; replace X2 := Lib.hid X2; replace Ra := Lib.hid Ra; replace Rb := Lib.hid Rb
  have p00 := Xa.out.c0; have p01 := Xa.out.c1; have p02 := Xa.out.c2; have p10 := Xb.out.c0; have p11 := Xb.out.c1; have p12 := Xb.out.c2
  go_wp2_with fail
  clear p00 p01 p02 p10 p11 p12
  refine ((cmp4_any ab ap aq an ac am ae P Q cb cp cq cn cc cm ce R S _ Ra.out la.out Rb.out lb.out).mono fun _ _ h => (show Says (.int .i64 c) _ _ _ by rw [hc.out]; exact h)).mono ?_
  rintro e v1 ⟨rfl, hb⟩
  replace bb := Lib.hid (below_then bb.out (Nat.le_refl _) hb); replace Xa := Lib.hid (Xa.out.later hb); replace Xb := Lib.hid (Xb.out.later hb); replace X2 := Lib.hid (X2.out.later hb); replace Ra := Lib.hid (Ra.out.below hb); replace Rb := Lib.hid (Rb.out.below hb)
  clear hb
  go_wp2_with fail
  refine (truth_any _ _).mono ?_
  rintro e v2 ⟨db, dp, dn, dc, dq, dm, de, rfl, D, hb⟩
  replace bb := Lib.hid (below_then bb.out (Nat.le_refl _) hb); replace Xa := Lib.hid (Xa.out.later hb); replace Xb := Lib.hid (Xb.out.later hb); replace X2 := Lib.hid (X2.out.later hb); replace Ra := Lib.hid (Ra.out.below hb); replace Rb := Lib.hid (Rb.out.below hb)
  replace D := Lib.hid D
  clear hb
  replace X2 := X2.out
  replace bb := bb.out
  have q0 := X2.c0; have q1 := X2.c1; have q2 := X2.c2; have q3 := X2.fr 0; have q4 := X2.fr 1; have q5 := X2.fr 2
  have zz := X2.set (.bool db) (.slice dp dn dc) (.slice dq dm de)
  have e0 := zz.c0; have e1 := zz.c1; have e2 := zz.c2
  have Y2 := Lib.hid X2; have bb' := Lib.hid bb
  clear zz X2 bb
  go_wp2_with fail
  refine bodyPost_ret (v := .tuple #[.agg #[.bool db, .slice dp dn dc, .slice dq dm de], .int .i64 (0)]) (by simp [results, Tryz.results70, go_sem, e0, e1, e2]) rfl ?_
  exact (by rw [← hc.out]; exact (ResPost.stored D.out Y2.out bb'.out (by omega)))

set_option maxRecDepth 20000 in
set_option maxHeartbeats 4000000 in
theorem cmpP_eq (ab : Bool) (ap aq : Option Addr) (an ac am ae : Nat) (P : Int) (Q : Nat) (cb : Bool) (cp cq : Option Addr) (cn cc cm ce : Nat) (R : Int) (S : Nat) (w : World) (Ra : Rt w ab ap an ac aq am ae P Q) (la : Low P Q) (Rb : Rt w cb cp cn cc cq cm ce R S) (lb : Low R S) :
    Calls Tryz.prog 70 #[.int .i64 61, .agg #[.bool ab, .slice ap an ac, .slice aq am ae], .agg #[.bool cb, .slice cp cn cc, .slice cq cm ce]] w (ResPost (truthZ ((cmpI (P * S) (R * Q)) == 0)) 1 0 w) := by
  obtain ⟨c, hc⟩ : ∃ c, c = cmpI (P * S) (R * Q) := ⟨_, rfl⟩
  replace hc := Lib.hid hc
  replace Ra := Lib.hid Ra; replace la := Lib.hid la; replace Rb := Lib.hid Rb; replace lb := Lib.hid lb
  go_enter Tryz.func70, Tryz.ntmps70
  go_upto_region 1 with fail
  refine gen_wp (fun w' => Below w.heap.size w w' ∧ Box3 w' w.heap.size (.bool ab) (.slice ap an ac) (.slice aq am ae) ∧ Box3 w' (w.heap.size + 1) (.bool cb) (.slice cp cn cc) (.slice cq cm ce) ∧ Box3 w' (w.heap.size + 2) (.bool false) (.slice none 0 0) (.slice none 0 0))
    ⟨((((Below.refl _ _).alloc (Nat.le_refl _) _).alloc (by first | (simp; done) | (simp; omega)) _).alloc (by first | (simp; done) | (simp; omega)) _), (((Box3.new _ _ _ _ rfl).alloc _).alloc _), ((Box3.new _ _ _ _ (by first | (simp; done) | (simp; omega))).alloc _), (Box3.new _ _ _ _ (by first | (simp; done) | (simp; omega)))⟩ ?_
  rintro w0 ⟨bb, Xa, Xb, X2⟩
  replace Ra := Ra.out.below bb; replace Rb := Rb.out.below bb
  replace bb := Lib.hid bb; replace Xa := Lib.hid Xa; replace Xb := Lib.hid Xb; replace X2 := Lib.hid X2; replace Ra := Lib.hid Ra; replace Rb := Lib.hid Rb
  have p00 := Xa.out.c0; have p01 := Xa.out.c1; have p02 := Xa.out.c2; have p10 := Xb.out.c0; have p11 := Xb.out.c1; have p12 := Xb.out.c2
  go_wp2_with fail
  clear p00 p01 p02 p10 p11 p12
  refine ((cmp4_any ab ap aq an ac am ae P Q cb cp cq cn cc cm ce R S _ Ra.out la.out Rb.out lb.out).mono fun _ _ h => (show Says (.int .i64 c) _ _ _ by rw [hc.out]; exact h)).mono ?_
  rintro e v1 ⟨rfl, hb⟩
  replace bb := Lib.hid (below_then bb.out (Nat.le_refl _) hb); replace Xa := Lib.hid (Xa.out.later hb); replace Xb := Lib.hid (Xb.out.later hb); replace X2 := Lib.hid (X2.out.later hb); replace Ra := Lib.hid (Ra.out.below hb); replace Rb := Lib.hid (Rb.out.below hb)
  clear hb
  go_wp2_with fail
  refine (truth_any _ _).mono ?_
  rintro e v2 ⟨db, dp, dn, dc, dq, dm, de, rfl, D, hb⟩
  replace bb := Lib.hid (below_then bb.out (Nat.le_refl _) hb); replace Xa := Lib.hid (Xa.out.later hb); replace Xb := Lib.hid (Xb.out.later hb); replace X2 := Lib.hid (X2.out.later hb); replace Ra := Lib.hid (Ra.out.below hb); replace Rb := Lib.hid (Rb.out.below hb)
  replace D := Lib.hid D
  clear hb
  replace X2 := X2.out
  replace bb := bb.out
  have q0 := X2.c0; have q1 := X2.c1; have q2 := X2.c2; have q3 := X2.fr 0; have q4 := X2.fr 1; have q5 := X2.fr 2
  have zz := X2.set (.bool db) (.slice dp dn dc) (.slice dq dm de)
  have e0 := zz.c0; have e1 := zz.c1; have e2 := zz.c2
  have Y2 := Lib.hid X2; have bb' := Lib.hid bb
  clear zz X2 bb
  go_wp2_with fail
  refine bodyPost_ret (v := .tuple #[.agg #[.bool db, .slice dp dn dc, .slice dq dm de], .int .i64 (0)]) (by simp [results, Tryz.results70, go_sem, e0, e1, e2]) rfl ?_
  exact (by rw [← hc.out]; exact (ResPost.stored D.out Y2.out bb'.out (by omega)))

set_option maxRecDepth 20000 in
set_option maxHeartbeats 4000000 in
theorem cmpP_ge (ab : Bool) (ap aq : Option Addr) (an ac am ae : Nat) (P : Int) (Q : Nat) (cb : Bool) (cp cq : Option Addr) (cn cc cm ce : Nat) (R : Int) (S : Nat) (w : World) (Ra : Rt w ab ap an ac aq am ae P Q) (la : Low P Q) (Rb : Rt w cb cp cn cc cq cm ce R S) (lb : Low R S) :
    Calls Tryz.prog 70 #[.int .i64 8805, .agg #[.bool ab, .slice ap an ac, .slice aq am ae], .agg #[.bool cb, .slice cp cn cc, .slice cq cm ce]] w (ResPost (truthZ (decide (0 ≤ (cmpI (P * S) (R * Q))))) 1 0 w) := by
  obtain ⟨c, hc⟩ : ∃ c, c = cmpI (P * S) (R * Q) := ⟨_, rfl⟩
  replace hc := Lib.hid hc
  replace Ra := Lib.hid Ra; replace la := Lib.hid la; replace Rb := Lib.hid Rb; replace lb := Lib.hid lb
  go_enter Tryz.func70, Tryz.ntmps70
  go_upto_region 1 with fail
  refine gen_wp (fun w' => Below w.heap.size w w' ∧ Box3 w' w.heap.size (.bool ab) (.slice ap an ac) (.slice aq am ae) ∧ Box3 w' (w.heap.size + 1) (.bool cb) (.slice cp cn cc) (.slice cq cm ce) ∧ Box3 w' (w.heap.size + 2) (.bool false) (.slice none 0 0) (.slice none 0 0))
    ⟨((((Below.refl _ _).alloc (Nat.le_refl _) _).alloc (by first | (simp; done) | (simp; omega)) _).alloc (by first | (simp; done) | (simp; omega)) _), (((Box3.new _ _ _ _ rfl).alloc _).alloc _), ((Box3.new _ _ _ _ (by first | (simp; done) | (simp; omega))).alloc _), (Box3.new _ _ _ _ (by first | (simp; done) | (simp; omega)))⟩ ?_
  rintro w0 ⟨bb, Xa, Xb, X2⟩
  replace Ra := Ra.out.below bb; replace Rb := Rb.out.below bb
  replace bb := Lib.hid bb; replace Xa := Lib.hid Xa; replace Xb := Lib.hid Xb; replace X2 := Lib.hid X2; replace Ra := Lib.hid Ra; replace Rb := Lib.hid Rb
  have p00 := Xa.out.c0; have p01 := Xa.out.c1; have p02 := Xa.out.c2; have p10 := Xb.out.c0; have p11 := Xb.out.c1; have p12 := Xb.out.c2
  go_wp2_with fail
  clear p00 p01 p02 p10 p11 p12
  refine ((cmp4_any ab ap aq an ac am ae P Q cb cp cq cn cc cm ce R S _ Ra.out la.out Rb.out lb.out).mono fun _ _ h => (show Says (.int .i64 c) _ _ _ by rw [hc.out]; exact h)).mono ?_
  rintro e v1 ⟨rfl, hb⟩
  replace bb := Lib.hid (below_then bb.out (Nat.le_refl _) hb); replace Xa := Lib.hid (Xa.out.later hb); replace Xb := Lib.hid (Xb.out.later hb); replace X2 := Lib.hid (X2.out.later hb); replace Ra := Lib.hid (Ra.out.below hb); replace Rb := Lib.hid (Rb.out.below hb)
  clear hb
  go_wp2_with fail
  refine (truth_any _ _).mono ?_
  rintro e v2 ⟨db, dp, dn, dc, dq, dm, de, rfl, D, hb⟩
  replace bb := Lib.hid (below_then bb.out (Nat.le_refl _) hb); replace Xa := Lib.hid (Xa.out.later hb); replace Xb := Lib.hid (Xb.out.later hb); replace X2 := Lib.hid (X2.out.later hb); replace Ra := Lib.hid (Ra.out.below hb); replace Rb := Lib.hid (Rb.out.below hb)
  replace D := Lib.hid D
  clear hb
  replace X2 := X2.out
  replace bb := bb.out
  have q0 := X2.c0; have q1 := X2.c1; have q2 := X2.c2; have q3 := X2.fr 0; have q4 := X2.fr 1; have q5 := X2.fr 2
  have zz := X2.set (.bool db) (.slice dp dn dc) (.slice dq dm de)
  have e0 := zz.c0; have e1 := zz.c1; have e2 := zz.c2
  have Y2 := Lib.hid X2; have bb' := Lib.hid bb
  clear zz X2 bb
  go_wp2_with fail
  refine bodyPost_ret (v := .tuple #[.agg #[.bool db, .slice dp dn dc, .slice dq dm de], .int .i64 (0)]) (by simp [results, Tryz.results70, go_sem, e0, e1, e2]) rfl ?_
  exact (by rw [← hc.out]; exact (ResPost.stored D.out Y2.out bb'.out (by omega)))

set_option maxRecDepth 20000 in
set_option maxHeartbeats 4000000 in
theorem cmpP_gt (ab : Bool) (ap aq : Option Addr) (an ac am ae : Nat) (P : Int) (Q : Nat) (cb : Bool) (cp cq : Option Addr) (cn cc cm ce : Nat) (R : Int) (S : Nat) (w : World) (Ra : Rt w ab ap an ac aq am ae P Q) (la : Low P Q) (Rb : Rt w cb cp cn cc cq cm ce R S) (lb : Low R S) :
    Calls Tryz.prog 70 #[.int .i64 62, .agg #[.bool ab, .slice ap an ac, .slice aq am ae], .agg #[.bool cb, .slice cp cn cc, .slice cq cm ce]] w (ResPost (truthZ (decide (0 < (cmpI (P * S) (R * Q))))) 1 0 w) := by
  obtain ⟨c, hc⟩ : ∃ c, c = cmpI (P * S) (R * Q) := ⟨_, rfl⟩
  replace hc := Lib.hid hc
  replace Ra := Lib.hid Ra; replace la := Lib.hid la; replace Rb := Lib.hid Rb; replace lb := Lib.hid lb
  go_enter Tryz.func70, Tryz.ntmps70
  go_upto_region 1 with fail
  refine gen_wp (fun w' => Below w.heap.size w w' ∧ Box3 w' w.heap.size (.bool ab) (.slice ap an ac) (.slice aq am ae) ∧ Box3 w' (w.heap.size + 1) (.bool cb) (.slice cp cn cc) (.slice cq cm ce) ∧ Box3 w' (w.heap.size + 2) (.bool false) (.slice none 0 0) (.slice none 0 0))
    ⟨((((Below.refl _ _).alloc (Nat.le_refl _) _).alloc (by first | (simp; done) | (simp; omega)) _).alloc (by first | (simp; done) | (simp; omega)) _), (((Box3.new _ _ _ _ rfl).alloc _).alloc _), ((Box3.new _ _ _ _ (by first | (simp; done) | (simp; omega))).alloc _), (Box3.new _ _ _ _ (by first | (simp; done) | (simp; omega)))⟩ ?_
  rintro w0 ⟨bb, Xa, Xb, X2⟩
  replace Ra := Ra.out.below bb; replace Rb := Rb.out.below bb
  replace bb := Lib.hid bb; replace Xa := Lib.hid Xa; replace Xb := Lib.hid Xb; replace X2 := Lib.hid X2; replace Ra := Lib.hid Ra; replace Rb := Lib.hid Rb
  have p00 := Xa.out.c0; have p01 := Xa.out.c1; have p02 := Xa.out.c2; have p10 := Xb.out.c0; have p11 := Xb.out.c1; have p12 := Xb.out.c2
  go_wp2_with fail
  clear p00 p01 p02 p10 p11 p12
  refine ((cmp4_any ab ap aq an ac am ae P Q cb cp cq cn cc cm ce R S _ Ra.out la.out Rb.out lb.out).mono fun _ _ h => (show Says (.int .i64 c) _ _ _ by rw [hc.out]; exact h)).mono ?_
  rintro e v1 ⟨rfl, hb⟩
  replace bb := Lib.hid (below_then bb.out (Nat.le_refl _) hb); replace Xa := Lib.hid (Xa.out.later hb); replace Xb := Lib.hid (Xb.out.later hb); replace X2 := Lib.hid (X2.out.later hb); replace Ra := Lib.hid (Ra.out.below hb); replace Rb := Lib.hid (Rb.out.below hb)
  clear hb
  go_wp2_with fail
  refine (truth_any _ _).mono ?_
  rintro e v2 ⟨db, dp, dn, dc, dq, dm, de, rfl, D, hb⟩
  replace bb := Lib.hid (below_then bb.out (Nat.le_refl _) hb); replace Xa := Lib.hid (Xa.out.later hb); replace Xb := Lib.hid (Xb.out.later hb); replace X2 := Lib.hid (X2.out.later hb); replace Ra := Lib.hid (Ra.out.below hb); replace Rb := Lib.hid (Rb.out.below hb)
  replace D := Lib.hid D
  clear hb
  replace X2 := X2.out
  replace bb := bb.out
  have q0 := X2.c0; have q1 := X2.c1; have q2 := X2.c2; have q3 := X2.fr 0; have q4 := X2.fr 1; have q5 := X2.fr 2
  have zz := X2.set (.bool db) (.slice dp dn dc) (.slice dq dm de)
  have e0 := zz.c0; have e1 := zz.c1; have e2 := zz.c2
  have Y2 := Lib.hid X2; have bb' := Lib.hid bb
  clear zz X2 bb
  go_wp2_with fail
  refine bodyPost_ret (v := .tuple #[.agg #[.bool db, .slice dp dn dc, .slice dq dm de], .int .i64 (0)]) (by simp [results, Tryz.results70, go_sem, e0, e1, e2]) rfl ?_
  exact (by rw [← hc.out]; exact (ResPost.stored D.out Y2.out bb'.out (by omega)))

set_option maxRecDepth 20000 in
set_option maxHeartbeats 4000000 in
theorem cmpP_ne (ab : Bool) (ap aq : Option Addr) (an ac am ae : Nat) (P : Int) (Q : Nat) (cb : Bool) (cp cq : Option Addr) (cn cc cm ce : Nat) (R : Int) (S : Nat) (w : World) (Ra : Rt w ab ap an ac aq am ae P Q) (la : Low P Q) (Rb : Rt w cb cp cn cc cq cm ce R S) (lb : Low R S) :
    Calls Tryz.prog 70 #[.int .i64 8800, .agg #[.bool ab, .slice ap an ac, .slice aq am ae], .agg #[.bool cb, .slice cp cn cc, .slice cq cm ce]] w (ResPost (truthZ ((cmpI (P * S) (R * Q)) != 0)) 1 0 w) := by
  obtain ⟨c, hc⟩ : ∃ c, c = cmpI (P * S) (R * Q) := ⟨_, rfl⟩
  replace hc := Lib.hid hc
  replace Ra := Lib.hid Ra; replace la := Lib.hid la; replace Rb := Lib.hid Rb; replace lb := Lib.hid lb
  go_enter Tryz.func70, Tryz.ntmps70
  go_upto_region 1 with fail
  refine gen_wp (fun w' => Below w.heap.size w w' ∧ Box3 w' w.heap.size (.bool ab) (.slice ap an ac) (.slice aq am ae) ∧ Box3 w' (w.heap.size + 1) (.bool cb) (.slice cp cn cc) (.slice cq cm ce) ∧ Box3 w' (w.heap.size + 2) (.bool false) (.slice none 0 0) (.slice none 0 0))
    ⟨((((Below.refl _ _).alloc (Nat.le_refl _) _).alloc (by first | (simp; done) | (simp; omega)) _).alloc (by first | (simp; done) | (simp; omega)) _), (((Box3.new _ _ _ _ rfl).alloc _).alloc _), ((Box3.new _ _ _ _ (by first | (simp; done) | (simp; omega))).alloc _), (Box3.new _ _ _ _ (by first | (simp; done) | (simp; omega)))⟩ ?_
  rintro w0 ⟨bb, Xa, Xb, X2⟩
  replace Ra := Ra.out.below bb; replace Rb := Rb.out.below bb
  replace bb := Lib.hid bb; replace Xa := Lib.hid Xa; replace Xb := Lib.hid Xb; replace X2 := Lib.hid X2; replace Ra := Lib.hid Ra; replace Rb := Lib.hid Rb
  have p00 := Xa.out.c0; have p01 := Xa.out.c1; have p02 := Xa.out.c2; have p10 := Xb.out.c0; have p11 := Xb.out.c1; have p12 := Xb.out.c2
  go_wp2_with fail
  clear p00 p01 p02 p10 p11 p12
  refine ((cmp4_any ab ap aq an ac am ae P Q cb cp cq cn cc cm ce R S _ Ra.out la.out Rb.out lb.out).mono fun _ _ h => (show Says (.int .i64 c) _ _ _ by rw [hc.out]; exact h)).mono ?_
  rintro e v1 ⟨rfl, hb⟩
  replace bb := Lib.hid (below_then bb.out (Nat.le_refl _) hb); replace Xa := Lib.hid (Xa.out.later hb); replace Xb := Lib.hid (Xb.out.later hb); replace X2 := Lib.hid (X2.out.later hb); replace Ra := Lib.hid (Ra.out.below hb); replace Rb := Lib.hid (Rb.out.below hb)
  clear hb
  go_wp2_with fail
  refine (truth_any _ _).mono ?_
  rintro e v2 ⟨db, dp, dn, dc, dq, dm, de, rfl, D, hb⟩
  replace bb := Lib.hid (below_then bb.out (Nat.le_refl _) hb); replace Xa := Lib.hid (Xa.out.later hb); replace Xb := Lib.hid (Xb.out.later hb); replace X2 := Lib.hid (X2.out.later hb); replace Ra := Lib.hid (Ra.out.below hb); replace Rb := Lib.hid (Rb.out.below hb)
  replace D := Lib.hid D
  clear hb
  replace X2 := X2.out
  replace bb := bb.out
  have q0 := X2.c0; have q1 := X2.c1; have q2 := X2.c2; have q3 := X2.fr 0; have q4 := X2.fr 1; have q5 := X2.fr 2
  have zz := X2.set (.bool db) (.slice dp dn dc) (.slice dq dm de)
  have e0 := zz.c0; have e1 := zz.c1; have e2 := zz.c2
  have Y2 := Lib.hid X2; have bb' := Lib.hid bb
  clear zz X2 bb
  go_wp2_with fail
  refine bodyPost_ret (v := .tuple #[.agg #[.bool db, .slice dp dn dc, .slice dq dm de], .int .i64 (0)]) (by simp [results, Tryz.results70, go_sem, e0, e1, e2]) rfl ?_
  exact (by rw [← hc.out]; exact (ResPost.stored D.out Y2.out bb'.out (by omega)))

set_option maxRecDepth 20000 in
set_option maxHeartbeats 4000000 in
theorem cmpP_none (f : Int) (ab : Bool) (ap aq : Option Addr) (an ac am ae : Nat) (P : Int) (Q : Nat) (cb : Bool) (cp cq : Option Addr) (cn cc cm ce : Nat) (R : Int) (S : Nat) (w : World) (Ra : Rt w ab ap an ac aq am ae P Q) (la : Low P Q) (Rb : Rt w cb cp cn cc cq cm ce R S) (lb : Low R S) (h8968 : f ≠ 8968) (h8970 : f ≠ 8970) (h60 : f ≠ 60) (h8804 : f ≠ 8804) (h61 : f ≠ 61) (h8805 : f ≠ 8805) (h62 : f ≠ 62) (h8800 : f ≠ 8800) :
    Calls Tryz.prog 70 #[.int .i64 f, .agg #[.bool ab, .slice ap an ac, .slice aq am ae], .agg #[.bool cb, .slice cp cn cc, .slice cq cm ce]] w (ResPost 0 0 8 w) := by
  have g8968 : (f == 8968) = false := by rw [beq_eq_false_iff_ne]; exact h8968
  have g8970 : (f == 8970) = false := by rw [beq_eq_false_iff_ne]; exact h8970
  have g60 : (f == 60) = false := by rw [beq_eq_false_iff_ne]; exact h60
  have g8804 : (f == 8804) = false := by rw [beq_eq_false_iff_ne]; exact h8804
  have g61 : (f == 61) = false := by rw [beq_eq_false_iff_ne]; exact h61
  have g8805 : (f == 8805) = false := by rw [beq_eq_false_iff_ne]; exact h8805
  have g62 : (f == 62) = false := by rw [beq_eq_false_iff_ne]; exact h62
  have g8800 : (f == 8800) = false := by rw [beq_eq_false_iff_ne]; exact h8800
  clear h8968 h8970 h60 h8804 h61 h8805 h62 h8800
  obtain ⟨c, hc⟩ : ∃ c, c = cmpI (P * S) (R * Q) := ⟨_, rfl⟩
  replace hc := Lib.hid hc
  replace Ra := Lib.hid Ra; replace la := Lib.hid la; replace Rb := Lib.hid Rb; replace lb := Lib.hid lb
  go_enter Tryz.func70, Tryz.ntmps70
  go_upto_region 1 with fail
  refine gen_wp (fun w' => Below w.heap.size w w' ∧ Box3 w' w.heap.size (.bool ab) (.slice ap an ac) (.slice aq am ae) ∧ Box3 w' (w.heap.size + 1) (.bool cb) (.slice cp cn cc) (.slice cq cm ce) ∧ Box3 w' (w.heap.size + 2) (.bool false) (.slice none 0 0) (.slice none 0 0))
    ⟨((((Below.refl _ _).alloc (Nat.le_refl _) _).alloc (by first | (simp; done) | (simp; omega)) _).alloc (by first | (simp; done) | (simp; omega)) _), (((Box3.new _ _ _ _ rfl).alloc _).alloc _), ((Box3.new _ _ _ _ (by first | (simp; done) | (simp; omega))).alloc _), (Box3.new _ _ _ _ (by first | (simp; done) | (simp; omega)))⟩ ?_
  rintro w0 ⟨bb, Xa, Xb, X2⟩
  replace Ra := Ra.out.below bb; replace Rb := Rb.out.below bb
  replace bb := Lib.hid bb; replace Xa := Lib.hid Xa; replace Xb := Lib.hid Xb; replace X2 := Lib.hid X2; replace Ra := Lib.hid Ra; replace Rb := Lib.hid Rb
  have p00 := Xa.out.c0; have p01 := Xa.out.c1; have p02 := Xa.out.c2; have p10 := Xb.out.c0; have p11 := Xb.out.c1; have p12 := Xb.out.c2
  go_wp2_with fail
  clear p00 p01 p02 p10 p11 p12
  refine ((cmp4_any ab ap aq an ac am ae P Q cb cp cq cn cc cm ce R S _ Ra.out la.out Rb.out lb.out).mono fun _ _ h => (show Says (.int .i64 c) _ _ _ by rw [hc.out]; exact h)).mono ?_
  rintro e v1 ⟨rfl, hb⟩
  replace bb := Lib.hid (below_then bb.out (Nat.le_refl _) hb); replace Xa := Lib.hid (Xa.out.later hb); replace Xb := Lib.hid (Xb.out.later hb); replace X2 := Lib.hid (X2.out.later hb); replace Ra := Lib.hid (Ra.out.below hb); replace Rb := Lib.hid (Rb.out.below hb)
  clear hb
  replace X2 := X2.out
  replace bb := bb.out
  have q0 := X2.c0; have q1 := X2.c1; have q2 := X2.c2; have q3 := X2.fr 0; have q4 := X2.fr 1; have q5 := X2.fr 2
  have zz := X2.set (.bool false) (.slice none 0 0) (.slice none 0 0)
  have e0 := zz.c0; have e1 := zz.c1; have e2 := zz.c2
  have Y2 := Lib.hid X2; have bb' := Lib.hid bb
  clear zz X2 bb
  go_wp2_with fail
  refine bodyPost_ret (v := .tuple #[.agg #[.bool false, .slice none 0 0, .slice none 0 0], .int .i64 (8)]) (by simp [results, Tryz.results70, go_sem, e0, e1, e2]) rfl ?_
  exact (ResPost.stored (rt_zero _) Y2.out bb'.out (by omega))

theorem comparedP_any (f : Int) (ab : Bool) (ap aq : Option Addr) (an ac am ae : Nat) (P : Int) (Q : Nat) (cb : Bool) (cp cq : Option Addr) (cn cc cm ce : Nat) (R : Int) (S : Nat) (w : World) (Ra : Rt w ab ap an ac aq am ae P Q) (la : Low P Q) (Rb : Rt w cb cp cn cc cq cm ce R S) (lb : Low R S) :
    Calls Tryz.prog 70 #[.int .i64 f, .agg #[.bool ab, .slice ap an ac, .slice aq am ae], .agg #[.bool cb, .slice cp cn cc, .slice cq cm ce]] w (NumRes (cmpR f P Q R S) w) := by
  by_cases h8968 : f = 8968
  · subst h8968; exact (cmpP_max ab ap aq an ac am ae P Q cb cp cq cn cc cm ce R S w Ra la Rb lb).mono fun _ _ h => (show NumRes (cmpR 8968 P Q R S) w _ _ from by rw [show cmpR 8968 P Q R S = _ from (by unfold cmpR; rw [if_pos rfl])]; exact h)
  by_cases h8970 : f = 8970
  · subst h8970; exact (cmpP_min ab ap aq an ac am ae P Q cb cp cq cn cc cm ce R S w Ra la Rb lb).mono fun _ _ h => (show NumRes (cmpR 8970 P Q R S) w _ _ from by rw [show cmpR 8970 P Q R S = _ from (by unfold cmpR; rw [if_neg (by decide), if_pos rfl])]; exact h)
  by_cases h60 : f = 60
  · subst h60; exact (cmpP_lt ab ap aq an ac am ae P Q cb cp cq cn cc cm ce R S w Ra la Rb lb).mono fun _ _ h => (show NumRes (cmpR 60 P Q R S) w _ _ from by rw [show cmpR 60 P Q R S = _ from (by unfold cmpR; rw [if_neg (by decide), if_neg (by decide), if_pos rfl])]; exact h)
  by_cases h8804 : f = 8804
  · subst h8804; exact (cmpP_le ab ap aq an ac am ae P Q cb cp cq cn cc cm ce R S w Ra la Rb lb).mono fun _ _ h => (show NumRes (cmpR 8804 P Q R S) w _ _ from by rw [show cmpR 8804 P Q R S = _ from (by unfold cmpR; rw [if_neg (by decide), if_neg (by decide), if_neg (by decide), if_pos rfl])]; exact h)
  by_cases h61 : f = 61
  · subst h61; exact (cmpP_eq ab ap aq an ac am ae P Q cb cp cq cn cc cm ce R S w Ra la Rb lb).mono fun _ _ h => (show NumRes (cmpR 61 P Q R S) w _ _ from by rw [show cmpR 61 P Q R S = _ from (by unfold cmpR; rw [if_neg (by decide), if_neg (by decide), if_neg (by decide), if_neg (by decide), if_pos rfl])]; exact h)
  by_cases h8805 : f = 8805
  · subst h8805; exact (cmpP_ge ab ap aq an ac am ae P Q cb cp cq cn cc cm ce R S w Ra la Rb lb).mono fun _ _ h => (show NumRes (cmpR 8805 P Q R S) w _ _ from by rw [show cmpR 8805 P Q R S = _ from (by unfold cmpR; rw [if_neg (by decide), if_neg (by decide), if_neg (by decide), if_neg (by decide), if_neg (by decide), if_pos rfl])]; exact h)
  by_cases h62 : f = 62
  · subst h62; exact (cmpP_gt ab ap aq an ac am ae P Q cb cp cq cn cc cm ce R S w Ra la Rb lb).mono fun _ _ h => (show NumRes (cmpR 62 P Q R S) w _ _ from by rw [show cmpR 62 P Q R S = _ from (by unfold cmpR; rw [if_neg (by decide), if_neg (by decide), if_neg (by decide), if_neg (by decide), if_neg (by decide), if_neg (by decide), if_pos rfl])]; exact h)
  by_cases h8800 : f = 8800
  · subst h8800; exact (cmpP_ne ab ap aq an ac am ae P Q cb cp cq cn cc cm ce R S w Ra la Rb lb).mono fun _ _ h => (show NumRes (cmpR 8800 P Q R S) w _ _ from by rw [show cmpR 8800 P Q R S = _ from (by unfold cmpR; rw [if_neg (by decide), if_neg (by decide), if_neg (by decide), if_neg (by decide), if_neg (by decide), if_neg (by decide), if_neg (by decide), if_pos rfl])]; exact h)
  exact (cmpP_none f ab ap aq an ac am ae P Q cb cp cq cn cc cm ce R S w Ra la Rb lb h8968 h8970 h60 h8804 h61 h8805 h62 h8800).mono fun _ _ h => (show NumRes (cmpR f P Q R S) w _ _ from by rw [show cmpR f P Q R S = (0, 0, 8) from by unfold cmpR; rw [if_neg h8968, if_neg h8970, if_neg h60, if_neg h8804, if_neg h61, if_neg h8805, if_neg h62, if_neg h8800]]; exact h)

set_option maxRecDepth 20000 in
set_option maxHeartbeats 4000000 in
theorem powerP_any (ab : Bool) (ap aq : Option Addr) (an ac am ae : Nat) (P : Int) (Q : Nat) (cb : Bool) (cp cq : Option Addr) (cn cc cm ce : Nat) (R : Int) (S : Nat) (w : World) (Ra : Rt w ab ap an ac aq am ae P Q) (la : Low P Q) (Rb : Rt w cb cp cn cc cq cm ce R S) (lb : Low R S) :
    Calls Tryz.prog 67 #[.agg #[.bool ab, .slice ap an ac, .slice aq am ae], .agg #[.bool cb, .slice cp cn cc, .slice cq cm ce]] w (NumRes (powN P Q R S) w) := by
  replace Ra := Lib.hid Ra; replace la := Lib.hid la; replace Rb := Lib.hid Rb; replace lb := Lib.hid lb
  go_enter Tryz.func67, Tryz.ntmps67
  go_upto_region 1 with fail
  refine gen_wp (fun w' => Below w.heap.size w w' ∧ Box3 w' w.heap.size (.bool ab) (.slice ap an ac) (.slice aq am ae) ∧ Box3 w' (w.heap.size + 1) (.bool cb) (.slice cp cn cc) (.slice cq cm ce) ∧ Box3 w' (w.heap.size + 2) (.bool false) (.slice none 0 0) (.slice none 0 0))
    ⟨((((Below.refl _ _).alloc (Nat.le_refl _) _).alloc (by first | (simp; done) | (simp; omega)) _).alloc (by first | (simp; done) | (simp; omega)) _), (((Box3.new _ _ _ _ rfl).alloc _).alloc _), ((Box3.new _ _ _ _ (by first | (simp; done) | (simp; omega))).alloc _), (Box3.new _ _ _ _ (by first | (simp; done) | (simp; omega)))⟩ ?_
  rintro w0 ⟨bb, Xa, Xb, X2⟩
  replace Ra := Ra.out.below bb; replace Rb := Rb.out.below bb
  replace bb := Lib.hid bb; replace Xa := Lib.hid Xa; replace Xb := Lib.hid Xb; replace X2 := Lib.hid X2; replace Ra := Lib.hid Ra; replace Rb := Lib.hid Rb
  have p00 := Xb.out.c0; have p01 := Xb.out.c1; have p02 := Xb.out.c2
  go_wp2_with fail
  clear p00 p01 p02
  refine ((smallP_any cb cp cq cn cc cm ce R S _ Rb.out lb.out).mono fun _ _ h => (show Says (.tuple #[.int .i64 (smallP R S), .bool (smallQ R S)]) _ _ _ from h)).mono ?_
  rintro e v1 ⟨rfl, hb⟩
  replace bb := Lib.hid (below_then bb.out (Nat.le_refl _) hb); replace Xa := Lib.hid (Xa.out.later hb); replace Xb := Lib.hid (Xb.out.later hb); replace X2 := Lib.hid (X2.out.later hb); replace Ra := Lib.hid (Ra.out.below hb); replace Rb := Lib.hid (Rb.out.below hb)
  clear hb
  have hsb := Lib.hid (small_bounds (P := R) (Q := S))
  obtain ⟨n, hn⟩ : ∃ n, n = smallP R S := ⟨_, rfl⟩
  rw [← hn] at hsb ⊢
  replace hn := Lib.hid hn
  cases hq : smallQ R S
  · have hq' := Lib.hid hq
    clear hq
    replace X2 := X2.out
    replace bb := bb.out
    have q0 := X2.c0; have q1 := X2.c1; have q2 := X2.c2; have q3 := X2.fr 0; have q4 := X2.fr 1; have q5 := X2.fr 2
    have zz := X2.set (.bool false) (.slice none 0 0) (.slice none 0 0)
    have e0 := zz.c0; have e1 := zz.c1; have e2 := zz.c2
    have Y2 := Lib.hid X2; have bb' := Lib.hid bb
    clear zz X2 bb
    go_wp2_with fail
    refine bodyPost_ret (v := .tuple #[.agg #[.bool false, .slice none 0 0, .slice none 0 0], .int .i64 (8)]) (by simp [results, Tryz.results67, go_sem, e0, e1, e2]) rfl ?_
    exact NumRes.of (ResPost.stored (rt_zero _) Y2.out bb'.out (by omega)) (if_neg (by rw [hq'.out]; decide))
  · have hq' := Lib.hid hq
    clear hq
    have p00 := Xa.out.c0; have p01 := Xa.out.c1; have p02 := Xa.out.c2
    go_wp2_with fail
    clear p00 p01 p02
    refine (pow4_any ab ap aq an ac am ae P Q n _ Ra.out la.out hsb.out.1 hsb.out.2).mono ?_
    rintro e v2 ⟨db, dp, dn, dc, dq, dm, de, rfl, D, hb⟩
    replace bb := Lib.hid (below_then bb.out (Nat.le_refl _) hb); replace Xa := Lib.hid (Xa.out.later hb); replace Xb := Lib.hid (Xb.out.later hb); replace X2 := Lib.hid (X2.out.later hb); replace Ra := Lib.hid (Ra.out.below hb); replace Rb := Lib.hid (Rb.out.below hb)
    replace D := Lib.hid D
    clear hb
    replace X2 := X2.out
    replace bb := bb.out
    have q0 := X2.c0; have q1 := X2.c1; have q2 := X2.c2; have q3 := X2.fr 0; have q4 := X2.fr 1; have q5 := X2.fr 2
    have zz := X2.set (.bool db) (.slice dp dn dc) (.slice dq dm de)
    have e0 := zz.c0; have e1 := zz.c1; have e2 := zz.c2
    have Y2 := Lib.hid X2; have bb' := Lib.hid bb
    clear zz X2 bb
    go_wp2_with fail
    refine bodyPost_ret (v := .tuple #[.agg #[.bool db, .slice dp dn dc, .slice dq dm de], .int .i64 ((powRes P Q n).2.2)]) (by simp [results, Tryz.results67, go_sem, e0, e1, e2]) rfl ?_
    exact NumRes.of (ResPost.stored D.out Y2.out bb'.out (by omega)) (by unfold powN; rw [if_pos hq'.out, ← hn.out])

set_option maxRecDepth 20000 in
set_option maxHeartbeats 4000000 in
theorem numP2_plus (ab : Bool) (ap aq : Option Addr) (an ac am ae : Nat) (P : Int) (Q : Nat) (cb : Bool) (cp cq : Option Addr) (cn cc cm ce : Nat) (R : Int) (S : Nat) (w : World) (Ra : Rt w ab ap an ac aq am ae P Q) (la : Low P Q) (Rb : Rt w cb cp cn cc cq cm ce R S) (lb : Low R S) :
    Calls Tryz.prog 19 #[.int .i64 43, .agg #[.bool ab, .slice ap an ac, .slice aq am ae], .agg #[.bool cb, .slice cp cn cc, .slice cq cm ce]] w (MakePost (P * S + R * Q) ((Q : Int) * S) w) := by
  replace Ra := Lib.hid Ra; replace la := Lib.hid la; replace Rb := Lib.hid Rb; replace lb := Lib.hid lb
  go_enter Tryz.func19, Tryz.ntmps19
  go_upto_region 1 with fail
  refine gen_wp (fun w' => Below w.heap.size w w' ∧ Box3 w' w.heap.size (.bool ab) (.slice ap an ac) (.slice aq am ae) ∧ Box3 w' (w.heap.size + 1) (.bool cb) (.slice cp cn cc) (.slice cq cm ce) ∧ Box3 w' (w.heap.size + 2) (.bool false) (.slice none 0 0) (.slice none 0 0))
    ⟨((((Below.refl _ _).alloc (Nat.le_refl _) _).alloc (by first | (simp; done) | (simp; omega)) _).alloc (by first | (simp; done) | (simp; omega)) _), (((Box3.new _ _ _ _ rfl).alloc _).alloc _), ((Box3.new _ _ _ _ (by first | (simp; done) | (simp; omega))).alloc _), (Box3.new _ _ _ _ (by first | (simp; done) | (simp; omega)))⟩ ?_
  rintro w0 ⟨bb, Xa, Xb, X2⟩
  replace Ra := Ra.out.below bb; replace Rb := Rb.out.below bb
  replace bb := Lib.hid bb; replace Xa := Lib.hid Xa; replace Xb := Lib.hid Xb; replace X2 := Lib.hid X2; replace Ra := Lib.hid Ra; replace Rb := Lib.hid Rb
  have p00 := Xa.out.c0; have p01 := Xa.out.c1; have p02 := Xa.out.c2; have p10 := Xb.out.c0; have p11 := Xb.out.c1; have p12 := Xb.out.c2
  go_wp2_with fail
  clear p00 p01 p02 p10 p11 p12
  refine (add4_any ab ap aq an ac am ae P Q cb cp cq cn cc cm ce R S _ Ra.out la.out Rb.out lb.out).mono ?_
  rintro e v1 ⟨db, dp, dn, dc, dq, dm, de, rfl, D, hb⟩
  replace bb := Lib.hid (below_then bb.out (Nat.le_refl _) hb); replace Xa := Lib.hid (Xa.out.later hb); replace Xb := Lib.hid (Xb.out.later hb); replace X2 := Lib.hid (X2.out.later hb); replace Ra := Lib.hid (Ra.out.below hb); replace Rb := Lib.hid (Rb.out.below hb)
  replace D := Lib.hid D
  clear hb
  replace X2 := X2.out
  replace bb := bb.out
  have q0 := X2.c0; have q1 := X2.c1; have q2 := X2.c2; have q3 := X2.fr 0; have q4 := X2.fr 1; have q5 := X2.fr 2
  have zz := X2.set (.bool db) (.slice dp dn dc) (.slice dq dm de)
  have e0 := zz.c0; have e1 := zz.c1; have e2 := zz.c2
  have Y2 := Lib.hid X2; have bb' := Lib.hid bb
  clear zz X2 bb
  go_wp2_with fail
  refine bodyPost_ret (v := .tuple #[.agg #[.bool db, .slice dp dn dc, .slice dq dm de], .int .i64 (mkE (P * S + R * Q) ((Q : Int) * S))]) (by simp [results, Tryz.results19, go_sem, e0, e1, e2]) rfl ?_
  exact (ResPost.stored D.out Y2.out bb'.out (by omega))

set_option maxRecDepth 20000 in
set_option maxHeartbeats 4000000 in
theorem numP2_minus (ab : Bool) (ap aq : Option Addr) (an ac am ae : Nat) (P : Int) (Q : Nat) (cb : Bool) (cp cq : Option Addr) (cn cc cm ce : Nat) (R : Int) (S : Nat) (w : World) (Ra : Rt w ab ap an ac aq am ae P Q) (la : Low P Q) (Rb : Rt w cb cp cn cc cq cm ce R S) (lb : Low R S) :
    Calls Tryz.prog 19 #[.int .i64 45, .agg #[.bool ab, .slice ap an ac, .slice aq am ae], .agg #[.bool cb, .slice cp cn cc, .slice cq cm ce]] w (MakePost (P * S + -R * Q) ((Q : Int) * S) w) := by
  replace Ra := Lib.hid Ra; replace la := Lib.hid la; replace Rb := Lib.hid Rb; replace lb := Lib.hid lb
  go_enter Tryz.func19, Tryz.ntmps19
  go_upto_region 1 with fail
  refine gen_wp (fun w' => Below w.heap.size w w' ∧ Box3 w' w.heap.size (.bool ab) (.slice ap an ac) (.slice aq am ae) ∧ Box3 w' (w.heap.size + 1) (.bool cb) (.slice cp cn cc) (.slice cq cm ce) ∧ Box3 w' (w.heap.size + 2) (.bool false) (.slice none 0 0) (.slice none 0 0))
    ⟨((((Below.refl _ _).alloc (Nat.le_refl _) _).alloc (by first | (simp; done) | (simp; omega)) _).alloc (by first | (simp; done) | (simp; omega)) _), (((Box3.new _ _ _ _ rfl).alloc _).alloc _), ((Box3.new _ _ _ _ (by first | (simp; done) | (simp; omega))).alloc _), (Box3.new _ _ _ _ (by first | (simp; done) | (simp; omega)))⟩ ?_
  rintro w0 ⟨bb, Xa, Xb, X2⟩
  replace Ra := Ra.out.below bb; replace Rb := Rb.out.below bb
  replace bb := Lib.hid bb; replace Xa := Lib.hid Xa; replace Xb := Lib.hid Xb; replace X2 := Lib.hid X2; replace Ra := Lib.hid Ra; replace Rb := Lib.hid Rb
  have p00 := Xa.out.c0; have p01 := Xa.out.c1; have p02 := Xa.out.c2; have p10 := Xb.out.c0; have p11 := Xb.out.c1; have p12 := Xb.out.c2
  go_wp2_with fail
  clear p00 p01 p02 p10 p11 p12
  refine (sub4_any ab ap aq an ac am ae P Q cb cp cq cn cc cm ce R S _ Ra.out la.out Rb.out lb.out).mono ?_
  rintro e v1 ⟨db, dp, dn, dc, dq, dm, de, rfl, D, hb⟩
  replace bb := Lib.hid (below_then bb.out (Nat.le_refl _) hb); replace Xa := Lib.hid (Xa.out.later hb); replace Xb := Lib.hid (Xb.out.later hb); replace X2 := Lib.hid (X2.out.later hb); replace Ra := Lib.hid (Ra.out.below hb); replace Rb := Lib.hid (Rb.out.below hb)
  replace D := Lib.hid D
  clear hb
  replace X2 := X2.out
  replace bb := bb.out
  have q0 := X2.c0; have q1 := X2.c1; have q2 := X2.c2; have q3 := X2.fr 0; have q4 := X2.fr 1; have q5 := X2.fr 2
  have zz := X2.set (.bool db) (.slice dp dn dc) (.slice dq dm de)
  have e0 := zz.c0; have e1 := zz.c1; have e2 := zz.c2
  have Y2 := Lib.hid X2; have bb' := Lib.hid bb
  clear zz X2 bb
  go_wp2_with fail
  refine bodyPost_ret (v := .tuple #[.agg #[.bool db, .slice dp dn dc, .slice dq dm de], .int .i64 (mkE (P * S + -R * Q) ((Q : Int) * S))]) (by simp [results, Tryz.results19, go_sem, e0, e1, e2]) rfl ?_
  exact (ResPost.stored D.out Y2.out bb'.out (by omega))

set_option maxRecDepth 20000 in
set_option maxHeartbeats 4000000 in
theorem numP2_times (ab : Bool) (ap aq : Option Addr) (an ac am ae : Nat) (P : Int) (Q : Nat) (cb : Bool) (cp cq : Option Addr) (cn cc cm ce : Nat) (R : Int) (S : Nat) (w : World) (Ra : Rt w ab ap an ac aq am ae P Q) (la : Low P Q) (Rb : Rt w cb cp cn cc cq cm ce R S) (lb : Low R S) :
    Calls Tryz.prog 19 #[.int .i64 215, .agg #[.bool ab, .slice ap an ac, .slice aq am ae], .agg #[.bool cb, .slice cp cn cc, .slice cq cm ce]] w (MakePost (P * R) ((Q : Int) * S) w) := by
  replace Ra := Lib.hid Ra; replace la := Lib.hid la; replace Rb := Lib.hid Rb; replace lb := Lib.hid lb
  go_enter Tryz.func19, Tryz.ntmps19
  go_upto_region 1 with fail
  refine gen_wp (fun w' => Below w.heap.size w w' ∧ Box3 w' w.heap.size (.bool ab) (.slice ap an ac) (.slice aq am ae) ∧ Box3 w' (w.heap.size + 1) (.bool cb) (.slice cp cn cc) (.slice cq cm ce) ∧ Box3 w' (w.heap.size + 2) (.bool false) (.slice none 0 0) (.slice none 0 0))
    ⟨((((Below.refl _ _).alloc (Nat.le_refl _) _).alloc (by first | (simp; done) | (simp; omega)) _).alloc (by first | (simp; done) | (simp; omega)) _), (((Box3.new _ _ _ _ rfl).alloc _).alloc _), ((Box3.new _ _ _ _ (by first | (simp; done) | (simp; omega))).alloc _), (Box3.new _ _ _ _ (by first | (simp; done) | (simp; omega)))⟩ ?_
  rintro w0 ⟨bb, Xa, Xb, X2⟩
  replace Ra := Ra.out.below bb; replace Rb := Rb.out.below bb
  replace bb := Lib.hid bb; replace Xa := Lib.hid Xa; replace Xb := Lib.hid Xb; replace X2 := Lib.hid X2; replace Ra := Lib.hid Ra; replace Rb := Lib.hid Rb
  have p00 := Xa.out.c0; have p01 := Xa.out.c1; have p02 := Xa.out.c2; have p10 := Xb.out.c0; have p11 := Xb.out.c1; have p12 := Xb.out.c2
  go_wp2_with fail
  clear p00 p01 p02 p10 p11 p12
  refine (mul4_any ab ap aq an ac am ae P Q cb cp cq cn cc cm ce R S _ Ra.out la.out Rb.out lb.out).mono ?_
  rintro e v1 ⟨db, dp, dn, dc, dq, dm, de, rfl, D, hb⟩
  replace bb := Lib.hid (below_then bb.out (Nat.le_refl _) hb); replace Xa := Lib.hid (Xa.out.later hb); replace Xb := Lib.hid (Xb.out.later hb); replace X2 := Lib.hid (X2.out.later hb); replace Ra := Lib.hid (Ra.out.below hb); replace Rb := Lib.hid (Rb.out.below hb)
  replace D := Lib.hid D
  clear hb
  replace X2 := X2.out
  replace bb := bb.out
  have q0 := X2.c0; have q1 := X2.c1; have q2 := X2.c2; have q3 := X2.fr 0; have q4 := X2.fr 1; have q5 := X2.fr 2
  have zz := X2.set (.bool db) (.slice dp dn dc) (.slice dq dm de)
  have e0 := zz.c0; have e1 := zz.c1; have e2 := zz.c2
  have Y2 := Lib.hid X2; have bb' := Lib.hid bb
  clear zz X2 bb
  go_wp2_with fail
  refine bodyPost_ret (v := .tuple #[.agg #[.bool db, .slice dp dn dc, .slice dq dm de], .int .i64 (mkE (P * R) ((Q : Int) * S))]) (by simp [results, Tryz.results19, go_sem, e0, e1, e2]) rfl ?_
  exact (ResPost.stored D.out Y2.out bb'.out (by omega))

set_option maxRecDepth 20000 in
set_option maxHeartbeats 4000000 in
theorem numP2_div (ab : Bool) (ap aq : Option Addr) (an ac am ae : Nat) (P : Int) (Q : Nat) (cb : Bool) (cp cq : Option Addr) (cn cc cm ce : Nat) (R : Int) (S : Nat) (w : World) (Ra : Rt w ab ap an ac aq am ae P Q) (la : Low P Q) (Rb : Rt w cb cp cn cc cq cm ce R S) (lb : Low R S) :
    Calls Tryz.prog 19 #[.int .i64 247, .agg #[.bool ab, .slice ap an ac, .slice aq am ae], .agg #[.bool cb, .slice cp cn cc, .slice cq cm ce]] w (MakePost (P * S) ((Q : Int) * R) w) := by
  replace Ra := Lib.hid Ra; replace la := Lib.hid la; replace Rb := Lib.hid Rb; replace lb := Lib.hid lb
  go_enter Tryz.func19, Tryz.ntmps19
  go_upto_region 1 with fail
  refine gen_wp (fun w' => Below w.heap.size w w' ∧ Box3 w' w.heap.size (.bool ab) (.slice ap an ac) (.slice aq am ae) ∧ Box3 w' (w.heap.size + 1) (.bool cb) (.slice cp cn cc) (.slice cq cm ce) ∧ Box3 w' (w.heap.size + 2) (.bool false) (.slice none 0 0) (.slice none 0 0))
    ⟨((((Below.refl _ _).alloc (Nat.le_refl _) _).alloc (by first | (simp; done) | (simp; omega)) _).alloc (by first | (simp; done) | (simp; omega)) _), (((Box3.new _ _ _ _ rfl).alloc _).alloc _), ((Box3.new _ _ _ _ (by first | (simp; done) | (simp; omega))).alloc _), (Box3.new _ _ _ _ (by first | (simp; done) | (simp; omega)))⟩ ?_
  rintro w0 ⟨bb, Xa, Xb, X2⟩
  replace Ra := Ra.out.below bb; replace Rb := Rb.out.below bb
  replace bb := Lib.hid bb; replace Xa := Lib.hid Xa; replace Xb := Lib.hid Xb; replace X2 := Lib.hid X2; replace Ra := Lib.hid Ra; replace Rb := Lib.hid Rb
  have p00 := Xa.out.c0; have p01 := Xa.out.c1; have p02 := Xa.out.c2; have p10 := Xb.out.c0; have p11 := Xb.out.c1; have p12 := Xb.out.c2
  go_wp2_with fail
  clear p00 p01 p02 p10 p11 p12
  refine (div4_any ab ap aq an ac am ae P Q cb cp cq cn cc cm ce R S _ Ra.out la.out Rb.out lb.out).mono ?_
  rintro e v1 ⟨db, dp, dn, dc, dq, dm, de, rfl, D, hb⟩
  replace bb := Lib.hid (below_then bb.out (Nat.le_refl _) hb); replace Xa := Lib.hid (Xa.out.later hb); replace Xb := Lib.hid (Xb.out.later hb); replace X2 := Lib.hid (X2.out.later hb); replace Ra := Lib.hid (Ra.out.below hb); replace Rb := Lib.hid (Rb.out.below hb)
  replace D := Lib.hid D
  clear hb
  replace X2 := X2.out
  replace bb := bb.out
  have q0 := X2.c0; have q1 := X2.c1; have q2 := X2.c2; have q3 := X2.fr 0; have q4 := X2.fr 1; have q5 := X2.fr 2
  have zz := X2.set (.bool db) (.slice dp dn dc) (.slice dq dm de)
  have e0 := zz.c0; have e1 := zz.c1; have e2 := zz.c2
  have Y2 := Lib.hid X2; have bb' := Lib.hid bb
  clear zz X2 bb
  go_wp2_with fail
  refine bodyPost_ret (v := .tuple #[.agg #[.bool db, .slice dp dn dc, .slice dq dm de], .int .i64 (mkE (P * S) ((Q : Int) * R))]) (by simp [results, Tryz.results19, go_sem, e0, e1, e2]) rfl ?_
  exact (ResPost.stored D.out Y2.out bb'.out (by omega))

set_option maxRecDepth 20000 in
set_option maxHeartbeats 4000000 in
theorem numP2_mod (ab : Bool) (ap aq : Option Addr) (an ac am ae : Nat) (P : Int) (Q : Nat) (cb : Bool) (cp cq : Option Addr) (cn cc cm ce : Nat) (R : Int) (S : Nat) (w : World) (Ra : Rt w ab ap an ac aq am ae P Q) (la : Low P Q) (Rb : Rt w cb cp cn cc cq cm ce R S) (lb : Low R S) :
    Calls Tryz.prog 19 #[.int .i64 124, .agg #[.bool ab, .slice ap an ac, .slice aq am ae], .agg #[.bool cb, .slice cp cn cc, .slice cq cm ce]] w (ModPost P Q R S w) := by
  replace Ra := Lib.hid Ra; replace la := Lib.hid la; replace Rb := Lib.hid Rb; replace lb := Lib.hid lb
  go_enter Tryz.func19, Tryz.ntmps19
  go_upto_region 1 with fail
  refine gen_wp (fun w' => Below w.heap.size w w' ∧ Box3 w' w.heap.size (.bool ab) (.slice ap an ac) (.slice aq am ae) ∧ Box3 w' (w.heap.size + 1) (.bool cb) (.slice cp cn cc) (.slice cq cm ce) ∧ Box3 w' (w.heap.size + 2) (.bool false) (.slice none 0 0) (.slice none 0 0))
    ⟨((((Below.refl _ _).alloc (Nat.le_refl _) _).alloc (by first | (simp; done) | (simp; omega)) _).alloc (by first | (simp; done) | (simp; omega)) _), (((Box3.new _ _ _ _ rfl).alloc _).alloc _), ((Box3.new _ _ _ _ (by first | (simp; done) | (simp; omega))).alloc _), (Box3.new _ _ _ _ (by first | (simp; done) | (simp; omega)))⟩ ?_
  rintro w0 ⟨bb, Xa, Xb, X2⟩
  replace Ra := Ra.out.below bb; replace Rb := Rb.out.below bb
  replace bb := Lib.hid bb; replace Xa := Lib.hid Xa; replace Xb := Lib.hid Xb; replace X2 := Lib.hid X2; replace Ra := Lib.hid Ra; replace Rb := Lib.hid Rb
  have p00 := Xa.out.c0; have p01 := Xa.out.c1; have p02 := Xa.out.c2; have p10 := Xb.out.c0; have p11 := Xb.out.c1; have p12 := Xb.out.c2
  go_wp2_with fail
  clear p00 p01 p02 p10 p11 p12
  refine (mod4_any ab ap aq an ac am ae P Q cb cp cq cn cc cm ce R S _ Ra.out la.out Rb.out lb.out).mono ?_
  rintro e v1 ⟨db, dp, dn, dc, dq, dm, de, rfl, D, hb⟩
  replace bb := Lib.hid (below_then bb.out (Nat.le_refl _) hb); replace Xa := Lib.hid (Xa.out.later hb); replace Xb := Lib.hid (Xb.out.later hb); replace X2 := Lib.hid (X2.out.later hb); replace Ra := Lib.hid (Ra.out.below hb); replace Rb := Lib.hid (Rb.out.below hb)
  replace D := Lib.hid D
  clear hb
  replace X2 := X2.out
  replace bb := bb.out
  have q0 := X2.c0; have q1 := X2.c1; have q2 := X2.c2; have q3 := X2.fr 0; have q4 := X2.fr 1; have q5 := X2.fr 2
  have zz := X2.set (.bool db) (.slice dp dn dc) (.slice dq dm de)
  have e0 := zz.c0; have e1 := zz.c1; have e2 := zz.c2
  have Y2 := Lib.hid X2; have bb' := Lib.hid bb
  clear zz X2 bb
  go_wp2_with fail
  refine bodyPost_ret (v := .tuple #[.agg #[.bool db, .slice dp dn dc, .slice dq dm de], .int .i64 ((modRes P Q R S).2.2)]) (by simp [results, Tryz.results19, go_sem, e0, e1, e2]) rfl ?_
  exact (ResPost.stored D.out Y2.out bb'.out (by omega))

set_option maxRecDepth 20000 in
set_option maxHeartbeats 4000000 in
theorem numP2_pow (ab : Bool) (ap aq : Option Addr) (an ac am ae : Nat) (P : Int) (Q : Nat) (cb : Bool) (cp cq : Option Addr) (cn cc cm ce : Nat) (R : Int) (S : Nat) (w : World) (Ra : Rt w ab ap an ac aq am ae P Q) (la : Low P Q) (Rb : Rt w cb cp cn cc cq cm ce R S) (lb : Low R S) :
    Calls Tryz.prog 19 #[.int .i64 42, .agg #[.bool ab, .slice ap an ac, .slice aq am ae], .agg #[.bool cb, .slice cp cn cc, .slice cq cm ce]] w (NumRes (powN P Q R S) w) := by
  replace Ra := Lib.hid Ra; replace la := Lib.hid la; replace Rb := Lib.hid Rb; replace lb := Lib.hid lb
  go_enter Tryz.func19, Tryz.ntmps19
  go_upto_region 1 with fail
  refine gen_wp (fun w' => Below w.heap.size w w' ∧ Box3 w' w.heap.size (.bool ab) (.slice ap an ac) (.slice aq am ae) ∧ Box3 w' (w.heap.size + 1) (.bool cb) (.slice cp cn cc) (.slice cq cm ce) ∧ Box3 w' (w.heap.size + 2) (.bool false) (.slice none 0 0) (.slice none 0 0))
    ⟨((((Below.refl _ _).alloc (Nat.le_refl _) _).alloc (by first | (simp; done) | (simp; omega)) _).alloc (by first | (simp; done) | (simp; omega)) _), (((Box3.new _ _ _ _ rfl).alloc _).alloc _), ((Box3.new _ _ _ _ (by first | (simp; done) | (simp; omega))).alloc _), (Box3.new _ _ _ _ (by first | (simp; done) | (simp; omega)))⟩ ?_
  rintro w0 ⟨bb, Xa, Xb, X2⟩
  replace Ra := Ra.out.below bb; replace Rb := Rb.out.below bb
  replace bb := Lib.hid bb; replace Xa := Lib.hid Xa; replace Xb := Lib.hid Xb; replace X2 := Lib.hid X2; replace Ra := Lib.hid Ra; replace Rb := Lib.hid Rb
  have p00 := Xa.out.c0; have p01 := Xa.out.c1; have p02 := Xa.out.c2; have p10 := Xb.out.c0; have p11 := Xb.out.c1; have p12 := Xb.out.c2
  go_wp2_with fail
  clear p00 p01 p02 p10 p11 p12
  refine (powerP_any ab ap aq an ac am ae P Q cb cp cq cn cc cm ce R S _ Ra.out la.out Rb.out lb.out).mono ?_
  rintro e v1 ⟨db, dp, dn, dc, dq, dm, de, rfl, D, hb⟩
  replace bb := Lib.hid (below_then bb.out (Nat.le_refl _) hb); replace Xa := Lib.hid (Xa.out.later hb); replace Xb := Lib.hid (Xb.out.later hb); replace X2 := Lib.hid (X2.out.later hb); replace Ra := Lib.hid (Ra.out.below hb); replace Rb := Lib.hid (Rb.out.below hb)
  replace D := Lib.hid D
  clear hb
  replace X2 := X2.out
  replace bb := bb.out
  have q0 := X2.c0; have q1 := X2.c1; have q2 := X2.c2; have q3 := X2.fr 0; have q4 := X2.fr 1; have q5 := X2.fr 2
  have zz := X2.set (.bool db) (.slice dp dn dc) (.slice dq dm de)
  have e0 := zz.c0; have e1 := zz.c1; have e2 := zz.c2
  have Y2 := Lib.hid X2; have bb' := Lib.hid bb
  clear zz X2 bb
  go_wp2_with fail
  refine bodyPost_ret (v := .tuple #[.agg #[.bool db, .slice dp dn dc, .slice dq dm de], .int .i64 ((powN P Q R S).2.2)]) (by simp [results, Tryz.results19, go_sem, e0, e1, e2]) rfl ?_
  exact (ResPost.stored D.out Y2.out bb'.out (by omega))

set_option maxRecDepth 20000 in
set_option maxHeartbeats 4000000 in
theorem numP2_lcm (ab : Bool) (ap aq : Option Addr) (an ac am ae : Nat) (P : Int) (Q : Nat) (cb : Bool) (cp cq : Option Addr) (cn cc cm ce : Nat) (R : Int) (S : Nat) (w : World) (Ra : Rt w ab ap an ac aq am ae P Q) (la : Low P Q) (Rb : Rt w cb cp cn cc cq cm ce R S) (lb : Low R S) :
    Calls Tryz.prog 19 #[.int .i64 8743, .agg #[.bool ab, .slice ap an ac, .slice aq am ae], .agg #[.bool cb, .slice cp cn cc, .slice cq cm ce]] w (LcmPost P Q R S w) := by
  replace Ra := Lib.hid Ra; replace la := Lib.hid la; replace Rb := Lib.hid Rb; replace lb := Lib.hid lb
  go_enter Tryz.func19, Tryz.ntmps19
  go_upto_region 1 with fail
  refine gen_wp (fun w' => Below w.heap.size w w' ∧ Box3 w' w.heap.size (.bool ab) (.slice ap an ac) (.slice aq am ae) ∧ Box3 w' (w.heap.size + 1) (.bool cb) (.slice cp cn cc) (.slice cq cm ce) ∧ Box3 w' (w.heap.size + 2) (.bool false) (.slice none 0 0) (.slice none 0 0))
    ⟨((((Below.refl _ _).alloc (Nat.le_refl _) _).alloc (by first | (simp; done) | (simp; omega)) _).alloc (by first | (simp; done) | (simp; omega)) _), (((Box3.new _ _ _ _ rfl).alloc _).alloc _), ((Box3.new _ _ _ _ (by first | (simp; done) | (simp; omega))).alloc _), (Box3.new _ _ _ _ (by first | (simp; done) | (simp; omega)))⟩ ?_
  rintro w0 ⟨bb, Xa, Xb, X2⟩
  replace Ra := Ra.out.below bb; replace Rb := Rb.out.below bb
  replace bb := Lib.hid bb; replace Xa := Lib.hid Xa; replace Xb := Lib.hid Xb; replace X2 := Lib.hid X2; replace Ra := Lib.hid Ra; replace Rb := Lib.hid Rb
  have p00 := Xa.out.c0; have p01 := Xa.out.c1; have p02 := Xa.out.c2; have p10 := Xb.out.c0; have p11 := Xb.out.c1; have p12 := Xb.out.c2
  go_wp2_with fail
  clear p00 p01 p02 p10 p11 p12
  refine (lcm4_any ab ap aq an ac am ae P Q cb cp cq cn cc cm ce R S _ Ra.out la.out Rb.out lb.out).mono ?_
  rintro e v1 ⟨db, dp, dn, dc, dq, dm, de, rfl, D, hb⟩
  replace bb := Lib.hid (below_then bb.out (Nat.le_refl _) hb); replace Xa := Lib.hid (Xa.out.later hb); replace Xb := Lib.hid (Xb.out.later hb); replace X2 := Lib.hid (X2.out.later hb); replace Ra := Lib.hid (Ra.out.below hb); replace Rb := Lib.hid (Rb.out.below hb)
  replace D := Lib.hid D
  clear hb
  replace X2 := X2.out
  replace bb := bb.out
  have q0 := X2.c0; have q1 := X2.c1; have q2 := X2.c2; have q3 := X2.fr 0; have q4 := X2.fr 1; have q5 := X2.fr 2
  have zz := X2.set (.bool db) (.slice dp dn dc) (.slice dq dm de)
  have e0 := zz.c0; have e1 := zz.c1; have e2 := zz.c2
  have Y2 := Lib.hid X2; have bb' := Lib.hid bb
  clear zz X2 bb
  go_wp2_with fail
  refine bodyPost_ret (v := .tuple #[.agg #[.bool db, .slice dp dn dc, .slice dq dm de], .int .i64 ((lcmRes P Q R S).2.2)]) (by simp [results, Tryz.results19, go_sem, e0, e1, e2]) rfl ?_
  exact (ResPost.stored D.out Y2.out bb'.out (by omega))

set_option maxRecDepth 20000 in
set_option maxHeartbeats 4000000 in
theorem numP2_gcd (ab : Bool) (ap aq : Option Addr) (an ac am ae : Nat) (P : Int) (Q : Nat) (cb : Bool) (cp cq : Option Addr) (cn cc cm ce : Nat) (R : Int) (S : Nat) (w : World) (Ra : Rt w ab ap an ac aq am ae P Q) (la : Low P Q) (Rb : Rt w cb cp cn cc cq cm ce R S) (lb : Low R S) :
    Calls Tryz.prog 19 #[.int .i64 8744, .agg #[.bool ab, .slice ap an ac, .slice aq am ae], .agg #[.bool cb, .slice cp cn cc, .slice cq cm ce]] w (GcdPost P Q R S w) := by
  replace Ra := Lib.hid Ra; replace la := Lib.hid la; replace Rb := Lib.hid Rb; replace lb := Lib.hid lb
  go_enter Tryz.func19, Tryz.ntmps19
  go_upto_region 1 with fail
  refine gen_wp (fun w' => Below w.heap.size w w' ∧ Box3 w' w.heap.size (.bool ab) (.slice ap an ac) (.slice aq am ae) ∧ Box3 w' (w.heap.size + 1) (.bool cb) (.slice cp cn cc) (.slice cq cm ce) ∧ Box3 w' (w.heap.size + 2) (.bool false) (.slice none 0 0) (.slice none 0 0))
    ⟨((((Below.refl _ _).alloc (Nat.le_refl _) _).alloc (by first | (simp; done) | (simp; omega)) _).alloc (by first | (simp; done) | (simp; omega)) _), (((Box3.new _ _ _ _ rfl).alloc _).alloc _), ((Box3.new _ _ _ _ (by first | (simp; done) | (simp; omega))).alloc _), (Box3.new _ _ _ _ (by first | (simp; done) | (simp; omega)))⟩ ?_
  rintro w0 ⟨bb, Xa, Xb, X2⟩
  replace Ra := Ra.out.below bb; replace Rb := Rb.out.below bb
  replace bb := Lib.hid bb; replace Xa := Lib.hid Xa; replace Xb := Lib.hid Xb; replace X2 := Lib.hid X2; replace Ra := Lib.hid Ra; replace Rb := Lib.hid Rb
  have p00 := Xa.out.c0; have p01 := Xa.out.c1; have p02 := Xa.out.c2; have p10 := Xb.out.c0; have p11 := Xb.out.c1; have p12 := Xb.out.c2
  go_wp2_with fail
  clear p00 p01 p02 p10 p11 p12
  refine (gcd4_any ab ap aq an ac am ae P Q cb cp cq cn cc cm ce R S _ Ra.out la.out Rb.out lb.out).mono ?_
  rintro e v1 ⟨db, dp, dn, dc, dq, dm, de, rfl, D, hb⟩
  replace bb := Lib.hid (below_then bb.out (Nat.le_refl _) hb); replace Xa := Lib.hid (Xa.out.later hb); replace Xb := Lib.hid (Xb.out.later hb); replace X2 := Lib.hid (X2.out.later hb); replace Ra := Lib.hid (Ra.out.below hb); replace Rb := Lib.hid (Rb.out.below hb)
  replace D := Lib.hid D
  clear hb
  replace X2 := X2.out
  replace bb := bb.out
  have q0 := X2.c0; have q1 := X2.c1; have q2 := X2.c2; have q3 := X2.fr 0; have q4 := X2.fr 1; have q5 := X2.fr 2
  have zz := X2.set (.bool db) (.slice dp dn dc) (.slice dq dm de)
  have e0 := zz.c0; have e1 := zz.c1; have e2 := zz.c2
  have Y2 := Lib.hid X2; have bb' := Lib.hid bb
  clear zz X2 bb
  go_wp2_with fail
  refine bodyPost_ret (v := .tuple #[.agg #[.bool db, .slice dp dn dc, .slice dq dm de], .int .i64 ((gcdRes P Q R S).2.2)]) (by simp [results, Tryz.results19, go_sem, e0, e1, e2]) rfl ?_
  exact (ResPost.stored D.out Y2.out bb'.out (by omega))

set_option maxRecDepth 20000 in
set_option maxHeartbeats 4000000 in
theorem numP2_rest (f : Int) (ab : Bool) (ap aq : Option Addr) (an ac am ae : Nat) (P : Int) (Q : Nat) (cb : Bool) (cp cq : Option Addr) (cn cc cm ce : Nat) (R : Int) (S : Nat) (w : World) (Ra : Rt w ab ap an ac aq am ae P Q) (la : Low P Q) (Rb : Rt w cb cp cn cc cq cm ce R S) (lb : Low R S) (h43 : f ≠ 43) (h45 : f ≠ 45) (h215 : f ≠ 215) (h247 : f ≠ 247) (h124 : f ≠ 124) (h42 : f ≠ 42) (h8743 : f ≠ 8743) (h8744 : f ≠ 8744) :
    Calls Tryz.prog 19 #[.int .i64 f, .agg #[.bool ab, .slice ap an ac, .slice aq am ae], .agg #[.bool cb, .slice cp cn cc, .slice cq cm ce]] w (NumRes (cmpR f P Q R S) w) := by
  have g43 : (f == 43) = false := by rw [beq_eq_false_iff_ne]; exact h43
  have g45 : (f == 45) = false := by rw [beq_eq_false_iff_ne]; exact h45
  have g215 : (f == 215) = false := by rw [beq_eq_false_iff_ne]; exact h215
  have g247 : (f == 247) = false := by rw [beq_eq_false_iff_ne]; exact h247
  have g124 : (f == 124) = false := by rw [beq_eq_false_iff_ne]; exact h124
  have g42 : (f == 42) = false := by rw [beq_eq_false_iff_ne]; exact h42
  have g8743 : (f == 8743) = false := by rw [beq_eq_false_iff_ne]; exact h8743
  have g8744 : (f == 8744) = false := by rw [beq_eq_false_iff_ne]; exact h8744
  clear h43 h45 h215 h247 h124 h42 h8743 h8744
  replace Ra := Lib.hid Ra; replace la := Lib.hid la; replace Rb := Lib.hid Rb; replace lb := Lib.hid lb
  go_enter Tryz.func19, Tryz.ntmps19
  go_upto_region 1 with fail
  refine gen_wp (fun w' => Below w.heap.size w w' ∧ Box3 w' w.heap.size (.bool ab) (.slice ap an ac) (.slice aq am ae) ∧ Box3 w' (w.heap.size + 1) (.bool cb) (.slice cp cn cc) (.slice cq cm ce) ∧ Box3 w' (w.heap.size + 2) (.bool false) (.slice none 0 0) (.slice none 0 0))
    ⟨((((Below.refl _ _).alloc (Nat.le_refl _) _).alloc (by first | (simp; done) | (simp; omega)) _).alloc (by first | (simp; done) | (simp; omega)) _), (((Box3.new _ _ _ _ rfl).alloc _).alloc _), ((Box3.new _ _ _ _ (by first | (simp; done) | (simp; omega))).alloc _), (Box3.new _ _ _ _ (by first | (simp; done) | (simp; omega)))⟩ ?_
  rintro w0 ⟨bb, Xa, Xb, X2⟩
  replace Ra := Ra.out.below bb; replace Rb := Rb.out.below bb
  replace bb := Lib.hid bb; replace Xa := Lib.hid Xa; replace Xb := Lib.hid Xb; replace X2 := Lib.hid X2; replace Ra := Lib.hid Ra; replace Rb := Lib.hid Rb
  have p00 := Xa.out.c0; have p01 := Xa.out.c1; have p02 := Xa.out.c2; have p10 := Xb.out.c0; have p11 := Xb.out.c1; have p12 := Xb.out.c2
  go_wp2_with fail
  clear p00 p01 p02 p10 p11 p12
  refine (comparedP_any f ab ap aq an ac am ae P Q cb cp cq cn cc cm ce R S _ Ra.out la.out Rb.out lb.out).mono ?_
  rintro e v1 ⟨db, dp, dn, dc, dq, dm, de, rfl, D, hb⟩
  replace bb := Lib.hid (below_then bb.out (Nat.le_refl _) hb); replace Xa := Lib.hid (Xa.out.later hb); replace Xb := Lib.hid (Xb.out.later hb); replace X2 := Lib.hid (X2.out.later hb); replace Ra := Lib.hid (Ra.out.below hb); replace Rb := Lib.hid (Rb.out.below hb)
  replace D := Lib.hid D
  clear hb
  replace X2 := X2.out
  replace bb := bb.out
  have q0 := X2.c0; have q1 := X2.c1; have q2 := X2.c2; have q3 := X2.fr 0; have q4 := X2.fr 1; have q5 := X2.fr 2
  have zz := X2.set (.bool db) (.slice dp dn dc) (.slice dq dm de)
  have e0 := zz.c0; have e1 := zz.c1; have e2 := zz.c2
  have Y2 := Lib.hid X2; have bb' := Lib.hid bb
  clear zz X2 bb
  go_wp2_with fail
  refine bodyPost_ret (v := .tuple #[.agg #[.bool db, .slice dp dn dc, .slice dq dm de], .int .i64 ((cmpR f P Q R S).2.2)]) (by simp [results, Tryz.results19, go_sem, e0, e1, e2]) rfl ?_
  exact (ResPost.stored D.out Y2.out bb'.out (by omega))

/-- Each word of two numbers. -/
theorem numbersP_any (f : Int) (ab : Bool) (ap aq : Option Addr) (an ac am ae : Nat) (P : Int) (Q : Nat) (cb : Bool) (cp cq : Option Addr) (cn cc cm ce : Nat) (R : Int) (S : Nat) (w : World) (Ra : Rt w ab ap an ac aq am ae P Q) (la : Low P Q) (Rb : Rt w cb cp cn cc cq cm ce R S) (lb : Low R S) :
    Calls Tryz.prog 19 #[.int .i64 f, .agg #[.bool ab, .slice ap an ac, .slice aq am ae], .agg #[.bool cb, .slice cp cn cc, .slice cq cm ce]] w (NumRes (num2R f P Q R S) w) := by
  by_cases h43 : f = 43
  · subst h43; exact (numP2_plus ab ap aq an ac am ae P Q cb cp cq cn cc cm ce R S w Ra la Rb lb).mono fun _ _ h => (show NumRes (num2R 43 P Q R S) w _ _ from by rw [show num2R 43 P Q R S = _ from (by unfold num2R; rw [if_pos rfl])]; exact h)
  by_cases h45 : f = 45
  · subst h45; exact (numP2_minus ab ap aq an ac am ae P Q cb cp cq cn cc cm ce R S w Ra la Rb lb).mono fun _ _ h => (show NumRes (num2R 45 P Q R S) w _ _ from by rw [show num2R 45 P Q R S = _ from (by unfold num2R; rw [if_neg (by decide), if_pos rfl])]; exact h)
  by_cases h215 : f = 215
  · subst h215; exact (numP2_times ab ap aq an ac am ae P Q cb cp cq cn cc cm ce R S w Ra la Rb lb).mono fun _ _ h => (show NumRes (num2R 215 P Q R S) w _ _ from by rw [show num2R 215 P Q R S = _ from (by unfold num2R; rw [if_neg (by decide), if_neg (by decide), if_pos rfl])]; exact h)
  by_cases h247 : f = 247
  · subst h247; exact (numP2_div ab ap aq an ac am ae P Q cb cp cq cn cc cm ce R S w Ra la Rb lb).mono fun _ _ h => (show NumRes (num2R 247 P Q R S) w _ _ from by rw [show num2R 247 P Q R S = _ from (by unfold num2R; rw [if_neg (by decide), if_neg (by decide), if_neg (by decide), if_pos rfl])]; exact h)
  by_cases h124 : f = 124
  · subst h124; exact (numP2_mod ab ap aq an ac am ae P Q cb cp cq cn cc cm ce R S w Ra la Rb lb).mono fun _ _ h => (show NumRes (num2R 124 P Q R S) w _ _ from by rw [show num2R 124 P Q R S = _ from (by unfold num2R; rw [if_neg (by decide), if_neg (by decide), if_neg (by decide), if_neg (by decide), if_neg (by decide), if_neg (by decide), if_pos rfl])]; exact h)
  by_cases h42 : f = 42
  · subst h42; exact (numP2_pow ab ap aq an ac am ae P Q cb cp cq cn cc cm ce R S w Ra la Rb lb).mono fun _ _ h => (show NumRes (num2R 42 P Q R S) w _ _ from by rw [show num2R 42 P Q R S = _ from (by unfold num2R; rw [if_neg (by decide), if_neg (by decide), if_neg (by decide), if_neg (by decide), if_neg (by decide), if_neg (by decide), if_neg (by decide), if_pos rfl])]; exact h)
  by_cases h8743 : f = 8743
  · subst h8743; exact (numP2_lcm ab ap aq an ac am ae P Q cb cp cq cn cc cm ce R S w Ra la Rb lb).mono fun _ _ h => (show NumRes (num2R 8743 P Q R S) w _ _ from by rw [show num2R 8743 P Q R S = _ from (by unfold num2R; rw [if_neg (by decide), if_neg (by decide), if_neg (by decide), if_neg (by decide), if_neg (by decide), if_neg (by decide), if_neg (by decide), if_neg (by decide), if_neg (by decide), if_neg (by decide), if_neg (by decide), if_neg (by decide), if_neg (by decide), if_neg (by decide), if_pos rfl])]; exact h)
  by_cases h8744 : f = 8744
  · subst h8744; exact (numP2_gcd ab ap aq an ac am ae P Q cb cp cq cn cc cm ce R S w Ra la Rb lb).mono fun _ _ h => (show NumRes (num2R 8744 P Q R S) w _ _ from by rw [show num2R 8744 P Q R S = _ from (by unfold num2R; rw [if_neg (by decide), if_neg (by decide), if_neg (by decide), if_neg (by decide), if_neg (by decide), if_neg (by decide), if_neg (by decide), if_neg (by decide), if_neg (by decide), if_neg (by decide), if_neg (by decide), if_neg (by decide), if_neg (by decide), if_neg (by decide), if_neg (by decide), if_pos rfl])]; exact h)
  have e : num2R f P Q R S = cmpR f P Q R S := by simp only [num2R, cmpR, h43, h45, h215, h247, h124, h42, h8743, h8744, if_false]
  rw [e]
  exact numP2_rest f ab ap aq an ac am ae P Q cb cp cq cn cc cm ce R S w Ra la Rb lb h43 h45 h215 h247 h124 h42 h8743 h8744

end Go.Proofs.YtaepelipkkmeaaaGreat
