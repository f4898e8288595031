/-
  Rational numbers: what Make tells of two whole ones (mkE the error, mkT the top with its sign, mkB the bottom), numbers in lowest terms ('Low'), facts on these; blocks of three cells ('Box3'); a number as a call hands it back ('Rt': its top and its bottom without noughts on top; 'ResPost': with an error; 'RatPost': without).
  ratio.Whole, Of, Sign, Neg, Abs, Cmp.
  scrimref03.Of; scrimlaw03.awake: chapter 3's examples hold.
  scrimref02.Same of any limbs; scrimref04.Same, Right.
  scrimref10.Number but for the product: what it tells of a right number.
  scrimref10.factorial.
  scrimref10.Number and Numbers: each word in one.
  Lists of ints as they lie in memory; whether a number is in one; two that are the same (scrimref06.In, scrimref01.Ints).
  Shapes, plain: how many cells there are, or the error; which place is which cell. scrimref07.Ints, Count.
  scrimref08.Simple, zero.
  scrimref08.left, Few: which arrays the statements ask of.
  scrimref08.Size, Depth, Total: through all cells and the arrays in them.
  scrimref08.SameCell, Same: two cells, two arrays, as they stand.
  scrimref08.Same: two arrays, as they stand.
  Arrays in memory, and in which blocks they lie.
  What Cover makes, and what holds while it makes it.
  scrimref08.Cover: an array with all labels raised, or with one label in their place.
  scrimref06.May, Class.
  scrimref08.Cell, Right: which cells and arrays are right.
  scrimref08.Right: an array is right.
  What the words of numbers tell: a right number, or an error and none.
-/
import Derived.Test.YtaepelipkkmeaaaGreatMgtA
import Derived.Test.YtaepelipkkmeaaaGreatMgtB
import Derived.Test.YtaepelipkkmeaaaGreatMgtC
import Derived.Test.YtaepelipkkmeaaaGreatMgtD
import Derived.Test.YtaepelipkkmeaaaGreatMgtE
import Derived.Test.YtaepelipkkmeaaaGreatMgtF
import Derived.Test.YtaepelipkkmeaaaGreatMgtG
import Derived.Deep.LoopGhost
import Derived.WalkKit
import Derived.Lib.BitFns
import Derived.Laws.CopyOwn
import Derived.Deep.RegionHeld3
import Derived.Deep.DrawnRows
import Derived.Lib.Small
import Derived.Lib.Walk
import Derived.Deep.QuietTactic
import Derived.BigQuiet
import Derived.WalkSpells
import Derived.WalkLawsBesides
import Derived.Lib.Hide
import Derived.Deep.RegionWith
import Derived.Deep.CutRange
import Derived.Test.YtaepelipkkmeaaaGreatChecked
import Derived.Laws.AppendOwn
import Derived.Laws.OwnMore
import Derived.Deep.AppendLies
set_option maxRecDepth 20000
set_option maxHeartbeats 16000000
namespace Go.Proofs.YtaepelipkkmeaaaGreat
open Go.RowKit Num
theorem Low.abs {P : Int} {Q : Nat} (a : Low P Q) : Low P.natAbs Q := ⟨a.1, by rw [Int.natAbs_natCast]; exact a.2.1, by rw [Int.natAbs_natCast]; exact a.2.2.1, a.2.2.2⟩
end Go.Proofs.YtaepelipkkmeaaaGreat
namespace Go.Proofs.YtaepelipkkmeaaaGreat
open Go.RowKit Num
attribute [local go_sem ↓] Go.wp_at_zero Go.wp_at_succ
theorem Whole.nat {w : World} {b : Bool} {ao : Option Addr} {n nc : Nat} {x : Int} (h : Whole w b ao n nc x) : Whole w false ao n nc x.natAbs := by
 obtain ⟨f, A, rfl⟩ := h.ex
 exact ⟨f, A, by rw [sgn_abs]; rfl⟩
theorem abs_any (ab : Bool) (ap aq : Option Addr) (an ac am ae : Nat) (P : Int) (Q : Nat) (w : World) (A : Rt w ab ap an ac aq am ae P Q) (lA : Low P Q) :
  Calls Tryz.prog 55 #[.agg #[.bool ab, .slice ap an ac, .slice aq am ae]] w (RatPost (P.natAbs) Q w) := by
 have lA' := Lib.hid lA
 have A' := Lib.hid A
 clear lA A
 go_enter Tryz.func55, Tryz.ntmps55
 go_wp2_with fail
 refine gen_wp (fun w' => Below w.heap.size w w' ∧ Box3 w' w.heap.size (.bool ab) (.slice ap an ac) (.slice aq am ae) ∧ Box3 w' (w.heap.size + 1) (.bool false) (.slice none 0 0) (.slice none 0 0))
  ⟨(((Below.refl _ _).alloc (Nat.le_refl _) _).alloc (by simp <;> omega) _), ((Box3.new _ _ _ _ rfl).alloc _), (Box3.new _ _ _ _ (by simp <;> omega))⟩ ?_
 rintro w0 ⟨bb, x0, x1⟩
 have bb := bb.drew; have x0 := x0.drew; have x1 := x1.drew
 have A := A'.out.below bb
 clear A'
 have sb0 := True.intro
 go_region_held3 (fun w' => w'.cell? ⟨w.heap.size, 0, none⟩ = some (.bool ab) ∧ w'.cell? ⟨w.heap.size, 1, none⟩ = some (.slice ap an ac) ∧ w'.cell? ⟨w.heap.size, 2, none⟩ = some (.slice aq am ae))
  (first | with_reducible exact ⟨x0.c0, x0.c1, x0.c2⟩ | with_reducible exact ⟨(x0.other3 (by omega) _ _ _).c0, (x0.other3 (by omega) _ _ _).c1, (x0.other3 (by omega) _ _ _).c2⟩ | go_keep)
  (first
  | (go_at_call 115; clear sb0; refine (wNorm_any false ap an ac P.natAbs _ (A.upper lA'.out).nat).mono ?_; rintro e w' ⟨eb, eo, en, ec, rfl, h1, hb⟩; have bb := below_then bb (Nat.le_refl _) hb; have x0 := x0.later hb; have x1 := x1.later hb; have A := A.below hb; clear hb; have sb1 := True.intro)
  | (go_at_call 105; clear sb1; refine (over_w eb eo aq en ec am ae (P.natAbs) Q _ h1 (A.lower lA'.out)).mono ?_; rintro e w' ⟨gb, gp, gn, gc, gq, gm, ge, rfl, hR, hb⟩; have bb := below_then bb (Nat.le_refl _) hb; have x0 := x0.later hb; have x1 := x1.later hb; have A := A.below hb; have h1 := h1.below hb; clear hb; have q0 := x1.c0; have q1 := x1.c1; have q2 := x1.c2; have q3 := x1.fr 0; have q4 := x1.fr 1; have q5 := x1.fr 2; have sb2 := True.intro))
 have z := x1.set (.bool gb) (.slice gp gn gc) (.slice gq gm ge)
 have e0 := z.c0; have e1 := z.c1; have e2 := z.c2
 have x1' := Lib.hid x1; have bb' := Lib.hid bb; have hR' := Lib.hid hR
 clear z x1 bb x0 A hR
 go_wp2_with fail
 refine bodyPost_ret (v := .agg #[.bool gb, .slice gp gn gc, .slice gq gm ge]) (by simp [results, Tryz.results55, go_sem, e0, e1, e2]) rfl ?_
 exact RatPost.stored hR'.out x1'.out bb'.out (by omega)
end Go.Proofs.YtaepelipkkmeaaaGreat
namespace Go.Proofs.YtaepelipkkmeaaaGreat
open Go.RowKit Num
attribute [local go_sem ↓] Go.wp_at_zero Go.wp_at_succ
theorem Right.drew {w : World} {b : Bool} {ao : Option Addr} {n nc : Nat} {x : Int} (h : Right w b ao n nc x) : Right w.drew b ao n nc x := h.below (Below.refl _ w).drew
end Go.Proofs.YtaepelipkkmeaaaGreat
namespace Go.Proofs.YtaepelipkkmeaaaGreat
open Go.RowKit Num
attribute [local go_sem ↓] Go.wp_at_zero Go.wp_at_succ
theorem Right.len_le32 {w : World} {b : Bool} {ao : Option Addr} {n nc : Nat} {x : Int} (h : Right w b ao n nc x) (hx : x.natAbs < pw 32) : n ≤ 32 := h.le_len hx
end Go.Proofs.YtaepelipkkmeaaaGreat
namespace Go.Proofs.YtaepelipkkmeaaaGreat
open Go.RowKit Num
attribute [local go_sem ↓] Go.wp_at_zero Go.wp_at_succ
def factZ : Nat → Int
 | 0 => 1
 | n + 1 => factZ n * ((n : Int) + 1)
def factR (P : Int) (Q : Nat) : Int × Nat × Int := if Q = 1 ∧ 0 ≤ P then (if P ≤ 200 then (mkT (factZ P.toNat) 1, mkB (factZ P.toNat) 1, mkE (factZ P.toNat) 1) else (0, 0, 7)) else (0, 0, 3)
def notR (P : Int) (Q : Nat) : Int × Nat × Int := if P = 0 then (1, 1, 0) else if P = 1 ∧ Q = 1 then (0, 1, 0) else (0, 0, 3)
def numR (f P : Int) (Q : Nat) : Int × Nat × Int :=
 if f = 43 then (P, Q, 0) else if f = 45 then (-P, Q, 0) else if f = 215 then (cmpI P 0, 1, 0) else
 if f = 247 then (mkT ((1 : Int) * Q) (((1 : Nat) : Int) * P), mkB ((1 : Int) * Q) (((1 : Nat) : Int) * P), mkE ((1 : Int) * Q) (((1 : Nat) : Int) * P)) else
 if f = 8968 then (-((-P).fdiv Q), 1, 0) else if f = 8970 then (P.fdiv Q, 1, 0) else if f = 124 then ((P.natAbs : Int), Q, 0) else
 if f = 126 then notR P Q else if f = 33 then factR P Q else (0, 0, 8)
theorem notR_zero {P : Int} {Q : Nat} {w w' : World} {e : Ending} (h : P = 0) (k : ResPost 1 1 0 w e w') : NumRes (notR P Q) w e w' := NumRes.of k (if_pos h)
theorem notR_one {P : Int} {Q : Nat} {w w' : World} {e : Ending} (h : P = 1 ∧ Q = 1) (k : ResPost 0 1 0 w e w') : NumRes (notR P Q) w e w' := NumRes.of k (by unfold notR; rw [if_neg (by omega), if_pos h])
theorem notR_no {P : Int} {Q : Nat} {w w' : World} {e : Ending} (h : P ≠ 0) (h2 : ¬ (P = 1 ∧ Q = 1)) (k : ResPost 0 0 3 w e w') : NumRes (notR P Q) w e w' := NumRes.of k (by unfold notR; rw [if_neg h, if_neg h2])
theorem cmpI_small (x y : Int) : -1 ≤ cmpI x y ∧ cmpI x y ≤ 1 := by unfold cmpI; split <;> (try split) <;> omega
theorem num10_plus (ab : Bool) (ap aq : Option Addr) (an ac am ae : Nat) (P : Int) (Q : Nat) (w : World) (Ra : Rt w ab ap an ac aq am ae P Q) (la : Low P Q) :
  Calls Tryz.prog 18 #[.int .i64 43, .agg #[.bool ab, .slice ap an ac, .slice aq am ae]] w (ResPost P Q 0 w) := by
 replace Ra := Lib.hid Ra; replace la := Lib.hid la
 go_enter Tryz.func18, Tryz.ntmps18
 go_upto_region 1 with fail
 refine gen_wp (fun w' => Below w.heap.size w w' ∧ Box3 w' w.heap.size (.bool ab) (.slice ap an ac) (.slice aq am ae) ∧ Box3 w' (w.heap.size + 1) (.bool false) (.slice none 0 0) (.slice none 0 0))
  ⟨(((Below.refl _ _).alloc (Nat.le_refl _) _).alloc (by simp <;> omega) _), ((Box3.new _ _ _ _ rfl).alloc _), (Box3.new _ _ _ _ (by simp <;> omega))⟩ ?_
 rintro w0 ⟨bb, Xa, X2⟩
 replace Ra := Ra.out.below bb
 replace bb := Lib.hid bb; replace Xa := Lib.hid Xa; replace X2 := Lib.hid X2; replace Ra := Lib.hid Ra
 have p00 := Xa.out.c0; have p01 := Xa.out.c1; have p02 := Xa.out.c2
 replace X2 := X2.out
 replace bb := bb.out
 have q0 := X2.c0; have q1 := X2.c1; have q2 := X2.c2; have q3 := X2.fr 0; have q4 := X2.fr 1; have q5 := X2.fr 2
 have zz := X2.set (.bool ab) (.slice ap an ac) (.slice aq am ae)
 have e0 := zz.c0; have e1 := zz.c1; have e2 := zz.c2
 have Y2 := Lib.hid X2; have bb' := Lib.hid bb
 clear zz X2 bb
 go_wp2_with fail
 refine bodyPost_ret (v := .tuple #[.agg #[.bool ab, .slice ap an ac, .slice aq am ae], .int .i64 (0)]) (by simp [results, Tryz.results18, go_sem, e0, e1, e2]) rfl ?_
 exact (ResPost.stored Ra.out Y2.out bb'.out (by omega))
theorem num10_minus (ab : Bool) (ap aq : Option Addr) (an ac am ae : Nat) (P : Int) (Q : Nat) (w : World) (Ra : Rt w ab ap an ac aq am ae P Q) (la : Low P Q) :
  Calls Tryz.prog 18 #[.int .i64 45, .agg #[.bool ab, .slice ap an ac, .slice aq am ae]] w (ResPost (-P) Q 0 w) := by
 replace Ra := Lib.hid Ra; replace la := Lib.hid la
 go_enter Tryz.func18, Tryz.ntmps18
 go_upto_region 1 with fail
 refine gen_wp (fun w' => Below w.heap.size w w' ∧ Box3 w' w.heap.size (.bool ab) (.slice ap an ac) (.slice aq am ae) ∧ Box3 w' (w.heap.size + 1) (.bool false) (.slice none 0 0) (.slice none 0 0))
  ⟨(((Below.refl _ _).alloc (Nat.le_refl _) _).alloc (by simp <;> omega) _), ((Box3.new _ _ _ _ rfl).alloc _), (Box3.new _ _ _ _ (by simp <;> omega))⟩ ?_
 rintro w0 ⟨bb, Xa, X2⟩
 replace Ra := Ra.out.below bb
 replace bb := Lib.hid bb; replace Xa := Lib.hid Xa; replace X2 := Lib.hid X2; replace Ra := Lib.hid Ra
 have p00 := Xa.out.c0; have p01 := Xa.out.c1; have p02 := Xa.out.c2
 go_wp2_with fail
 clear p00 p01 p02
 refine (neg4_any ab ap aq an ac am ae P Q _ Ra.out la.out).mono ?_
 rintro e v1 ⟨db, dp, dn, dc, dq, dm, de, rfl, D, hb⟩
 replace bb := Lib.hid (below_then bb.out (Nat.le_refl _) hb); replace Xa := Lib.hid (Xa.out.later hb); replace X2 := Lib.hid (X2.out.later hb); replace Ra := Lib.hid (Ra.out.below hb)
 replace D := Lib.hid D
 clear hb
 replace X2 := X2.out
 replace bb := bb.out
 have q0 := X2.c0; have q1 := X2.c1; have q2 := X2.c2; have q3 := X2.fr 0; have q4 := X2.fr 1; have q5 := X2.fr 2
 have zz := X2.set (.bool db) (.slice dp dn dc) (.slice dq dm de)
 have e0 := zz.c0; have e1 := zz.c1; have e2 := zz.c2
 have Y2 := Lib.hid X2; have bb' := Lib.hid bb
 clear zz X2 bb
 go_wp2_with fail
 refine bodyPost_ret (v := .tuple #[.agg #[.bool db, .slice dp dn dc, .slice dq dm de], .int .i64 (0)]) (by simp [results, Tryz.results18, go_sem, e0, e1, e2]) rfl ?_
 exact (ResPost.stored D.out Y2.out bb'.out (by omega))
theorem num10_floor (ab : Bool) (ap aq : Option Addr) (an ac am ae : Nat) (P : Int) (Q : Nat) (w : World) (Ra : Rt w ab ap an ac aq am ae P Q) (la : Low P Q) :
  Calls Tryz.prog 18 #[.int .i64 8970, .agg #[.bool ab, .slice ap an ac, .slice aq am ae]] w (ResPost (P.fdiv Q) 1 0 w) := by
 replace Ra := Lib.hid Ra; replace la := Lib.hid la
 go_enter Tryz.func18, Tryz.ntmps18
 go_upto_region 1 with fail
 refine gen_wp (fun w' => Below w.heap.size w w' ∧ Box3 w' w.heap.size (.bool ab) (.slice ap an ac) (.slice aq am ae) ∧ Box3 w' (w.heap.size + 1) (.bool false) (.slice none 0 0) (.slice none 0 0))
  ⟨(((Below.refl _ _).alloc (Nat.le_refl _) _).alloc (by simp <;> omega) _), ((Box3.new _ _ _ _ rfl).alloc _), (Box3.new _ _ _ _ (by simp <;> omega))⟩ ?_
 rintro w0 ⟨bb, Xa, X2⟩
 replace Ra := Ra.out.below bb
 replace bb := Lib.hid bb; replace Xa := Lib.hid Xa; replace X2 := Lib.hid X2; replace Ra := Lib.hid Ra
 have p00 := Xa.out.c0; have p01 := Xa.out.c1; have p02 := Xa.out.c2
 go_wp2_with fail
 clear p00 p01 p02
 refine (rFloor_any ab ap aq an ac am ae P Q _ Ra.out la.out).mono ?_
 rintro e v1 ⟨db, dp, dn, dc, dq, dm, de, rfl, D, hb⟩
 replace bb := Lib.hid (below_then bb.out (Nat.le_refl _) hb); replace Xa := Lib.hid (Xa.out.later hb); replace X2 := Lib.hid (X2.out.later hb); replace Ra := Lib.hid (Ra.out.below hb)
 replace D := Lib.hid D
 clear hb
 replace X2 := X2.out
 replace bb := bb.out
 have q0 := X2.c0; have q1 := X2.c1; have q2 := X2.c2; have q3 := X2.fr 0; have q4 := X2.fr 1; have q5 := X2.fr 2
 have zz := X2.set (.bool db) (.slice dp dn dc) (.slice dq dm de)
 have e0 := zz.c0; have e1 := zz.c1; have e2 := zz.c2
 have Y2 := Lib.hid X2; have bb' := Lib.hid bb
 clear zz X2 bb
 go_wp2_with fail
 refine bodyPost_ret (v := .tuple #[.agg #[.bool db, .slice dp dn dc, .slice dq dm de], .int .i64 (0)]) (by simp [results, Tryz.results18, go_sem, e0, e1, e2]) rfl ?_
 exact (ResPost.stored D.out Y2.out bb'.out (by omega))
theorem num10_ceil (ab : Bool) (ap aq : Option Addr) (an ac am ae : Nat) (P : Int) (Q : Nat) (w : World) (Ra : Rt w ab ap an ac aq am ae P Q) (la : Low P Q) :
  Calls Tryz.prog 18 #[.int .i64 8968, .agg #[.bool ab, .slice ap an ac, .slice aq am ae]] w (ResPost (-((-P).fdiv Q)) 1 0 w) := by
 replace Ra := Lib.hid Ra; replace la := Lib.hid la
 go_enter Tryz.func18, Tryz.ntmps18
 go_upto_region 1 with fail
 refine gen_wp (fun w' => Below w.heap.size w w' ∧ Box3 w' w.heap.size (.bool ab) (.slice ap an ac) (.slice aq am ae) ∧ Box3 w' (w.heap.size + 1) (.bool false) (.slice none 0 0) (.slice none 0 0))
  ⟨(((Below.refl _ _).alloc (Nat.le_refl _) _).alloc (by simp <;> omega) _), ((Box3.new _ _ _ _ rfl).alloc _), (Box3.new _ _ _ _ (by simp <;> omega))⟩ ?_
 rintro w0 ⟨bb, Xa, X2⟩
 replace Ra := Ra.out.below bb
 replace bb := Lib.hid bb; replace Xa := Lib.hid Xa; replace X2 := Lib.hid X2; replace Ra := Lib.hid Ra
 have p00 := Xa.out.c0; have p01 := Xa.out.c1; have p02 := Xa.out.c2
 go_wp2_with fail
 clear p00 p01 p02
 refine (neg4_any ab ap aq an ac am ae P Q _ Ra.out la.out).mono ?_
 rintro e v1 ⟨db, dp, dn, dc, dq, dm, de, rfl, D, hb⟩
 replace bb := Lib.hid (below_then bb.out (Nat.le_refl _) hb); replace Xa := Lib.hid (Xa.out.later hb); replace X2 := Lib.hid (X2.out.later hb); replace Ra := Lib.hid (Ra.out.below hb)
 replace D := Lib.hid D
 clear hb
 go_wp2_with fail
 refine (rFloor_any db dp dq dn dc dm de (-P) Q _ D.out la.out.neg).mono ?_
 rintro e v2 ⟨fb, fp, fn, fc, fq, fm, fe, rfl, G, hb⟩
 replace bb := Lib.hid (below_then bb.out (Nat.le_refl _) hb); replace Xa := Lib.hid (Xa.out.later hb); replace X2 := Lib.hid (X2.out.later hb); replace Ra := Lib.hid (Ra.out.below hb); replace D := Lib.hid (D.out.below hb)
 replace G := Lib.hid G
 clear hb
 have hlg := Lib.hid (low_one (Nat.lt_of_le_of_lt (fdiv_abs (-P) la.out.1) la.out.neg.abs_lt))
 go_wp2_with fail
 refine (neg4_any fb fp fq fn fc fm fe ((-P).fdiv Q) 1 _ G.out hlg.out).mono ?_
 rintro e v3 ⟨hb, hp, hn, hc, hq, hm, he, rfl, H, hb⟩
 replace bb := Lib.hid (below_then bb.out (Nat.le_refl _) hb); replace Xa := Lib.hid (Xa.out.later hb); replace X2 := Lib.hid (X2.out.later hb); replace Ra := Lib.hid (Ra.out.below hb); replace D := Lib.hid (D.out.below hb); replace G := Lib.hid (G.out.below hb)
 replace H := Lib.hid H
 clear hb
 replace X2 := X2.out
 replace bb := bb.out
 have q0 := X2.c0; have q1 := X2.c1; have q2 := X2.c2; have q3 := X2.fr 0; have q4 := X2.fr 1; have q5 := X2.fr 2
 have zz := X2.set (.bool hb) (.slice hp hn hc) (.slice hq hm he)
 have e0 := zz.c0; have e1 := zz.c1; have e2 := zz.c2
 have Y2 := Lib.hid X2; have bb' := Lib.hid bb
 clear zz X2 bb
 go_wp2_with fail
 refine bodyPost_ret (v := .tuple #[.agg #[.bool hb, .slice hp hn hc, .slice hq hm he], .int .i64 (0)]) (by simp [results, Tryz.results18, go_sem, e0, e1, e2]) rfl ?_
 exact (ResPost.stored H.out Y2.out bb'.out (by omega))
theorem num10_abs (ab : Bool) (ap aq : Option Addr) (an ac am ae : Nat) (P : Int) (Q : Nat) (w : World) (Ra : Rt w ab ap an ac aq am ae P Q) (la : Low P Q) :
  Calls Tryz.prog 18 #[.int .i64 124, .agg #[.bool ab, .slice ap an ac, .slice aq am ae]] w (ResPost (P.natAbs : Int) Q 0 w) := by
 replace Ra := Lib.hid Ra; replace la := Lib.hid la
 go_enter Tryz.func18, Tryz.ntmps18
 go_upto_region 1 with fail
 refine gen_wp (fun w' => Below w.heap.size w w' ∧ Box3 w' w.heap.size (.bool ab) (.slice ap an ac) (.slice aq am ae) ∧ Box3 w' (w.heap.size + 1) (.bool false) (.slice none 0 0) (.slice none 0 0))
  ⟨(((Below.refl _ _).alloc (Nat.le_refl _) _).alloc (by simp <;> omega) _), ((Box3.new _ _ _ _ rfl).alloc _), (Box3.new _ _ _ _ (by simp <;> omega))⟩ ?_
 rintro w0 ⟨bb, Xa, X2⟩
 replace Ra := Ra.out.below bb
 replace bb := Lib.hid bb; replace Xa := Lib.hid Xa; replace X2 := Lib.hid X2; replace Ra := Lib.hid Ra
 have hng := Ra.out.top.neg
 by_cases hP : P < 0
 ·have hab : ab = true := by rw [hng]; exact decide_eq_true hP
  have eP : -P = (P.natAbs : Int) := by omega
  subst hab
  replace eP := Lib.hid eP
  clear hng hP
  have g0 := Xa.out.c0; have g1 := Xa.out.c1; have g2 := Xa.out.c2
  go_wp2_with fail
  clear g0 g1 g2
  refine (neg4_any true ap aq an ac am ae P Q _ Ra.out la.out).mono ?_
  rintro e v1 ⟨db, dp, dn, dc, dq, dm, de, rfl, D, hb⟩
  replace bb := Lib.hid (below_then bb.out (Nat.le_refl _) hb); replace Xa := Lib.hid (Xa.out.later hb); replace X2 := Lib.hid (X2.out.later hb); replace Ra := Lib.hid (Ra.out.below hb)
  replace D := Lib.hid D
  clear hb
  replace X2 := X2.out
  replace bb := bb.out
  have q0 := X2.c0; have q1 := X2.c1; have q2 := X2.c2; have q3 := X2.fr 0; have q4 := X2.fr 1; have q5 := X2.fr 2
  have zz := X2.set (.bool db) (.slice dp dn dc) (.slice dq dm de)
  have e0 := zz.c0; have e1 := zz.c1; have e2 := zz.c2
  have Y2 := Lib.hid X2; have bb' := Lib.hid bb
  clear zz X2 bb
  go_wp2_with fail
  refine bodyPost_ret (v := .tuple #[.agg #[.bool db, .slice dp dn dc, .slice dq dm de], .int .i64 (0)]) (by simp [results, Tryz.results18, go_sem, e0, e1, e2]) rfl ?_
  exact (by rw [← eP.out]; exact (ResPost.stored D.out Y2.out bb'.out (by omega)))
 ·have hab : ab = false := by rw [hng]; exact decide_eq_false hP
  have eP : P = (P.natAbs : Int) := by omega
  subst hab
  replace eP := Lib.hid eP
  clear hng hP
  have g0 := Xa.out.c0; have g1 := Xa.out.c1; have g2 := Xa.out.c2
  replace X2 := X2.out
  replace bb := bb.out
  have q0 := X2.c0; have q1 := X2.c1; have q2 := X2.c2; have q3 := X2.fr 0; have q4 := X2.fr 1; have q5 := X2.fr 2
  have zz := X2.set (.bool false) (.slice ap an ac) (.slice aq am ae)
  have e0 := zz.c0; have e1 := zz.c1; have e2 := zz.c2
  have Y2 := Lib.hid X2; have bb' := Lib.hid bb
  clear zz X2 bb
  go_wp2_with fail
  refine bodyPost_ret (v := .tuple #[.agg #[.bool false, .slice ap an ac, .slice aq am ae], .int .i64 (0)]) (by simp [results, Tryz.results18, go_sem, e0, e1, e2]) rfl ?_
  exact (by rw [← eP.out]; exact (ResPost.stored Ra.out Y2.out bb'.out (by omega)))
theorem num10_times (ab : Bool) (ap aq : Option Addr) (an ac am ae : Nat) (P : Int) (Q : Nat) (w : World) (Ra : Rt w ab ap an ac aq am ae P Q) (la : Low P Q) :
  Calls Tryz.prog 18 #[.int .i64 215, .agg #[.bool ab, .slice ap an ac, .slice aq am ae]] w (ResPost (cmpI P 0) 1 0 w) := by
 replace Ra := Lib.hid Ra; replace la := Lib.hid la
 go_enter Tryz.func18, Tryz.ntmps18
 go_upto_region 1 with fail
 refine gen_wp (fun w' => Below w.heap.size w w' ∧ Box3 w' w.heap.size (.bool ab) (.slice ap an ac) (.slice aq am ae) ∧ Box3 w' (w.heap.size + 1) (.bool false) (.slice none 0 0) (.slice none 0 0))
  ⟨(((Below.refl _ _).alloc (Nat.le_refl _) _).alloc (by simp <;> omega) _), ((Box3.new _ _ _ _ rfl).alloc _), (Box3.new _ _ _ _ (by simp <;> omega))⟩ ?_
 rintro w0 ⟨bb, Xa, X2⟩
 replace Ra := Ra.out.below bb
 replace bb := Lib.hid bb; replace Xa := Lib.hid Xa; replace X2 := Lib.hid X2; replace Ra := Lib.hid Ra
 have hcs := Lib.hid (cmpI_small P 0)
 go_upto_region 7 with fail
 replace bb := bb.out; replace Xa := Xa.out; replace X2 := X2.out; replace Ra := Ra.out
 have bb := bb.drew; have Xa := Xa.drew; have X2 := X2.drew; have Ra := Ra.drew
 have sa0 := True.intro
 go_region_held3 (fun w' => w'.cell? ⟨w.heap.size, 0, none⟩ = some (.bool ab) ∧ w'.cell? ⟨w.heap.size, 1, none⟩ = some (.slice ap an ac) ∧ w'.cell? ⟨w.heap.size, 2, none⟩ = some (.slice aq am ae))
  (first | with_reducible exact ⟨Xa.c0, Xa.c1, Xa.c2⟩ | with_reducible exact ⟨(Xa.other3 (by omega) _ _ _).c0, (Xa.other3 (by omega) _ _ _).c1, (Xa.other3 (by omega) _ _ _).c2⟩ | go_keep)
  (first
  | (go_at_call 47; clear sa0; refine (of4_any 0 _ (by decide) (by decide)).mono ?_; rintro e w' ⟨ob, op, on, oc, oq, om, oe, rfl, O, hb⟩; have bb := below_then bb (Nat.le_refl _) hb; have Xa := Xa.later hb; have X2 := X2.later hb; have Ra := Ra.below hb; clear hb; have sa1 := True.intro)
  | (go_at_call 59; clear sa1; refine (rCmp4_any ab ap aq an ac am ae P Q ob op oq on oc om oe 0 1 _ Ra la.out O (low_one (Nat.lt_of_lt_of_le (show (0 : Int).natAbs < pw 1 by decide) (pw_le (by omega))))).mono ?_; rintro e w' ⟨rfl, hb⟩; have bb := below_then bb (Nat.le_refl _) hb; have Xa := Xa.later hb; have X2 := X2.later hb; have Ra := Ra.below hb; have O := O.below hb; clear hb; have sa2 := True.intro)
  | (go_at_call 47; clear sa2; refine (of4_any _ _ (by have := hcs.out; omega) (by have := hcs.out; omega)).mono ?_; rintro e w' ⟨db, dp, dn, dc, dq, dm, de, rfl, D, hb⟩; have bb := below_then bb (Nat.le_refl _) hb; have Xa := Xa.later hb; have X2 := X2.later hb; have Ra := Ra.below hb; have O := O.below hb; clear hb; have q0 := X2.c0; have q1 := X2.c1; have q2 := X2.c2; have q3 := X2.fr 0; have q4 := X2.fr 1; have q5 := X2.fr 2; have sa3 := True.intro))
 have zz := X2.set (.bool db) (.slice dp dn dc) (.slice dq dm de)
 have e0 := zz.c0; have e1 := zz.c1; have e2 := zz.c2
 have Y2 := Lib.hid X2; have bb' := Lib.hid bb
 clear zz X2 bb
 go_wp2_with fail
 refine bodyPost_ret (v := .tuple #[.agg #[.bool db, .slice dp dn dc, .slice dq dm de], .int .i64 (0)]) (by simp [results, Tryz.results18, go_sem, e0, e1, e2]) rfl ?_
 exact (ResPost.stored D Y2.out bb'.out (by omega))
theorem num10_div (ab : Bool) (ap aq : Option Addr) (an ac am ae : Nat) (P : Int) (Q : Nat) (w : World) (Ra : Rt w ab ap an ac aq am ae P Q) (la : Low P Q) :
  Calls Tryz.prog 18 #[.int .i64 247, .agg #[.bool ab, .slice ap an ac, .slice aq am ae]] w (ResPost (mkT ((1 : Int) * Q) (((1 : Nat) : Int) * P)) (mkB ((1 : Int) * Q) (((1 : Nat) : Int) * P)) (mkE ((1 : Int) * Q) (((1 : Nat) : Int) * P)) w) := by
 replace Ra := Lib.hid Ra; replace la := Lib.hid la
 go_enter Tryz.func18, Tryz.ntmps18
 go_upto_region 1 with fail
 refine gen_wp (fun w' => Below w.heap.size w w' ∧ Box3 w' w.heap.size (.bool ab) (.slice ap an ac) (.slice aq am ae) ∧ Box3 w' (w.heap.size + 1) (.bool false) (.slice none 0 0) (.slice none 0 0))
  ⟨(((Below.refl _ _).alloc (Nat.le_refl _) _).alloc (by simp <;> omega) _), ((Box3.new _ _ _ _ rfl).alloc _), (Box3.new _ _ _ _ (by simp <;> omega))⟩ ?_
 rintro w0 ⟨bb, Xa, X2⟩
 replace Ra := Ra.out.below bb
 replace bb := Lib.hid bb; replace Xa := Lib.hid Xa; replace X2 := Lib.hid X2; replace Ra := Lib.hid Ra
 go_upto_region 9 with fail
 replace bb := bb.out; replace Xa := Xa.out; replace X2 := X2.out; replace Ra := Ra.out
 have bb := bb.drew; have Xa := Xa.drew; have X2 := X2.drew; have Ra := Ra.drew
 have sb0 := True.intro
 go_region_held3 (fun w' => w'.cell? ⟨w.heap.size, 0, none⟩ = some (.bool ab) ∧ w'.cell? ⟨w.heap.size, 1, none⟩ = some (.slice ap an ac) ∧ w'.cell? ⟨w.heap.size, 2, none⟩ = some (.slice aq am ae))
  (first | with_reducible exact ⟨Xa.c0, Xa.c1, Xa.c2⟩ | with_reducible exact ⟨(Xa.other3 (by omega) _ _ _).c0, (Xa.other3 (by omega) _ _ _).c1, (Xa.other3 (by omega) _ _ _).c2⟩ | go_keep)
  (first
  | (go_at_call 47; clear sb0; refine (of4_any 1 _ (by decide) (by decide)).mono ?_; rintro e w' ⟨ob, op, on, oc, oq, om, oe, rfl, O, hb⟩; have bb := below_then bb (Nat.le_refl _) hb; have Xa := Xa.later hb; have X2 := X2.later hb; have Ra := Ra.below hb; clear hb; have sb1 := True.intro)
  | (go_at_call 60; clear sb1; refine (rDiv4_any ob op oq on oc om oe 1 1 ab ap aq an ac am ae P Q _ O (low_one (Nat.lt_of_lt_of_le (show (1 : Int).natAbs < pw 1 by decide) (pw_le (by omega)))) Ra la.out).mono ?_; rintro e w' ⟨db, dp, dn, dc, dq, dm, de, rfl, D, hb⟩; have bb := below_then bb (Nat.le_refl _) hb; have Xa := Xa.later hb; have X2 := X2.later hb; have Ra := Ra.below hb; have O := O.below hb; clear hb; have q0 := X2.c0; have q1 := X2.c1; have q2 := X2.c2; have q3 := X2.fr 0; have q4 := X2.fr 1; have q5 := X2.fr 2; have sb2 := True.intro))
 have zz := X2.set (.bool db) (.slice dp dn dc) (.slice dq dm de)
 have e0 := zz.c0; have e1 := zz.c1; have e2 := zz.c2
 have Y2 := Lib.hid X2; have bb' := Lib.hid bb
 clear zz X2 bb
 go_wp2_with fail
 refine bodyPost_ret (v := .tuple #[.agg #[.bool db, .slice dp dn dc, .slice dq dm de], .int .i64 (mkE ((1 : Int) * Q) (((1 : Nat) : Int) * P))]) (by simp [results, Tryz.results18, go_sem, e0, e1, e2]) rfl ?_
 exact (ResPost.stored D Y2.out bb'.out (by omega))
theorem num10_not (ab : Bool) (ap aq : Option Addr) (an ac am ae : Nat) (P : Int) (Q : Nat) (w : World) (Ra : Rt w ab ap an ac aq am ae P Q) (la : Low P Q) :
  Calls Tryz.prog 18 #[.int .i64 126, .agg #[.bool ab, .slice ap an ac, .slice aq am ae]] w (NumRes (notR P Q) w) := by
 replace Ra := Lib.hid Ra; replace la := Lib.hid la
 go_enter Tryz.func18, Tryz.ntmps18
 go_upto_region 1 with fail
 refine gen_wp (fun w' => Below w.heap.size w w' ∧ Box3 w' w.heap.size (.bool ab) (.slice ap an ac) (.slice aq am ae) ∧ Box3 w' (w.heap.size + 1) (.bool false) (.slice none 0 0) (.slice none 0 0))
  ⟨(((Below.refl _ _).alloc (Nat.le_refl _) _).alloc (by simp <;> omega) _), ((Box3.new _ _ _ _ rfl).alloc _), (Box3.new _ _ _ _ (by simp <;> omega))⟩ ?_
 rintro w0 ⟨bb, Xa, X2⟩
 replace Ra := Ra.out.below bb
 replace bb := Lib.hid bb; replace Xa := Lib.hid Xa; replace X2 := Lib.hid X2; replace Ra := Lib.hid Ra
 by_cases hP : P = 0 ∧ Q = 1
 ·have hP' := Lib.hid hP
  clear hP
  go_upto_region 19 with fail
  replace bb := bb.out; replace Xa := Xa.out; replace X2 := X2.out; replace Ra := Ra.out
  have bb := bb.drew; have Xa := Xa.drew; have X2 := X2.drew; have Ra := Ra.drew
  have sc0 := True.intro
  go_region_held3 (fun w' => w'.cell? ⟨w.heap.size, 0, none⟩ = some (.bool ab) ∧ w'.cell? ⟨w.heap.size, 1, none⟩ = some (.slice ap an ac) ∧ w'.cell? ⟨w.heap.size, 2, none⟩ = some (.slice aq am ae))
   (first | with_reducible exact ⟨Xa.c0, Xa.c1, Xa.c2⟩ | with_reducible exact ⟨(Xa.other3 (by omega) _ _ _).c0, (Xa.other3 (by omega) _ _ _).c1, (Xa.other3 (by omega) _ _ _).c2⟩ | go_keep)
   (first
   | (go_at_call 47; clear sc0; refine (of4_any 0 _ (by decide) (by decide)).mono ?_; rintro e w' ⟨ob, op, on, oc, oq, om, oe, rfl, O, hb⟩; have bb := below_then bb (Nat.le_refl _) hb; have Xa := Xa.later hb; have X2 := X2.later hb; have Ra := Ra.below hb; clear hb; have sc1 := True.intro)
   | (go_at_call 21; clear sc1; refine (same4_iff ab ap aq an ac am ae P Q ob op oq on oc om oe 0 1 _ Ra O true (decide_eq_true hP'.out).symm).mono ?_; rintro e w' ⟨rfl, hb⟩; have bb := below_then bb (Nat.le_refl _) hb; have Xa := Xa.later hb; have X2 := X2.later hb; have Ra := Ra.below hb; have O := O.below hb; clear hb; have sc2 := True.intro))
  replace bb := Lib.hid bb; replace Xa := Lib.hid Xa; replace X2 := Lib.hid X2; replace Ra := Lib.hid Ra
  clear O
  go_wp2_with fail
  refine (of4_any 1 _ (by decide) (by decide)).mono ?_
  rintro e v1 ⟨db, dp, dn, dc, dq, dm, de, rfl, D, hb⟩
  replace bb := Lib.hid (below_then bb.out (Nat.le_refl _) hb); replace Xa := Lib.hid (Xa.out.later hb); replace X2 := Lib.hid (X2.out.later hb); replace Ra := Lib.hid (Ra.out.below hb)
  replace D := Lib.hid D
  clear hb
  replace X2 := X2.out
  replace bb := bb.out
  have q0 := X2.c0; have q1 := X2.c1; have q2 := X2.c2; have q3 := X2.fr 0; have q4 := X2.fr 1; have q5 := X2.fr 2
  have zz := X2.set (.bool db) (.slice dp dn dc) (.slice dq dm de)
  have e0 := zz.c0; have e1 := zz.c1; have e2 := zz.c2
  have Y2 := Lib.hid X2; have bb' := Lib.hid bb
  clear zz X2 bb
  go_wp2_with fail
  refine bodyPost_ret (v := .tuple #[.agg #[.bool db, .slice dp dn dc, .slice dq dm de], .int .i64 (0)]) (by simp [results, Tryz.results18, go_sem, e0, e1, e2]) rfl ?_
  exact (notR_zero hP'.out.1 (ResPost.stored D.out Y2.out bb'.out (by omega)))
 ·have hPn := Lib.hid hP
  have hP0 := Lib.hid (show P ≠ 0 from fun e => hP ⟨e, by subst e; exact low_zero la.out⟩)
  clear hP
  go_upto_region 19 with fail
  replace bb := bb.out; replace Xa := Xa.out; replace X2 := X2.out; replace Ra := Ra.out
  have bb := bb.drew; have Xa := Xa.drew; have X2 := X2.drew; have Ra := Ra.drew
  have sd0 := True.intro
  go_region_held3 (fun w' => w'.cell? ⟨w.heap.size, 0, none⟩ = some (.bool ab) ∧ w'.cell? ⟨w.heap.size, 1, none⟩ = some (.slice ap an ac) ∧ w'.cell? ⟨w.heap.size, 2, none⟩ = some (.slice aq am ae))
   (first | with_reducible exact ⟨Xa.c0, Xa.c1, Xa.c2⟩ | with_reducible exact ⟨(Xa.other3 (by omega) _ _ _).c0, (Xa.other3 (by omega) _ _ _).c1, (Xa.other3 (by omega) _ _ _).c2⟩ | go_keep)
   (first
   | (go_at_call 47; clear sd0; refine (of4_any 0 _ (by decide) (by decide)).mono ?_; rintro e w' ⟨ob, op, on, oc, oq, om, oe, rfl, O, hb⟩; have bb := below_then bb (Nat.le_refl _) hb; have Xa := Xa.later hb; have X2 := X2.later hb; have Ra := Ra.below hb; clear hb; have sd1 := True.intro)
   | (go_at_call 21; clear sd1; refine (same4_iff ab ap aq an ac am ae P Q ob op oq on oc om oe 0 1 _ Ra O false (decide_eq_false hPn.out).symm).mono ?_; rintro e w' ⟨rfl, hb⟩; have bb := below_then bb (Nat.le_refl _) hb; have Xa := Xa.later hb; have X2 := X2.later hb; have Ra := Ra.below hb; have O := O.below hb; clear hb; have sd2 := True.intro))
  replace bb := Lib.hid bb; replace Xa := Lib.hid Xa; replace X2 := Lib.hid X2; replace Ra := Lib.hid Ra
  clear O
  by_cases hP : P = 1 ∧ Q = 1
  ·have hP' := Lib.hid hP
   clear hP
   go_upto_region 21 with fail
   replace bb := bb.out; replace Xa := Xa.out; replace X2 := X2.out; replace Ra := Ra.out
   have bb := bb.drew; have Xa := Xa.drew; have X2 := X2.drew; have Ra := Ra.drew
   have se0 := True.intro
   go_region_held3 (fun w' => w'.cell? ⟨w.heap.size, 0, none⟩ = some (.bool ab) ∧ w'.cell? ⟨w.heap.size, 1, none⟩ = some (.slice ap an ac) ∧ w'.cell? ⟨w.heap.size, 2, none⟩ = some (.slice aq am ae))
    (first | with_reducible exact ⟨Xa.c0, Xa.c1, Xa.c2⟩ | with_reducible exact ⟨(Xa.other3 (by omega) _ _ _).c0, (Xa.other3 (by omega) _ _ _).c1, (Xa.other3 (by omega) _ _ _).c2⟩ | go_keep)
    (first
    | (go_at_call 47; clear se0; refine (of4_any 1 _ (by decide) (by decide)).mono ?_; rintro e w' ⟨ob, op, on, oc, oq, om, oe, rfl, O, hb⟩; have bb := below_then bb (Nat.le_refl _) hb; have Xa := Xa.later hb; have X2 := X2.later hb; have Ra := Ra.below hb; clear hb; have se1 := True.intro)
    | (go_at_call 21; clear se1; refine (same4_iff ab ap aq an ac am ae P Q ob op oq on oc om oe 1 1 _ Ra O true (decide_eq_true hP'.out).symm).mono ?_; rintro e w' ⟨rfl, hb⟩; have bb := below_then bb (Nat.le_refl _) hb; have Xa := Xa.later hb; have X2 := X2.later hb; have Ra := Ra.below hb; have O := O.below hb; clear hb; have se2 := True.intro))
   replace bb := Lib.hid bb; replace Xa := Lib.hid Xa; replace X2 := Lib.hid X2; replace Ra := Lib.hid Ra
   clear O
   go_wp2_with fail
   refine (of4_any 0 _ (by decide) (by decide)).mono ?_
   rintro e v1 ⟨db, dp, dn, dc, dq, dm, de, rfl, D, hb⟩
   replace bb := Lib.hid (below_then bb.out (Nat.le_refl _) hb); replace Xa := Lib.hid (Xa.out.later hb); replace X2 := Lib.hid (X2.out.later hb); replace Ra := Lib.hid (Ra.out.below hb)
   replace D := Lib.hid D
   clear hb
   replace X2 := X2.out
   replace bb := bb.out
   have q0 := X2.c0; have q1 := X2.c1; have q2 := X2.c2; have q3 := X2.fr 0; have q4 := X2.fr 1; have q5 := X2.fr 2
   have zz := X2.set (.bool db) (.slice dp dn dc) (.slice dq dm de)
   have e0 := zz.c0; have e1 := zz.c1; have e2 := zz.c2
   have Y2 := Lib.hid X2; have bb' := Lib.hid bb
   clear zz X2 bb
   go_wp2_with fail
   refine bodyPost_ret (v := .tuple #[.agg #[.bool db, .slice dp dn dc, .slice dq dm de], .int .i64 (0)]) (by simp [results, Tryz.results18, go_sem, e0, e1, e2]) rfl ?_
   exact (notR_one hP'.out (ResPost.stored D.out Y2.out bb'.out (by omega)))
  ·have hP' := Lib.hid hP
   clear hP
   go_upto_region 21 with fail
   replace bb := bb.out; replace Xa := Xa.out; replace X2 := X2.out; replace Ra := Ra.out
   have bb := bb.drew; have Xa := Xa.drew; have X2 := X2.drew; have Ra := Ra.drew
   have sf0 := True.intro
   go_region_held3 (fun w' => w'.cell? ⟨w.heap.size, 0, none⟩ = some (.bool ab) ∧ w'.cell? ⟨w.heap.size, 1, none⟩ = some (.slice ap an ac) ∧ w'.cell? ⟨w.heap.size, 2, none⟩ = some (.slice aq am ae))
    (first | with_reducible exact ⟨Xa.c0, Xa.c1, Xa.c2⟩ | with_reducible exact ⟨(Xa.other3 (by omega) _ _ _).c0, (Xa.other3 (by omega) _ _ _).c1, (Xa.other3 (by omega) _ _ _).c2⟩ | go_keep)
    (first
    | (go_at_call 47; clear sf0; refine (of4_any 1 _ (by decide) (by decide)).mono ?_; rintro e w' ⟨ob, op, on, oc, oq, om, oe, rfl, O, hb⟩; have bb := below_then bb (Nat.le_refl _) hb; have Xa := Xa.later hb; have X2 := X2.later hb; have Ra := Ra.below hb; clear hb; have sf1 := True.intro)
    | (go_at_call 21; clear sf1; refine (same4_iff ab ap aq an ac am ae P Q ob op oq on oc om oe 1 1 _ Ra O false (decide_eq_false hP'.out).symm).mono ?_; rintro e w' ⟨rfl, hb⟩; have bb := below_then bb (Nat.le_refl _) hb; have Xa := Xa.later hb; have X2 := X2.later hb; have Ra := Ra.below hb; have O := O.below hb; clear hb; have sf2 := True.intro))
   replace bb := Lib.hid bb; replace Xa := Lib.hid Xa; replace X2 := Lib.hid X2; replace Ra := Lib.hid Ra
   clear O
   replace X2 := X2.out
   replace bb := bb.out
   have q0 := X2.c0; have q1 := X2.c1; have q2 := X2.c2; have q3 := X2.fr 0; have q4 := X2.fr 1; have q5 := X2.fr 2
   have zz := X2.set (.bool false) (.slice none 0 0) (.slice none 0 0)
   have e0 := zz.c0; have e1 := zz.c1; have e2 := zz.c2
   have Y2 := Lib.hid X2; have bb' := Lib.hid bb
   clear zz X2 bb
   go_wp2_with fail
   refine bodyPost_ret (v := .tuple #[.agg #[.bool false, .slice none 0 0, .slice none 0 0], .int .i64 (3)]) (by simp [results, Tryz.results18, go_sem, e0, e1, e2]) rfl ?_
   exact (notR_no hP0.out hP'.out (ResPost.stored (rt_zero _) Y2.out bb'.out (by omega)))
theorem num10_none (f : Int) (ab : Bool) (ap aq : Option Addr) (an ac am ae : Nat) (P : Int) (Q : Nat) (w : World) (Ra : Rt w ab ap an ac aq am ae P Q) (la : Low P Q) (h43 : f ≠ 43) (h45 : f ≠ 45) (h215 : f ≠ 215) (h247 : f ≠ 247) (h8968 : f ≠ 8968) (h8970 : f ≠ 8970) (h124 : f ≠ 124) (h126 : f ≠ 126) (h33 : f ≠ 33) :
  Calls Tryz.prog 18 #[.int .i64 f, .agg #[.bool ab, .slice ap an ac, .slice aq am ae]] w (ResPost 0 0 8 w) := by
 have g43 : (f == 43) = false := by rw [beq_eq_false_iff_ne]; exact h43
 have g45 : (f == 45) = false := by rw [beq_eq_false_iff_ne]; exact h45
 have g215 : (f == 215) = false := by rw [beq_eq_false_iff_ne]; exact h215
 have g247 : (f == 247) = false := by rw [beq_eq_false_iff_ne]; exact h247
 have g8968 : (f == 8968) = false := by rw [beq_eq_false_iff_ne]; exact h8968
 have g8970 : (f == 8970) = false := by rw [beq_eq_false_iff_ne]; exact h8970
 have g124 : (f == 124) = false := by rw [beq_eq_false_iff_ne]; exact h124
 have g126 : (f == 126) = false := by rw [beq_eq_false_iff_ne]; exact h126
 have g33 : (f == 33) = false := by rw [beq_eq_false_iff_ne]; exact h33
 clear h43 h45 h215 h247 h8968 h8970 h124 h126 h33
 replace Ra := Lib.hid Ra; replace la := Lib.hid la
 go_enter Tryz.func18, Tryz.ntmps18
 go_upto_region 1 with fail
 refine gen_wp (fun w' => Below w.heap.size w w' ∧ Box3 w' w.heap.size (.bool ab) (.slice ap an ac) (.slice aq am ae) ∧ Box3 w' (w.heap.size + 1) (.bool false) (.slice none 0 0) (.slice none 0 0))
  ⟨(((Below.refl _ _).alloc (Nat.le_refl _) _).alloc (by simp <;> omega) _), ((Box3.new _ _ _ _ rfl).alloc _), (Box3.new _ _ _ _ (by simp <;> omega))⟩ ?_
 rintro w0 ⟨bb, Xa, X2⟩
 replace Ra := Ra.out.below bb
 replace bb := Lib.hid bb; replace Xa := Lib.hid Xa; replace X2 := Lib.hid X2; replace Ra := Lib.hid Ra
 replace X2 := X2.out
 replace bb := bb.out
 have q0 := X2.c0; have q1 := X2.c1; have q2 := X2.c2; have q3 := X2.fr 0; have q4 := X2.fr 1; have q5 := X2.fr 2
 have zz := X2.set (.bool false) (.slice none 0 0) (.slice none 0 0)
 have e0 := zz.c0; have e1 := zz.c1; have e2 := zz.c2
 have Y2 := Lib.hid X2; have bb' := Lib.hid bb
 clear zz X2 bb
 go_wp2_with fail
 refine bodyPost_ret (v := .tuple #[.agg #[.bool false, .slice none 0 0, .slice none 0 0], .int .i64 (8)]) (by simp [results, Tryz.results18, go_sem, e0, e1, e2]) rfl ?_
 exact (ResPost.stored (rt_zero _) Y2.out bb'.out (by omega))
end Go.Proofs.YtaepelipkkmeaaaGreat
namespace Go.Proofs.YtaepelipkkmeaaaGreat
open Go.RowKit Num
attribute [local go_sem ↓] Go.wp_at_zero Go.wp_at_succ
theorem factZ_abs : (j : Nat) → j ≤ 200 → (factZ j).natAbs < pw (j + 1)
 | 0, _ => by show (1 : Int).natAbs < pw 1; decide
 | j + 1, h => by
  have := factZ_abs j (by omega)
  show (factZ j * ((j : Int) + 1)).natAbs < 4294967296 * pw (j + 1)
  rw [Int.natAbs_mul, show ((j : Int) + 1).natAbs = j + 1 by omega, Nat.mul_comm]
  exact Nat.lt_of_le_of_lt (Nat.mul_le_mul_right _ (show j + 1 ≤ 4294967295 by omega)) (by omega)
theorem factZ_lt {j : Nat} (h : j ≤ 200) : (factZ j).natAbs < pw 201 := Nat.lt_of_lt_of_le (factZ_abs j h) (pw_le (by omega))
theorem small_of {P : Int} {Q : Nat} (hQ : Q = 1) (h0 : -9223372036854775808 ≤ P) (h1 : P ≤ 9223372036854775807) : smallR P Q = .tuple #[.int .i64 P, .bool true] := by
 have e : smallQ P Q = true := by unfold smallQ isSmall; rw [decide_eq_true hQ, Bool.true_and]; exact decide_eq_true ⟨h0, h1⟩
 unfold smallR smallP; rw [e, if_pos rfl]
theorem small_200 {n : Nat} (h : n ≤ 201) : (n : Int).natAbs < pw 201 := Nat.lt_of_lt_of_le (show (n : Int).natAbs < pw 1 by rw [Int.natAbs_natCast]; exact Nat.lt_of_le_of_lt h (by decide)) (pw_le (by omega))
theorem fact10_any (ab : Bool) (ap aq : Option Addr) (an ac am ae : Nat) (P : Int) (Q : Nat) (w : World) (Ra : Rt w ab ap an ac aq am ae P Q) (la : Low P Q) :
  Calls Tryz.prog 62 #[.agg #[.bool ab, .slice ap an ac, .slice aq am ae]] w (NumRes (factR P Q) w) := by
 replace Ra := Lib.hid Ra; replace la := Lib.hid la
 go_enter Tryz.func62, Tryz.ntmps62
 go_upto_region 1 with fail
 refine gen_wp (fun w' => Below w.heap.size w w' ∧ Box3 w' w.heap.size (.bool ab) (.slice ap an ac) (.slice aq am ae) ∧ Box3 w' (w.heap.size + 1) (.bool false) (.slice none 0 0) (.slice none 0 0))
  ⟨(((Below.refl _ _).alloc (Nat.le_refl _) _).alloc (by simp <;> omega) _), ((Box3.new _ _ _ _ rfl).alloc _), (Box3.new _ _ _ _ (by simp <;> omega))⟩ ?_
 rintro w0 ⟨bb, Xa, X2⟩
 replace Ra := Ra.out.below bb
 replace bb := Lib.hid bb; replace Xa := Lib.hid Xa; replace X2 := Lib.hid X2; replace Ra := Lib.hid Ra
 have hng := Ra.out.top.neg
 by_cases hQ : Q = 1
 ·have hQ' := Lib.hid hQ
  clear hQ
  by_cases hP : P < 0
  ·have hab : ab = true := by rw [hng]; exact decide_eq_true hP
   have hP' := Lib.hid hP
   clear hP hng
   subst hab
   have p00 := Xa.out.c0; have p01 := Xa.out.c1; have p02 := Xa.out.c2
   go_wp2_with fail
   clear p00 p01 p02
   refine ((isWhole_any true ap aq an ac am ae P Q _ Ra.out).mono fun _ _ h => (show Says (.bool true) _ _ _ by rw [decide_eq_true hQ'.out] at h; exact h)).mono ?_
   rintro e v1 ⟨rfl, hb⟩
   replace bb := Lib.hid (below_then bb.out (Nat.le_refl _) hb); replace Xa := Lib.hid (Xa.out.later hb); replace X2 := Lib.hid (X2.out.later hb); replace Ra := Lib.hid (Ra.out.below hb)
   clear hb
   have p00 := Xa.out.c0; have p01 := Xa.out.c1; have p02 := Xa.out.c2
   replace X2 := X2.out
   replace bb := bb.out
   have q0 := X2.c0; have q1 := X2.c1; have q2 := X2.c2; have q3 := X2.fr 0; have q4 := X2.fr 1; have q5 := X2.fr 2
   have zz := X2.set (.bool false) (.slice none 0 0) (.slice none 0 0)
   have e0 := zz.c0; have e1 := zz.c1; have e2 := zz.c2
   have Y2 := Lib.hid X2; have bb' := Lib.hid bb
   clear zz X2 bb
   go_wp2_with fail
   refine bodyPost_ret (v := .tuple #[.agg #[.bool false, .slice none 0 0, .slice none 0 0], .int .i64 (3)]) (by simp [results, Tryz.results62, go_sem, e0, e1, e2]) rfl ?_
   exact NumRes.of (ResPost.stored (rt_zero _) Y2.out bb'.out (by omega)) (if_neg (fun e => absurd e.2 (Int.not_le.2 hP'.out)))
  ·have hab : ab = false := by rw [hng]; exact decide_eq_false hP
   have hP0 : 0 ≤ P := by omega
   clear hP hng
   subst hab
   have p00 := Xa.out.c0; have p01 := Xa.out.c1; have p02 := Xa.out.c2
   go_wp2_with fail
   clear p00 p01 p02
   refine ((isWhole_any false ap aq an ac am ae P Q _ Ra.out).mono fun _ _ h => (show Says (.bool true) _ _ _ by rw [decide_eq_true hQ'.out] at h; exact h)).mono ?_
   rintro e v1 ⟨rfl, hb⟩
   replace bb := Lib.hid (below_then bb.out (Nat.le_refl _) hb); replace Xa := Lib.hid (Xa.out.later hb); replace X2 := Lib.hid (X2.out.later hb); replace Ra := Lib.hid (Ra.out.below hb)
   clear hb
   have p00 := Xa.out.c0; have p01 := Xa.out.c1; have p02 := Xa.out.c2
   by_cases h200 : P ≤ 200
   ·have hP0' := Lib.hid hP0
    obtain ⟨c, hc, hcd⟩ : ∃ c, c = cmpI (P * ((1 : Nat) : Int)) (200 * (Q : Int)) ∧ decide ((0 : Int) < c) = false := ⟨_, rfl, decide_eq_false (by rw [hQ'.out]; unfold cmpI; split <;> (try split) <;> omega)⟩
    replace hc := Lib.hid hc
    go_upto_region 3 with fail
    clear p00 p01 p02
    replace bb := bb.out; replace Xa := Xa.out; replace X2 := X2.out; replace Ra := Ra.out
    have bb := bb.drew; have Xa := Xa.drew; have X2 := X2.drew; have Ra := Ra.drew
    have sa0 := True.intro
    go_region_held3 (fun w' => w'.cell? ⟨w.heap.size, 0, none⟩ = some (.bool false) ∧ w'.cell? ⟨w.heap.size, 1, none⟩ = some (.slice ap an ac) ∧ w'.cell? ⟨w.heap.size, 2, none⟩ = some (.slice aq am ae))
     (first | with_reducible exact ⟨Xa.c0, Xa.c1, Xa.c2⟩ | with_reducible exact ⟨(Xa.other3 (by omega) _ _ _).c0, (Xa.other3 (by omega) _ _ _).c1, (Xa.other3 (by omega) _ _ _).c2⟩ | go_keep)
     (first
     | (go_at_call 47; clear sa0; refine (of4_any 200 _ (by decide) (by decide)).mono ?_; rintro e w' ⟨ob, op, on, oc, oq, om, oe, rfl, O, hb⟩; have bb := below_then bb (Nat.le_refl _) hb; have Xa := Xa.later hb; have X2 := X2.later hb; have Ra := Ra.below hb; clear hb; have sa1 := True.intro)
     | (go_at_call 59; clear sa1; refine ((rCmp4_any false ap aq an ac am ae P Q ob op oq on oc om oe 200 1 _ Ra la.out O (low_one (Nat.lt_of_lt_of_le (show (200 : Int).natAbs < pw 1 by decide) (pw_le (by omega))))).mono fun _ _ h => (show Says (.int .i64 c) _ _ _ by rw [hc.out]; exact h)).mono ?_; rintro e w' ⟨rfl, hb⟩; have bb := below_then bb (Nat.le_refl _) hb; have Xa := Xa.later hb; have X2 := X2.later hb; have Ra := Ra.below hb; have O := O.below hb; clear hb; have sa2 := True.intro))
    replace bb := Lib.hid bb; replace Xa := Lib.hid Xa; replace X2 := Lib.hid X2; replace Ra := Lib.hid Ra
    clear O
    have p00 := Xa.out.c0; have p01 := Xa.out.c1; have p02 := Xa.out.c2
    go_wp2_with fail
    clear p00 p01 p02
    refine ((small4_any false ap aq an ac am ae P Q _ Ra.out la.out).mono fun _ _ h => (show Says (.tuple #[.int .i64 P, .bool true]) _ _ _ by rw [small_of hQ'.out (by omega) (by omega)] at h; exact h)).mono ?_
    rintro e v2 ⟨rfl, hb⟩
    replace bb := Lib.hid (below_then bb.out (Nat.le_refl _) hb); replace Xa := Lib.hid (Xa.out.later hb); replace X2 := Lib.hid (X2.out.later hb); replace Ra := Lib.hid (Ra.out.below hb)
    clear hb
    go_wp2_with fail
    refine (rOf_any 1 _ (by decide) (by decide)).mono ?_
    rintro e v3 ⟨tb, to_, tn, tc, rfl, T, hb⟩
    replace bb := Lib.hid (below_then bb.out (Nat.le_refl _) hb); replace Xa := Lib.hid (Xa.out.later hb); replace X2 := Lib.hid (X2.out.later hb); replace Ra := Lib.hid (Ra.out.below hb)
    have hgt := X2.out.lt
    replace T := Lib.hid T
    clear hb
    go_upto_region 7 with fail
    refine gen_wp (fun w' => Below w.heap.size w w' ∧ Box3 w' w.heap.size (.bool false) (.slice ap an ac) (.slice aq am ae) ∧ Box3 w' (w.heap.size + 1) (.bool false) (.slice none 0 0) (.slice none 0 0) ∧ Box w' v3.heap.size (.bool tb) (.slice to_ tn tc) ∧ Rt w' false ap an ac aq am ae P Q ∧ Right w' tb to_ tn tc 1)
     ⟨bb.out.alloc bb.out.size _, Xa.out.alloc _, X2.out.alloc _, Box.new _ _ _ rfl, Ra.out.alloc _, T.out.alloc _⟩ ?_
    clear bb Xa X2 Ra T
    rintro x3 ⟨bb, Xa, X2, XB, Ra, T⟩
    replace bb := Lib.hid bb; replace Xa := Lib.hid Xa; replace X2 := Lib.hid X2; replace XB := Lib.hid XB; replace Ra := Lib.hid Ra; replace T := Lib.hid T
    clear Ra Xa
    go_wp2_with fail
    go_loopw [7] (fun v wr => ∃ (j : Nat) (sb : Bool) (so : Option Addr) (sn sc : Nat), v = .int .i64 ((j : Int) + 1) ∧ (j : Int) ≤ P ∧ Box wr v3.heap.size (.bool sb) (.slice so sn sc) ∧ Right wr sb so sn sc (factZ j) ∧ Box3 wr (w.heap.size + 1) (.bool false) (.slice none 0 0) (.slice none 0 0) ∧ Below w.heap.size w wr) (fun v _ => 201 - (intOf v).toNat)
    case atStart => exact ⟨0, _, _, _, _, rfl, by simpa using hP0, XB.out, T.out, X2.out, bb.out⟩
    case round =>
     clear XB T X2 bb
     obtain ⟨j, sb, so, sn, sc, rfl, hj, XB, T, X2, bb⟩ := hrel
     have lt1 := Lib.hid (factZ_lt (j := j) (by omega))
     by_cases hl : (j : Int) + 1 ≤ P
     ·have lt2 := Lib.hid (small_200 (n := j + 1) (by omega))
      go_upto_region 10 with fail
      have XB := XB.drew; have T := T.drew; have X2 := X2.drew; have bb := bb.drew
      have p0 := XB.c0; have p1 := XB.c1
      have s0 := True.intro
      go_region_with (first
       | (go_at_call 97; clear s0; refine (rOf_any ((j : Int) + 1) _ (by omega) (by omega)).mono ?_; rintro e w' ⟨ub, uo, un, uc, rfl, U, hb⟩; have bb := below_then bb (Nat.le_refl _) hb; have XB := XB.later hb; have X2 := X2.later hb; have T := T.below hb; clear hb; have p0 := XB.c0; have p1 := XB.c1)
       | (go_at_call 120; refine (rMul_any sb ub so uo sn sc un uc (factZ j) ((j : Int) + 1) _ (T.whole lt1.out (by omega)) (U.whole lt2.out (by omega)) 201 (by omega) lt1.out lt2.out).mono ?_; rintro e w' ⟨mb, mo, mn, mc, rfl, M, hb⟩; have bb := below_then bb (Nat.le_refl _) hb; have XB := XB.later hb; have X2 := X2.later hb; clear hb; have q0 := XB.c0; have q1 := XB.c1; have q2 := XB.fr 0; have q3 := XB.fr 1))
      all_goals
       have bw := Lib.hid (below_set bb (show w.heap.size ≤ v3.heap.size by omega) (.bool mb) (.slice mo mn mc))
       have z2 := Lib.hid (X2.other (show w.heap.size + 1 ≠ v3.heap.size by omega) (.bool mb) (.slice mo mn mc))
       have zB := Lib.hid (XB.set (.bool mb) (.slice mo mn mc))
       have zM := Lib.hid (M.box XB (.bool mb) (.slice mo mn mc))
       go_wp2_with fail
       go_roundw
       case rel => exact ⟨j + 1, _, _, _, _, by go_num, by omega, zB.out, zM.out, z2.out, bw.out⟩
       case measure => simp [intOf]; omega
     ·have ej : P.toNat = j := by omega
      have hR : Hid (factR P Q = (mkT (factZ j) 1, mkB (factZ j) 1, mkE (factZ j) 1)) := Lib.hid (by unfold factR; rw [if_pos ⟨hQ'.out, hP0⟩, if_pos h200, ej])
      have lt2 := Lib.hid (small_200 (n := 1) (by omega))
      go_upto_region 11 with fail
      have XB := XB.drew; have T := T.drew; have X2 := X2.drew; have bb := bb.drew
      have sb0 := True.intro
      go_region_held3 (fun w' => w'.cell? ⟨v3.heap.size, 0, none⟩ = some (.bool sb) ∧ w'.cell? ⟨v3.heap.size, 1, none⟩ = some (.slice so sn sc))
       (first | with_reducible exact ⟨XB.c0, XB.c1⟩ | with_reducible exact ⟨(XB.other3 (by omega) _ _ _).c0, (XB.other3 (by omega) _ _ _).c1⟩ | go_keep)
       (first
       | (go_at_call 97; clear sb0; refine (rOf_any 1 _ (by decide) (by decide)).mono ?_; rintro e w' ⟨ub, uo, un, uc, rfl, U, hb⟩; have bb := below_then bb (Nat.le_refl _) hb; have XB := XB.later hb; have X2 := X2.later hb; have T := T.below hb; clear hb; have sb1 := True.intro)
       | (go_at_call 42; clear sb1; refine (rMake_any sb ub so uo sn sc un uc (factZ j) 1 _ (T.whole lt1.out (by omega)) (U.whole lt2.out (by omega)) 201 (by omega) lt1.out lt2.out).mono ?_; rintro e w' ⟨db, dp, dn, dc, dq, dm, de, rfl, D, hb⟩; have bb := below_then bb (Nat.le_refl _) hb; have XB := XB.later hb; have X2 := X2.later hb; have T := T.below hb; have U := U.below hb; clear hb; have q0 := X2.c0; have q1 := X2.c1; have q2 := X2.c2; have q3 := X2.fr 0; have q4 := X2.fr 1; have q5 := X2.fr 2; have sb2 := True.intro))
      have zz := X2.set (.bool db) (.slice dp dn dc) (.slice dq dm de)
      have e0 := zz.c0; have e1 := zz.c1; have e2 := zz.c2
      have Y2 := Lib.hid X2; have bb' := Lib.hid bb
      clear zz X2 bb
      go_wp2_with fail
      refine bodyPost_ret (v := .tuple #[.agg #[.bool db, .slice dp dn dc, .slice dq dm de], .int .i64 (mkE (factZ j) 1)]) (by simp [results, Tryz.results62, go_sem, e0, e1, e2]) rfl ?_
      exact NumRes.of (ResPost.stored D Y2.out bb'.out (by omega)) hR.out
   ·have hP2 := Lib.hid h200
    have hc : Hid (1 = cmpI (P * ((1 : Nat) : Int)) (200 * (Q : Int))) := Lib.hid (cmpI_gt (by rw [hQ'.out]; omega)).symm
    go_upto_region 3 with fail
    clear p00 p01 p02
    replace bb := bb.out; replace Xa := Xa.out; replace X2 := X2.out; replace Ra := Ra.out
    have bb := bb.drew; have Xa := Xa.drew; have X2 := X2.drew; have Ra := Ra.drew
    have sc0 := True.intro
    go_region_held3 (fun w' => w'.cell? ⟨w.heap.size, 0, none⟩ = some (.bool false) ∧ w'.cell? ⟨w.heap.size, 1, none⟩ = some (.slice ap an ac) ∧ w'.cell? ⟨w.heap.size, 2, none⟩ = some (.slice aq am ae))
     (first | with_reducible exact ⟨Xa.c0, Xa.c1, Xa.c2⟩ | with_reducible exact ⟨(Xa.other3 (by omega) _ _ _).c0, (Xa.other3 (by omega) _ _ _).c1, (Xa.other3 (by omega) _ _ _).c2⟩ | go_keep)
     (first
     | (go_at_call 47; clear sc0; refine (of4_any 200 _ (by decide) (by decide)).mono ?_; rintro e w' ⟨ob, op, on, oc, oq, om, oe, rfl, O, hb⟩; have bb := below_then bb (Nat.le_refl _) hb; have Xa := Xa.later hb; have X2 := X2.later hb; have Ra := Ra.below hb; clear hb; have sc1 := True.intro)
     | (go_at_call 59; clear sc1; refine ((rCmp4_any false ap aq an ac am ae P Q ob op oq on oc om oe 200 1 _ Ra la.out O (low_one (Nat.lt_of_lt_of_le (show (200 : Int).natAbs < pw 1 by decide) (pw_le (by omega))))).mono fun _ _ h => (show Says (.int .i64 1) _ _ _ by rw [hc.out]; exact h)).mono ?_; rintro e w' ⟨rfl, hb⟩; have bb := below_then bb (Nat.le_refl _) hb; have Xa := Xa.later hb; have X2 := X2.later hb; have Ra := Ra.below hb; have O := O.below hb; clear hb; have sc2 := True.intro))
    replace bb := Lib.hid bb; replace Xa := Lib.hid Xa; replace X2 := Lib.hid X2; replace Ra := Lib.hid Ra
    clear O
    replace X2 := X2.out
    replace bb := bb.out
    have q0 := X2.c0; have q1 := X2.c1; have q2 := X2.c2; have q3 := X2.fr 0; have q4 := X2.fr 1; have q5 := X2.fr 2
    have zz := X2.set (.bool false) (.slice none 0 0) (.slice none 0 0)
    have e0 := zz.c0; have e1 := zz.c1; have e2 := zz.c2
    have Y2 := Lib.hid X2; have bb' := Lib.hid bb
    clear zz X2 bb
    go_wp2_with fail
    refine bodyPost_ret (v := .tuple #[.agg #[.bool false, .slice none 0 0, .slice none 0 0], .int .i64 (7)]) (by simp [results, Tryz.results62, go_sem, e0, e1, e2]) rfl ?_
    exact NumRes.of (ResPost.stored (rt_zero _) Y2.out bb'.out (by omega)) (by unfold factR; rw [if_pos ⟨hQ'.out, hP0⟩, if_neg (Int.not_le.2 hP2.out)])
 ·have hQ' := Lib.hid hQ
  clear hQ hng
  have p00 := Xa.out.c0; have p01 := Xa.out.c1; have p02 := Xa.out.c2
  go_wp2_with fail
  clear p00 p01 p02
  refine ((isWhole_any ab ap aq an ac am ae P Q _ Ra.out).mono fun _ _ h => (show Says (.bool false) _ _ _ by rw [decide_eq_false hQ'.out] at h; exact h)).mono ?_
  rintro e v1 ⟨rfl, hb⟩
  replace bb := Lib.hid (below_then bb.out (Nat.le_refl _) hb); replace Xa := Lib.hid (Xa.out.later hb); replace X2 := Lib.hid (X2.out.later hb); replace Ra := Lib.hid (Ra.out.below hb)
  clear hb
  replace X2 := X2.out
  replace bb := bb.out
  have q0 := X2.c0; have q1 := X2.c1; have q2 := X2.c2; have q3 := X2.fr 0; have q4 := X2.fr 1; have q5 := X2.fr 2
  have zz := X2.set (.bool false) (.slice none 0 0) (.slice none 0 0)
  have e0 := zz.c0; have e1 := zz.c1; have e2 := zz.c2
  have Y2 := Lib.hid X2; have bb' := Lib.hid bb
  clear zz X2 bb
  go_wp2_with fail
  refine bodyPost_ret (v := .tuple #[.agg #[.bool false, .slice none 0 0, .slice none 0 0], .int .i64 (3)]) (by simp [results, Tryz.results62, go_sem, e0, e1, e2]) rfl ?_
  exact NumRes.of (ResPost.stored (rt_zero _) Y2.out bb'.out (by omega)) (if_neg (fun e => hQ'.out e.1))
end Go.Proofs.YtaepelipkkmeaaaGreat
namespace Go.Proofs.YtaepelipkkmeaaaGreat
open Go.RowKit Num
attribute [local go_sem ↓] Go.wp_at_zero Go.wp_at_succ
theorem num10_fact (ab : Bool) (ap aq : Option Addr) (an ac am ae : Nat) (P : Int) (Q : Nat) (w : World) (Ra : Rt w ab ap an ac aq am ae P Q) (la : Low P Q) :
  Calls Tryz.prog 18 #[.int .i64 33, .agg #[.bool ab, .slice ap an ac, .slice aq am ae]] w (NumRes (factR P Q) w) := by
 replace Ra := Lib.hid Ra; replace la := Lib.hid la
 go_enter Tryz.func18, Tryz.ntmps18
 go_upto_region 1 with fail
 refine gen_wp (fun w' => Below w.heap.size w w' ∧ Box3 w' w.heap.size (.bool ab) (.slice ap an ac) (.slice aq am ae) ∧ Box3 w' (w.heap.size + 1) (.bool false) (.slice none 0 0) (.slice none 0 0))
  ⟨(((Below.refl _ _).alloc (Nat.le_refl _) _).alloc (by simp <;> omega) _), ((Box3.new _ _ _ _ rfl).alloc _), (Box3.new _ _ _ _ (by simp <;> omega))⟩ ?_
 rintro w0 ⟨bb, Xa, X2⟩
 replace Ra := Ra.out.below bb
 replace bb := Lib.hid bb; replace Xa := Lib.hid Xa; replace X2 := Lib.hid X2; replace Ra := Lib.hid Ra
 have p00 := Xa.out.c0; have p01 := Xa.out.c1; have p02 := Xa.out.c2
 go_wp2_with fail
 clear p00 p01 p02
 refine (fact10_any ab ap aq an ac am ae P Q _ Ra.out la.out).mono ?_
 rintro e v1 ⟨db, dp, dn, dc, dq, dm, de, rfl, D, hb⟩
 replace bb := Lib.hid (below_then bb.out (Nat.le_refl _) hb); replace Xa := Lib.hid (Xa.out.later hb); replace X2 := Lib.hid (X2.out.later hb); replace Ra := Lib.hid (Ra.out.below hb)
 replace D := Lib.hid D
 clear hb
 replace X2 := X2.out
 replace bb := bb.out
 have q0 := X2.c0; have q1 := X2.c1; have q2 := X2.c2; have q3 := X2.fr 0; have q4 := X2.fr 1; have q5 := X2.fr 2
 have zz := X2.set (.bool db) (.slice dp dn dc) (.slice dq dm de)
 have e0 := zz.c0; have e1 := zz.c1; have e2 := zz.c2
 have Y2 := Lib.hid X2; have bb' := Lib.hid bb
 clear zz X2 bb
 go_wp2_with fail
 refine bodyPost_ret (v := .tuple #[.agg #[.bool db, .slice dp dn dc, .slice dq dm de], .int .i64 ((factR P Q).2.2)]) (by simp [results, Tryz.results18, go_sem, e0, e1, e2]) rfl ?_
 exact (ResPost.stored D.out Y2.out bb'.out (by omega))
theorem number10_any (f : Int) (ab : Bool) (ap aq : Option Addr) (an ac am ae : Nat) (P : Int) (Q : Nat) (w : World) (Ra : Rt w ab ap an ac aq am ae P Q) (la : Low P Q) :
  Calls Tryz.prog 18 #[.int .i64 f, .agg #[.bool ab, .slice ap an ac, .slice aq am ae]] w (NumRes (numR f P Q) w) := by
 by_cases h43 : f = 43
 ·subst h43; exact (num10_plus ab ap aq an ac am ae P Q w Ra la).mono fun _ _ h => (show NumRes (numR 43 P Q) w _ _ from by rw [show numR 43 P Q = _ from (by unfold numR; rw [if_pos rfl])]; exact h)
 by_cases h45 : f = 45
 ·subst h45; exact (num10_minus ab ap aq an ac am ae P Q w Ra la).mono fun _ _ h => (show NumRes (numR 45 P Q) w _ _ from by rw [show numR 45 P Q = _ from (by unfold numR; rw [if_neg (by decide), if_pos rfl])]; exact h)
 by_cases h215 : f = 215
 ·subst h215; exact (num10_times ab ap aq an ac am ae P Q w Ra la).mono fun _ _ h => (show NumRes (numR 215 P Q) w _ _ from by rw [show numR 215 P Q = _ from (by unfold numR; rw [if_neg (by decide), if_neg (by decide), if_pos rfl])]; exact h)
 by_cases h247 : f = 247
 ·subst h247; exact (num10_div ab ap aq an ac am ae P Q w Ra la).mono fun _ _ h => (show NumRes (numR 247 P Q) w _ _ from by rw [show numR 247 P Q = _ from (by unfold numR; rw [if_neg (by decide), if_neg (by decide), if_neg (by decide), if_pos rfl])]; exact h)
 by_cases h8968 : f = 8968
 ·subst h8968; exact (num10_ceil ab ap aq an ac am ae P Q w Ra la).mono fun _ _ h => (show NumRes (numR 8968 P Q) w _ _ from by rw [show numR 8968 P Q = _ from (by unfold numR; rw [if_neg (by decide), if_neg (by decide), if_neg (by decide), if_neg (by decide), if_pos rfl])]; exact h)
 by_cases h8970 : f = 8970
 ·subst h8970; exact (num10_floor ab ap aq an ac am ae P Q w Ra la).mono fun _ _ h => (show NumRes (numR 8970 P Q) w _ _ from by rw [show numR 8970 P Q = _ from (by unfold numR; rw [if_neg (by decide), if_neg (by decide), if_neg (by decide), if_neg (by decide), if_neg (by decide), if_pos rfl])]; exact h)
 by_cases h124 : f = 124
 ·subst h124; exact (num10_abs ab ap aq an ac am ae P Q w Ra la).mono fun _ _ h => (show NumRes (numR 124 P Q) w _ _ from by rw [show numR 124 P Q = _ from (by unfold numR; rw [if_neg (by decide), if_neg (by decide), if_neg (by decide), if_neg (by decide), if_neg (by decide), if_neg (by decide), if_pos rfl])]; exact h)
 by_cases h126 : f = 126
 ·subst h126; exact (num10_not ab ap aq an ac am ae P Q w Ra la).mono fun _ _ h => (show NumRes (numR 126 P Q) w _ _ from by rw [show numR 126 P Q = _ from (by unfold numR; rw [if_neg (by decide), if_neg (by decide), if_neg (by decide), if_neg (by decide), if_neg (by decide), if_neg (by decide), if_neg (by decide), if_pos rfl])]; exact h)
 by_cases h33 : f = 33
 ·subst h33; exact (num10_fact ab ap aq an ac am ae P Q w Ra la).mono fun _ _ h => (show NumRes (numR 33 P Q) w _ _ from by rw [show numR 33 P Q = _ from (by unfold numR; rw [if_neg (by decide), if_neg (by decide), if_neg (by decide), if_neg (by decide), if_neg (by decide), if_neg (by decide), if_neg (by decide), if_neg (by decide), if_pos rfl])]; exact h)
 exact (num10_none f ab ap aq an ac am ae P Q w Ra la h43 h45 h215 h247 h8968 h8970 h124 h126 h33).mono fun _ _ h => (show NumRes (numR f P Q) w _ _ from by rw [show numR f P Q = (0, 0, 8) from by unfold numR; rw [if_neg h43, if_neg h45, if_neg h215, if_neg h247, if_neg h8968, if_neg h8970, if_neg h124, if_neg h126, if_neg h33]]; exact h)
end Go.Proofs.YtaepelipkkmeaaaGreat
namespace Go.Proofs.YtaepelipkkmeaaaGreat
open Go.RowKit
def SameZ (n m : Nat) (f g : Nat → Int) : Prop := n = m ∧ ∀ j, j < n → f j = g j
end Go.Proofs.YtaepelipkkmeaaaGreat
namespace Go.Proofs.YtaepelipkkmeaaaGreat
open Go.RowKit
theorem prodZ_mono {f : Nat → Int} {m : Nat} : ∀ n, (∀ j, j < n → 1 ≤ f j) → m ≤ n → prodZ f m ≤ prodZ f n
 | 0, _, h => by
  obtain rfl : m = 0 := by omega
  exact Int.le_refl _
 | n + 1, h, hm => by
  by_cases e : m = n + 1
  ·subst e; exact Int.le_refl _
  ·have a := prodZ_mono (m := m) n (fun j hj => h j (by omega)) (by omega)
   have p := prodZ_pos n fun j hj => h j (by omega)
   have b := h n (by omega)
   show prodZ f m ≤ prodZ f n * f n
   have := Int.mul_le_mul_of_nonneg_left b (show 0 ≤ prodZ f n by omega)
   omega
theorem prodZ_zero {f : Nat → Int} {j : Nat} (hj : f j = 0) : ∀ n, j < n → prodZ f n = 0
 | 0, h => by omega
 | n + 1, h => by
  show prodZ f n * f n = 0
  by_cases e : j = n
  ·rw [← e, hj, Int.mul_zero]
  ·rw [prodZ_zero hj n (by omega), Int.zero_mul]
def CountIs (f : Nat → Int) (n : Nat) (N e : Int) : Prop :=
 (6 < n ∧ N = 0 ∧ e = 7) ∨ (n ≤ 6 ∧ (((∃ j, j < n ∧ f j < 0) ∧ N = 0 ∧ e = 3) ∨ ((∀ j, j < n → 0 ≤ f j) ∧
  (((∃ j, j < n ∧ 2048 < f j) ∧ N = 0 ∧ e = 7) ∨ ((∀ j, j < n → f j ≤ 2048) ∧ ((2048 < prodZ f n ∧ N = 0 ∧ e = 7) ∨ (prodZ f n ≤ 2048 ∧ N = prodZ f n ∧ e = 0)))))))
theorem CountIs.shape {f : Nat → Int} {n : Nat} {N e : Int} (a : CountIs f n N e) (h : e = 0) : Shape f n N := by
 rcases a with ⟨a1, a2, a3⟩ | ⟨a1, ⟨⟨j, hj, a2⟩, a3, a4⟩ | ⟨a2, ⟨⟨j, hj, a3⟩, a4, a5⟩ | ⟨a3, ⟨a4, a5, a6⟩ | ⟨a4, a5, a6⟩⟩⟩⟩
 any_goals omega
 exact ⟨a1, a2, a3, a5, by omega⟩
theorem CountIs.none {f : Nat → Int} {n : Nat} {N e : Int} (a : CountIs f n N e) (h : e ≠ 0) : N = 0 ∧ (e = 3 ∨ e = 7) ∧ ∀ M, ¬ Shape f n M := by
 rcases a with ⟨a1, a2, a3⟩ | ⟨a1, ⟨⟨j, hj, a2⟩, a3, a4⟩ | ⟨a2, ⟨⟨j, hj, a3⟩, a4, a5⟩ | ⟨a3, ⟨a4, a5, a6⟩ | ⟨a4, a5, a6⟩⟩⟩⟩
 ·exact ⟨a2, .inr a3, fun M k => by have := k.rank; omega⟩
 ·exact ⟨a3, .inl a4, fun M k => by have := k.low j hj; omega⟩
 ·exact ⟨a4, .inr a5, fun M k => by have := k.high j hj; omega⟩
 ·exact ⟨a5, .inr a6, fun M k => by have := k.all; have := k.most; omega⟩
 ·exact absurd a6 h
theorem ints7_any (ao bo : Option Addr) (n nc m mc : Nat) (f g : Nat → Int) (w : World) (hn : n ≤ 9223372036854775807) (hf : SlZ w ao n f) (hg : SlZ w bo m g) :
  Calls Tryz.prog 33 #[.slice ao n nc, .slice bo m mc] w fun e w' => (e = .returned (.bool true) ∧ SameZ n m f g ∨ e = .returned (.bool false) ∧ ¬ SameZ n m f g) ∧ Below w.heap.size w w' := by
 by_cases hnm : n = m
 ·subst hnm
  go_enter Tryz.func33, Tryz.ntmps33
  go_wp2_with fail
  go_loopw [5] (fun i wr => ∃ j : Nat, j ≤ n ∧ i = .int .i64 j ∧ Hid (∀ t, t < j → f t = g t) ∧ ∃ q, wr = w.drewN q) (fun i _ => n - (intOfZ i).toNat)
  case atStart => exact ⟨0, Nat.zero_le _, rfl, Lib.hid fun t h => by omega, 0, rfl⟩
  case round =>
   obtain ⟨j, hj, rfl, hd, q, rfl⟩ := hrel
   by_cases hlt : j < n
   ·rcases hf with h | ⟨b, off, rfl, hc⟩
    ·omega
    rcases hg with h | ⟨b', off', rfl, hc'⟩
    ·omega
    have c1 := hc j hlt
    have c2 := hc' j hlt
    clear hc hc'
    have i0 : (0 : Int) ≤ (j : Int) := by omega
    have i1 : (j : Int) < (n : Int) := by omega
    by_cases he : f j = g j
    ·have heb : (f j != g j) = false := by rw [bne_eq_false_iff_eq]; exact he
     have he' := Lib.hid he
     clear he
     go_wp2_with fail
     go_quiet (fail)
     go_wp2_with fail
     go_roundw
     case rel =>
      refine ⟨j + 1, by omega, by go_num, Lib.hid fun t ht => ?_, _, rfl⟩
      by_cases e : t = j
      ·rw [e]; exact he'.out
      ·exact hd.out t (by omega)
     case measure => simp [intOfZ]; omega
    ·have heb : (f j != g j) = true := by rw [bne_iff_ne]; exact he
     have he' := Lib.hid he
     clear he
     go_wp2_with fail
     go_quiet (fail)
     go_wp2_with fail
     go_ret
     exact ⟨.inr ⟨rfl, fun ⟨_, h⟩ => he'.out (h j hlt)⟩, below_drewN (below_drewN (Below.refl _ _) _) _⟩
   ·obtain rfl : j = n := by omega
    go_wp2_with fail
    go_ret
    exact ⟨.inl ⟨rfl, rfl, hd.out⟩, below_drewN (Below.refl _ _) _⟩
 ·have hnb : ((n : Int) != (m : Int)) = true := by rw [bne_iff_ne]; omega
  have hnm' := Lib.hid hnm
  have hnp : ¬ ((n : Int) = (m : Int)) := by omega
  clear hnm
  go_enter Tryz.func33, Tryz.ntmps33
  go_wp2_with fail
  go_ret
  exact ⟨.inr ⟨rfl, fun ⟨h, _⟩ => hnm'.out h⟩, Below.refl _ _⟩
theorem count7_any (ao : Option Addr) (n nc : Nat) (f : Nat → Int) (w : World) (hn : n ≤ 9223372036854775807) (hf : SlZ w ao n f) :
  Calls Tryz.prog 83 #[.slice ao n nc] w fun e w' => (∃ N E : Int, e = .returned (.tuple #[.int .i64 N, .int .i64 E]) ∧ CountIs f n N E) ∧ w = w' := by
 by_cases h6 : 6 < n
 ·have h6' : (6 : Int) < (n : Int) := by omega
  go_enter Tryz.func83, Tryz.ntmps83
  go_wp2_with fail
  go_ret2
  exact ⟨⟨0, 7, rfl, .inl ⟨h6, rfl, rfl⟩⟩, rfl⟩
 ·have h6' : ¬ (6 : Int) < (n : Int) := by omega
  have h6n : n ≤ 6 := by omega
  clear h6
  go_enter Tryz.func83, Tryz.ntmps83
  go_wp2_with fail
  go_loopw [4, 5, 6] (fun b z i wr => ∃ (j : Nat) (B Z : Bool), j ≤ n ∧ i = .int .i64 j ∧ b = .bool B ∧ z = .bool Z ∧ Hid (∀ t, t < j → 0 ≤ f t) ∧ Hid (B = true ↔ ∃ t, t < j ∧ 2048 < f t) ∧ Hid (Z = true ↔ ∃ t, t < j ∧ f t = 0) ∧ wr = w) (fun _ _ i _ => n - (intOfZ i).toNat)
  case atStart => exact ⟨0, false, false, Nat.zero_le _, rfl, rfl, rfl, Lib.hid fun t h => by omega, Lib.hid ⟨fun h => (Bool.false_ne_true h).elim, fun ⟨t, h, _⟩ => by omega⟩, Lib.hid ⟨fun h => (Bool.false_ne_true h).elim, fun ⟨t, h, _⟩ => by omega⟩, rfl⟩
  case round =>
   obtain ⟨j, B, Z, hj, rfl, rfl, rfl, hd, hB, hZ, rfl⟩ := hrel
   by_cases hlt : j < n
   ·rcases hf with h | ⟨b, off, rfl, hc⟩
    ·omega
    have c1 := hc j hlt
    clear hc
    by_cases hneg : f j < 0
    ·have hneg' := Lib.hid hneg
     go_wp2_with fail
     go_ret2
     exact ⟨⟨0, 3, rfl, .inr ⟨h6n, .inl ⟨⟨j, hlt, hneg'.out⟩, rfl, rfl⟩⟩⟩, rfl⟩
    ·have hd2 := Lib.hid (show ∀ t, t < j + 1 → 0 ≤ f t from fun t ht => by
      by_cases e : t = j
      ·rw [e]; omega
      ·exact hd.out t (by omega))
     have hB2 := Lib.hid (show (B || decide (2048 < f j)) = true ↔ ∃ t, t < j + 1 ∧ 2048 < f t from by
      rw [Bool.or_eq_true, hB.out, decide_eq_true_eq]
      constructor
      ·rintro (⟨t, h1, h2⟩ | h)
       ·exact ⟨t, by omega, h2⟩
       ·exact ⟨j, by omega, h⟩
      ·rintro ⟨t, h1, h2⟩
       by_cases e : t = j
       ·rw [e] at h2; exact .inr h2
       ·exact .inl ⟨t, by omega, h2⟩)
     have hZ2 := Lib.hid (show (Z || decide (f j = 0)) = true ↔ ∃ t, t < j + 1 ∧ f t = 0 from by
      rw [Bool.or_eq_true, hZ.out, decide_eq_true_eq]
      constructor
      ·rintro (⟨t, h1, h2⟩ | h)
       ·exact ⟨t, by omega, h2⟩
       ·exact ⟨j, by omega, h⟩
      ·rintro ⟨t, h1, h2⟩
       by_cases e : t = j
       ·rw [e] at h2; exact .inr h2
       ·exact .inl ⟨t, by omega, h2⟩)
     have hnn : ¬ f j < 0 := hneg
     clear hneg hd hB hZ
     cases B <;> cases Z <;>
     ·go_wp2_with fail
      go_roundw
      case rel => exact ⟨j + 1, _, _, by omega, by go_num, rfl, rfl, hd2, hB2, hZ2, by trivial⟩
      case measure => simp [intOfZ]; omega
   ·obtain rfl : j = n := by omega
    by_cases hBt : ∃ t, t < j ∧ 2048 < f t
    ·obtain rfl : B = true := hB.out.2 hBt
     have hBt' := Lib.hid hBt
     clear hBt
     go_wp2_with fail
     go_ret2
     exact ⟨⟨0, 7, rfl, .inr ⟨h6n, .inr ⟨hd.out, .inl ⟨hBt'.out, rfl, rfl⟩⟩⟩⟩, rfl⟩
    ·obtain rfl : B = false := by
      rcases Bool.eq_false_or_eq_true B with h | h
      ·exact absurd (hB.out.1 h) hBt
      ·exact h
     have hhi := Lib.hid (show ∀ t, t < j → f t ≤ 2048 from fun t ht => Int.not_lt.1 fun h => hBt ⟨t, ht, h⟩)
     clear hBt
     by_cases hZt : ∃ t, t < j ∧ f t = 0
     ·obtain rfl : Z = true := hZ.out.2 hZt
      have hp := Lib.hid (show prodZ f j = 0 by obtain ⟨t, h1, h2⟩ := hZt; exact prodZ_zero h2 j h1)
      clear hZt
      go_wp2_with fail
      go_ret2
      exact ⟨⟨0, 0, rfl, .inr ⟨h6n, .inr ⟨hd.out, .inr ⟨hhi.out, .inr ⟨by rw [hp.out]; decide, hp.out.symm, rfl⟩⟩⟩⟩⟩, rfl⟩
     ·obtain rfl : Z = false := by
       rcases Bool.eq_false_or_eq_true Z with h | h
       ·exact absurd (hZ.out.1 h) hZt
       ·exact h
      have hlo := Lib.hid (show ∀ t, t < j → 1 ≤ f t from fun t ht => by
       have := hd.out t ht
       have : f t ≠ 0 := fun h => hZt ⟨t, ht, h⟩
       omega)
      clear hZt hB hZ
      go_wp2_with fail
      go_loopw [7, 8] (fun p i wr' => ∃ k : Nat, k ≤ j ∧ i = .int .i64 k ∧ p = .int .i64 (prodZ f k) ∧ prodZ f k ≤ 2048 ∧ wr' = wr) (fun _ i _ => j - (intOfZ i).toNat)
      case atStart => exact ⟨0, Nat.zero_le _, rfl, rfl, by show (1 : Int) ≤ 2048; decide, rfl⟩
      case round =>
       obtain ⟨k, hk, rfl, rfl, hpk, rfl⟩ := hrel
       have p1 := prodZ_pos k fun t ht => hlo.out t (by omega)
       by_cases hlt2 : k < j
       ·rcases hf with h | ⟨b, off, rfl, hc⟩
        ·omega
        have c1 := hc k hlt2
        have k1 := hlo.out k hlt2
        have k2 := hhi.out k hlt2
        clear hc
        obtain ⟨x, hx⟩ : ∃ x, x = prodZ f k := ⟨_, rfl⟩
        obtain ⟨y, hy⟩ : ∃ y, y = f k := ⟨_, rfl⟩
        obtain ⟨z, hz⟩ : ∃ z, z = x * y := ⟨_, rfl⟩
        have hz1 : z ≤ 4194304 := by rw [hz]; rw [← hx] at hpk p1; rw [← hy] at k1 k2; exact Int.mul_le_mul hpk k2 (by omega) (by decide)
        have hz0 : 0 ≤ z := by rw [hz]; rw [← hx] at hpk p1; rw [← hy] at k1 k2; exact Int.mul_nonneg (by omega) (by omega)
        have hzn := Lib.hid (show prodZ f (k + 1) = z by rw [hz, hx, hy]; rfl)
        have hzm := Lib.hid (show prodZ f (k + 1) ≤ prodZ f j from prodZ_mono j hlo.out hlt2)
        rw [← hy] at c1
        rw [← hx]
        have hw : IntKind.i64.wrap (x * y) = z := by rw [← hz]; simp [IntKind.wrap, IntKind.bits, IntKind.signed]; omega
        clear hz hx hy hpk p1 k1 k2
        by_cases hbig : 2048 < z
        ·have hbig' := Lib.hid hbig
         go_wp2_with fail
         go_ret2
         exact ⟨⟨0, 7, rfl, .inr ⟨h6n, .inr ⟨hd.out, .inr ⟨hhi.out, .inl ⟨by have := hzn.out; have := hzm.out; have := hbig'.out; omega, rfl, rfl⟩⟩⟩⟩⟩, rfl⟩
        ·have hsm := Lib.hid (show prodZ f (k + 1) ≤ 2048 by rw [hzn.out]; omega)
         go_wp2_with fail
         go_roundw
         case rel => exact ⟨k + 1, by omega, by go_num, by rw [hzn.out], hsm.out, by trivial⟩
         case measure => simp [intOfZ]; omega
       ·obtain rfl : k = j := by omega
        go_wp2_with fail
        go_ret2
        exact ⟨⟨_, 0, rfl, .inr ⟨h6n, .inr ⟨hd.out, .inr ⟨hhi.out, .inr ⟨hpk, rfl, rfl⟩⟩⟩⟩⟩, rfl⟩
end Go.Proofs.YtaepelipkkmeaaaGreat
namespace Go.Proofs.YtaepelipkkmeaaaGreat
open Go.RowKit
theorem simple8_any (A : Tree) (c0 c1 c2 : Value) (w : World) (h : ArrP w A c0 c1 c2) :
  Calls Tryz.prog 135 #[.agg #[c0, c1, c2]] w (Tell (.bool (simpleT A)) w) := by
 obtain _ | ⟨S, n, sh, m, L, K, C, N, k, sub⟩ := A
 ·exact (ArrP.leaf h).elim
 obtain ⟨rfl, _, ⟨ao, nc, rfl, hn, _⟩, co, mc, rfl, hm, hc⟩ := h
 have hnn := hn.1; have hnc := hn.2.1; have hmm := hm.1; have hmc := hm.2.1
 have hb := Lib.hid ((Below.refl w.heap.size w).alloc (Nat.le_refl _) (.cells #[.int .u64 S, .slice ao n nc, .slice co m mc] 45))
 by_cases h1 : n = 0
 ·subst h1
  by_cases h2 : m = 1
  ·subst h2
   rcases hc with hc | ⟨b, o, rfl, hc⟩
   ·omega
   ·obtain ⟨e, he, hcell⟩ := hc 0 (by decide)
    have c1 := he 1 (by decide)
    rw [hcell.2.2.1, Nat.zero_mul, Nat.add_zero] at c1
    have c2 := cell_below c1 hb.out
    obtain ⟨x, hx⟩ : ∃ x, x = K 0 := ⟨_, rfl⟩
    have hs : simpleT (.arr S 0 sh 1 L K C N k sub) = !decide (x = 2) := by rw [hx]; rfl
    rw [hs]
    rw [← hx] at c1 c2
    clear hs hx hc he hcell
    go_enter Tryz.func135, Tryz.ntmps135
    go_wp2_with fail
    go_ret
    refine ⟨congrArg (fun b => Ending.returned (.bool b)) ?_, hb.out⟩
    by_cases hx2 : x = 2
    ·simp [hx2]
    ·simp [hx2]
  ·have hs : simpleT (.arr S 0 sh m L K C N k sub) = false := by
    unfold simpleT
    simp [h2]
   rw [hs]
   have h2' : ((m : Int) == 1) = false := by rw [beq_eq_false_iff_ne]; omega
   clear hs hc
   go_enter Tryz.func135, Tryz.ntmps135
   go_wp2_with fail
   go_ret
   exact ⟨rfl, hb.out⟩
 ·have hs : simpleT (.arr S n sh m L K C N k sub) = false := by
   unfold simpleT
   simp [h1]
  rw [hs]
  have h2' : ((n : Int) == 0) = false := by rw [beq_eq_false_iff_ne]; omega
  clear hs hc
  go_enter Tryz.func135, Tryz.ntmps135
  go_wp2_with fail
  go_ret
  exact ⟨rfl, hb.out⟩
theorem zero8_any (N : NumF) (c0 c1 c2 : Value) (w : World) (h : NumP w N c0 c1 c2) :
  Calls Tryz.prog 133 #[.agg #[c0, c1, c2]] w (Tell (.bool (zeroF N)) w) := by
 obtain ⟨neg, an, fa, am, ga⟩ := N
 obtain ⟨rfl, ⟨ao, ac, rfl, hn, _⟩, ⟨bo, bc, rfl, hm, _⟩⟩ := h
 have hnn := hn.1; have hnc := hn.2.1; have hmm := hm.1; have hmc := hm.2.1
 have hb := Lib.hid ((Below.refl w.heap.size w).alloc (Nat.le_refl _) (.cells #[.bool neg, .slice ao an ac, .slice bo am bc] 24))
 have hz : zeroF ⟨neg, an, fa, am, ga⟩ = (!neg && decide (an = 0) && decide (am = 0)) := rfl
 rw [hz]
 clear hz
 go_enter Tryz.func133, Tryz.ntmps133
 cases neg with
 | true =>
  go_wp2_with fail
  go_ret
  exact ⟨rfl, hb.out⟩
 | false =>
  by_cases h1 : an = 0
  ·subst h1
   go_wp2_with fail
   go_ret
   refine ⟨congrArg (fun b => Ending.returned (.bool b)) ?_, hb.out⟩
   rw [Bool.eq_iff_iff]
   simp
  ·have h2' : ((an : Int) == 0) = false := by rw [beq_eq_false_iff_ne]; omega
   have h3' : decide (an = 0) = false := decide_eq_false h1
   rw [h3']
   go_wp2_with fail
   go_ret
   exact ⟨rfl, hb.out⟩
end Go.Proofs.YtaepelipkkmeaaaGreat
namespace Go.Proofs.YtaepelipkkmeaaaGreat
open Go.RowKit
def LeftIs (A : Tree) (d : Nat) (n r : Int) : Prop := r ≤ n ∧ IsZ r ∧ (0 ≤ r → (partsT A : Int) = n - r ∧ NestT A d)
theorem left8_any : ∀ (A : Tree) (d : Nat) (n : Int) (c0 c1 c2 : Value) (w : World), ArrP w A c0 c1 c2 → d ≤ 12 → 0 ≤ n → n ≤ 4000 →
  Calls Tryz.prog 92 #[.agg #[c0, c1, c2], .int .i64 d, .int .i64 n] w fun e w' => (∃ r : Int, e = .returned (.int .i64 r) ∧ LeftIs A d n r) ∧ Below w.heap.size w w' := by
 intro A
 induction A with
 | leaf => intros; exact (ArrP.leaf ‹ArrP _ Tree.leaf _ _ _›).elim
 | arr S p sh m L K C N k sub ih =>
  intro d n c0 c1 c2 w h hd hn0 hn1
  obtain ⟨rfl, _, ⟨ao, nc, rfl, hp, _⟩, co, mc, rfl, hm, hc⟩ := h
  have hp1 := hp.1; have hp2 := hp.2.1; have hp3 := hp.2.2; have hm1 := hm.1; have hm2 := hm.2.1; have hm3 := hm.2.2
  have hbox := Box3.new (.int .u64 S) (.slice ao p nc) (.slice co m mc) 45 (show w.heap.size = w.heap.size from rfl)
  have hbel := (Below.refl w.heap.size w).alloc (Nat.le_refl _) (.cells #[.int .u64 S, .slice ao p nc, .slice co m mc] 45)
  go_enter Tryz.func92, Tryz.ntmps92
  by_cases hd00 : d = 0
  ·subst hd00
   go_wp2_with fail
   go_ret
   exact ⟨⟨-1, rfl, by omega, ⟨by omega, by omega⟩, fun h => by omega⟩, hbel⟩
  ·obtain ⟨d', hd'⟩ : ∃ d', d = d' + 1 := ⟨d - 1, by omega⟩
   have hD := Lib.hid hd'
   have hDd := Lib.hid (show (d : Int) - 1 = (d' : Int) by omega)
   have hdl : d' ≤ 12 := by omega
   have hd0 : ((d : Int) == 0) = false := by rw [beq_eq_false_iff_ne]; omega
   clear hd' hd00
   have hc' := Lib.hid hc
   clear hc
   go_wp2_with fail
   go_loopw [2, 7] (fun q i wr => ∃ (t : Nat) (r : Int), t ≤ m ∧ i = .int .i64 t ∧ q = .int .i64 r ∧ r ≤ n ∧ IsZ r ∧ Hid (0 ≤ r → ((1 + p + sumN (fun i => 1 + (N i).an + (N i).am + sumN (fun j => partsT (sub i j)) (k i)) t : Nat) : Int) = n - r ∧ ∀ x, x < t → ∀ j, j < k x → NestT (sub x j) d') ∧ Hid (Box3 wr w.heap.size (.int .u64 S) (.slice ao p nc) (.slice co m mc)) ∧ Hid (Below w.heap.size w wr)) (fun _ i _ => m - (intOfZ i).toNat)
   case atStart =>
    refine ⟨0, n - 1 - p, Nat.zero_le _, rfl, by rfl, by omega, ⟨by omega, by omega⟩, Lib.hid fun h => ⟨by show ((1 + p + 0 : Nat) : Int) = _; omega, fun x hx => by omega⟩, Lib.hid hbox, Lib.hid hbel⟩
   case round =>
    obtain ⟨t, r, ht, rfl, rfl, hrn, hrz, hsum, hbx, hbr⟩ := hrel
    clear hbox hbel
    by_cases hr0 : 0 ≤ r
    ·by_cases hlt : t < m
     ·rcases hc'.out with h0 | ⟨b, o, rfl, hcells⟩
      ·omega
      obtain ⟨e, he, q0, q1, q2, q3, ⟨q4, ⟨a1, ac, q5, q6, _⟩, ⟨b1, bc, q7, q8, _⟩⟩, q9, q10, io, kc, q11, q12, q13⟩ := hcells t hlt
      have an1 := q6.1; have an2 := q6.2.1; have an3 := q6.2.2; have am1 := q8.1; have am2 := q8.2.1; have am3 := q8.2.2; have kk1 := q12.1; have kk2 := q12.2.1
      have x3 := he 3 (by decide); have x4 := he 4 (by decide); have x6 := he 6 (by decide)
      rw [q5] at x3; rw [q7] at x4; rw [q11] at x6
      have y3 := cell_below x3 hbr.out; have y4 := cell_below x4 hbr.out; have y6 := cell_below x6 hbr.out
      have z2 := hbx.out.c2
      have hrow := Lib.hid q13
      have hg := Lib.hid x6
      obtain ⟨kt, hkt⟩ : ∃ kt, kt = k t := ⟨_, rfl⟩
      obtain ⟨an, han⟩ : ∃ an, an = (N t).an := ⟨_, rfl⟩
      obtain ⟨am, ham⟩ : ∃ am, am = (N t).am := ⟨_, rfl⟩
      rw [← hkt] at y6 kk1 hrow hg
      rw [← han] at y3 an1 an3
      rw [← ham] at y4 am1 am3
      have hkt' := Lib.hid hkt; have han' := Lib.hid han; have ham' := Lib.hid ham
      have hz1 := hrz.1; have hz2 := hrz.2
      clear hcells he q0 q1 q2 q3 q4 q5 q6 q7 q8 q9 q10 q11 q12 q13 x3 x4 x6 hkt han ham hrz
      go_wp2_with fail
      go_quiet (fail)
      have hbr2 := Lib.hid (below_drewN hbr.out nq)
      have hbx2 := Lib.hid (hbx.out.later (below_drewN (Below.refl _ _) nq))
      have hS0 := Lib.hid (hsum.out hr0)
      clear hbr hbx hsum y3 y4 y6 z2
      go_wp2_with fail
      go_loopw [2, 8] (fun q j wi => ∃ (u : Nat) (v : Int), u ≤ kt ∧ j = .int .i64 u ∧ q = .int .i64 v ∧ v ≤ n ∧ IsZ v ∧ Hid (0 ≤ v → ((1 + p + sumN (fun i => 1 + (N i).an + (N i).am + sumN (fun j => partsT (sub i j)) (k i)) t + (1 + an + am + sumN (fun j => partsT (sub t j)) u) : Nat) : Int) = n - v ∧ ∀ j, j < u → NestT (sub t j) d') ∧ Hid (Box3 wi w.heap.size (.int .u64 S) (.slice ao p nc) (.slice (some ⟨b, o, none⟩) m mc)) ∧ Hid (Below w.heap.size w wi)) (fun _ j _ => kt - (intOfZ j).toNat)
      case atStart =>
       refine ⟨0, r - 1 - an - am, Nat.zero_le _, rfl, by rfl, by omega, ⟨by omega, by omega⟩, Lib.hid fun h => ⟨?_, fun j hj => by omega⟩, hbx2, hbr2⟩
       have := hS0.out.1
       show ((1 + p + sumN (fun i => 1 + (N i).an + (N i).am + sumN (fun j => partsT (sub i j)) (k i)) t + (1 + an + am + 0) : Nat) : Int) = _
       omega
      case round =>
       obtain ⟨u, v, hu, rfl, rfl, hvn, hvz, hvs, hbx3, hbr3⟩ := hrel
       clear hbx2 hbr2
       have z3 := hbx3.out.c2
       have y7 := cell_below hg.out hbr3.out
       by_cases hv0 : 0 ≤ v
       ·by_cases hul : u < kt
        ·rcases hrow.out with h0 | ⟨b', o', rfl, hrows⟩
         ·omega
         obtain ⟨d0, d1, d2, r0, r1, r2, r3⟩ := hrows u hul
         have s0 := cell_below r0 hbr3.out; have s1 := cell_below r1 hbr3.out; have s2 := cell_below r2 hbr3.out
         have hA := Lib.hid (ArrP.below _ _ _ _ r3 hbr3.out)
         clear hrows r0 r1 r2 r3
         go_wp2_with fail
         rw [hDd.out]
         refine (ih t u d' v d0 d1 d2 wr hA.out hdl hv0 (by omega)).mono ?_
         rintro e2 w2 ⟨⟨v2, rfl, g1, g2, g3⟩, hb2⟩
         have hbr4 := Lib.hid (hbr3.out.trans (hb2.mono hbr3.out.size))
         have hbx4 := Lib.hid (hbx3.out.later hb2)
         have hnew := Lib.hid g3
         clear hb2 g3 s0 s1 s2 z3 y7
         go_wp2_with fail
         go_roundw
         case rel =>
          refine ⟨u + 1, v2, by omega, by go_num, rfl, by omega, g2, Lib.hid fun h => ⟨?_, fun j hj => ?_⟩, hbx4, hbr4⟩
          ·have k1 := (hvs.out hv0).1; have k2 := (hnew.out h).1
           show ((1 + p + sumN (fun i => 1 + (N i).an + (N i).am + sumN (fun j => partsT (sub i j)) (k i)) t + (1 + an + am + (sumN (fun j => partsT (sub t j)) u + partsT (sub t u))) : Nat) : Int) = _
           omega
          ·by_cases e3 : j = u
           ·rw [e3]; exact (hnew.out h).2
           ·exact (hvs.out hv0).2 j (by omega)
         case measure => simp [intOfZ]; omega
        ·obtain rfl : u = kt := by omega
         go_wp2_with fail
         go_roundw
         case rel =>
          refine ⟨t + 1, v, by omega, by go_num, rfl, hvn, hvz, Lib.hid fun h => ⟨?_, fun x hx j hj => ?_⟩, hbx3, hbr3⟩
          ·have k1 := (hvs.out hv0).1
           show ((1 + p + (sumN (fun i => 1 + (N i).an + (N i).am + sumN (fun j => partsT (sub i j)) (k i)) t + (1 + (N t).an + (N t).am + sumN (fun j => partsT (sub t j)) (k t))) : Nat) : Int) = _
           rw [← han'.out, ← ham'.out, ← hkt'.out]
           omega
          ·by_cases e3 : x = t
           ·subst e3; exact (hvs.out hv0).2 j (by rw [hkt'.out]; exact hj)
           ·exact hS0.out.2 x (by omega) j hj
         case measure => simp [intOfZ]; omega
       ·have hv1 := Lib.hid hv0
        by_cases hul : u < kt
        all_goals
         go_wp2_with fail
         go_roundw
         case rel => exact ⟨t + 1, v, by omega, by go_num, rfl, hvn, hvz, Lib.hid fun h => absurd h hv1.out, hbx3, hbr3⟩
         case measure => simp [intOfZ]; omega
     ·obtain rfl : t = m := by omega
      have z2 := hbx.out.c2
      go_wp2_with fail
      go_ret
      exact ⟨⟨r, rfl, hrn, hrz, fun h => ⟨(hsum.out h).1, by rw [hD.out]; exact (hsum.out h).2⟩⟩, hbr.out⟩
    ·have z2 := hbx.out.c2
     by_cases hlt : t < m
     all_goals
      go_wp2_with fail
      go_ret
      exact ⟨⟨r, rfl, hrn, hrz, fun h => by omega⟩, hbr.out⟩
theorem few8_any (A : Tree) (c0 c1 c2 : Value) (w : World) (h : ArrP w A c0 c1 c2) :
  Calls Tryz.prog 34 #[.agg #[c0, c1, c2]] w fun e w' => (∃ r, e = .returned (.bool r) ∧ (r = true → FewT A)) ∧ Below w.heap.size w w' := by
 have hbox := Box3.new c0 c1 c2 45 (show w.heap.size = w.heap.size from rfl)
 have hbel := Lib.hid ((Below.refl w.heap.size w).alloc (Nat.le_refl _) (.cells #[c0, c1, c2] 45))
 have hA := Lib.hid (ArrP.below _ _ _ _ h ((Below.refl w.heap.size w).alloc (Nat.le_refl _) (.cells #[c0, c1, c2] 45)))
 have z0 := hbox.c0; have z1 := hbox.c1; have z2 := hbox.c2
 clear h hbox
 go_enter Tryz.func34, Tryz.ntmps34
 go_wp2_with fail
 refine (left8_any A 12 4000 c0 c1 c2 _ hA.out (by decide) (by decide) (by decide)).mono ?_
 rintro e w1 ⟨⟨r, rfl, h1, h2, h3⟩, hb⟩
 have b1 := Lib.hid (hbel.out.trans (hb.mono hbel.out.size))
 have h3' := Lib.hid h3
 clear hb h3 z0 z1 z2
 go_wp2_with fail
 go_ret
 refine ⟨⟨_, rfl, fun h => ?_⟩, b1.out⟩
 have h0 : 0 ≤ r := by simpa using h
 have := (h3'.out h0).1
 exact ⟨by omega, (h3'.out h0).2⟩
end Go.Proofs.YtaepelipkkmeaaaGreat
namespace Go.Proofs.YtaepelipkkmeaaaGreat
open Go.RowKit
theorem parts_sub {S n m : Nat} {sh : Nat → Int} {L : Nat → Nat} {K C : Nat → Int} {N : Nat → NumF} {k : Nat → Nat} {sub : Nat → Nat → Tree} {i j : Nat} (hi : i < m) (hj : j < k i) : partsT (sub i j) + 1 ≤ partsT (.arr S n sh m L K C N k sub) := by
 have a := sumN_one (fun j => partsT (sub i j)) hj
 have b := sumN_one (fun i => 1 + (N i).an + (N i).am + sumN (fun j => partsT (sub i j)) (k i)) hi
 show partsT (sub i j) + 1 ≤ 1 + n + sumN (fun i => 1 + (N i).an + (N i).am + sumN (fun j => partsT (sub i j)) (k i)) m
 have a' : partsT (sub i j) ≤ sumN (fun j => partsT (sub i j)) (k i) := a
 have b' : 1 + (N i).an + (N i).am + sumN (fun j => partsT (sub i j)) (k i) ≤ sumN (fun i => 1 + (N i).an + (N i).am + sumN (fun j => partsT (sub i j)) (k i)) m := b
 omega
theorem arr_labels {w : World} {S n m : Nat} {sh : Nat → Int} {L : Nat → Nat} {K C : Nat → Int} {N : Nat → NumF} {k : Nat → Nat} {sub : Nat → Nat → Tree} {c0 c1 c2 : Value} (h : ArrP w (.arr S n sh m L K C N k sub) c0 c1 c2) :
  IsL S ∧ (∀ i, i < m → IsL (L i)) ∧ ∀ i, i < m → ∀ j, j < k i → ∃ d0 d1 d2, ArrP w (sub i j) d0 d1 d2 := by
 obtain ⟨_, hS, _, co, mc, _, _, hc⟩ := h
 refine ⟨hS, fun i hi => ?_, fun i hi j hj => ?_⟩
 ·rcases hc with h0 | ⟨b, o, _, hc⟩
  ·omega
  ·obtain ⟨e, _, _, q1, _⟩ := hc i hi
   exact q1
 ·rcases hc with h0 | ⟨b, o, _, hc⟩
  ·omega
  ·obtain ⟨e, _, _, _, _, _, _, _, _, io, kc, _, _, q13⟩ := hc i hi
   rcases q13 with h0 | ⟨b', o', _, hr⟩
   ·omega
   ·obtain ⟨d0, d1, d2, _, _, _, r⟩ := hr j hj
    exact ⟨d0, d1, d2, r⟩
end Go.Proofs.YtaepelipkkmeaaaGreat
namespace Go.Proofs.YtaepelipkkmeaaaGreat
open Go.RowKit
def BoolPost (P : Prop) (w : World) (e : Ending) (w' : World) : Prop := ∃ r, e = .returned (.bool r) ∧ (r = true ↔ P) ∧ Below w.heap.size w w'
def SameF (N M : NumF) : Prop := N.neg = M.neg ∧ (N.an = M.an ∧ ∀ j, j < N.an → N.fa j = M.fa j) ∧ (N.am = M.am ∧ ∀ j, j < N.am → N.ga j = M.ga j)
def SameC (L : Nat) (K : Int) (N : NumF) (C : Int) (k : Nat) (L' : Nat) (K' : Int) (N' : NumF) (C' : Int) (k' : Nat) (P : Nat → Prop) : Prop :=
 L = L' ∧ K = K' ∧ C = C' ∧ SameF N N' ∧ k = k' ∧ ∀ j, j < k → P j
def SameT : Tree → Tree → Prop
 | .leaf, _ => False
 | .arr S n sh m L K C N k sub, B => match B with
  | .leaf => False
  | .arr S' n' sh' m' L' K' C' N' k' sub' => S = S' ∧ SameZ n n' sh sh' ∧ m = m' ∧ ∀ i, i < m → SameC (L i) (K i) (N i) (C i) (k i) (L' i) (K' i) (N' i) (C' i) (k' i) (fun j => SameT (sub i j) (sub' i j))
theorem sameCell8_of (L : Nat) (K : Int) (N : NumF) (C : Int) (k : Nat) (R : Nat → Value → Value → Value → Prop) (e : Nat → Value) (L' : Nat) (K' : Int) (N' : NumF) (C' : Int) (k' : Nat) (R' : Nat → Value → Value → Value → Prop) (f : Nat → Value) (P : Nat → Prop) (w : World)
  (h : CellP w L K N C k R e) (h' : CellP w L' K' N' C' k' R' f)
  (hS : ∀ j d0 d1 d2 e0 e1 e2 w', R j d0 d1 d2 → R' j e0 e1 e2 → Below w.heap.size w w' → Calls Tryz.prog 82 #[.agg #[d0, d1, d2], .agg #[e0, e1, e2]] w' (BoolPost (P j) w')) :
  Calls Tryz.prog 35 #[.agg #[e 0, e 1, e 2, e 3, e 4, e 5, e 6], .agg #[f 0, f 1, f 2, f 3, f 4, f 5, f 6]] w (BoolPost (SameC L K N C k L' K' N' C' k' P) w) := by
 obtain ⟨p0, pL, p1, pK, ⟨p2, ⟨ao, ac, p3, ha, hsa, _⟩, ⟨bo, bc, p4, hb, hsb, _⟩⟩, p5, pC, io, kc, p6, hk, hrow⟩ := h
 obtain ⟨q0, qL, q1, qK, ⟨q2, ⟨ao', ac', q3, ha', hsa', _⟩, ⟨bo', bc', q4, hb', hsb', _⟩⟩, q5, qC, io', kc', q6, hk', hrow'⟩ := h'
 rw [p0, p1, p2, p3, p4, p5, p6, q0, q1, q2, q3, q4, q5, q6]
 have an1 := ha.1; have an2 := ha.2.1; have am1 := hb.1; have am2 := hb.2.1; have kk1 := hk.1; have kk2 := hk.2.1
 have bn1 := ha'.1; have bn2 := ha'.2.1; have bm1 := hb'.1; have bm2 := hb'.2.1; have kl1 := hk'.1; have kl2 := hk'.2.1
 have hbel := (((Below.refl w.heap.size w).alloc (Nat.le_refl _) (.cells #[.int .u64 L, .int .i64 K, .bool N.neg, .slice ao N.an ac, .slice bo N.am bc, .int .i64 C, .slice io k kc] 65)).alloc (by simp) (.cells #[.int .u64 L', .int .i64 K', .bool N'.neg, .slice ao' N'.an ac', .slice bo' N'.am bc', .int .i64 C', .slice io' k' kc'] 65))
 have hx := (Box7.new (w := w) (B := w.heap.size) (.int .u64 L) (.int .i64 K) (.bool N.neg) (.slice ao N.an ac) (.slice bo N.am bc) (.int .i64 C) (.slice io k kc) 65 rfl).alloc (.cells #[.int .u64 L', .int .i64 K', .bool N'.neg, .slice ao' N'.an ac', .slice bo' N'.am bc', .int .i64 C', .slice io' k' kc'] 65)
 have hy := Box7.new (w := w.alloc (.cells #[.int .u64 L, .int .i64 K, .bool N.neg, .slice ao N.an ac, .slice bo N.am bc, .int .i64 C, .slice io k kc] 65)) (B := w.heap.size + 1) (.int .u64 L') (.int .i64 K') (.bool N'.neg) (.slice ao' N'.an ac') (.slice bo' N'.am bc') (.int .i64 C') (.slice io' k' kc') 65 (by simp)
 have hsa1 := Lib.hid hsa; have hsb1 := Lib.hid hsb; have hsa2 := Lib.hid hsa'; have hsb2 := Lib.hid hsb'; have hr1 := Lib.hid hrow; have hr2 := Lib.hid hrow'; have hS' := Lib.hid hS
 clear p0 pL p1 pK p2 p3 p4 p5 pC p6 q0 qL q1 qK q2 q3 q4 q5 qC q6 ha hb hk ha' hb' hk' hsa hsb hsa' hsb' hrow hrow' hS
 by_cases e1 : L = L'
 ·by_cases e2 : K = K'
  ·by_cases e3 : C = C'
   ·subst e1; subst e2; subst e3
    go_enter Tryz.func35, Tryz.ntmps35
    go_wp2_with fail
    refine told_calls (fun w' => Below w.heap.size w w' ∧ Box7 w' w.heap.size (.int .u64 L) (.int .i64 K) (.bool N.neg) (.slice ao N.an ac) (.slice bo N.am bc) (.int .i64 C) (.slice io k kc) ∧ Box7 w' (w.heap.size + 1) (.int .u64 L) (.int .i64 K) (.bool N'.neg) (.slice ao' N'.an ac') (.slice bo' N'.am bc') (.int .i64 C) (.slice io' k' kc')) ⟨hbel, hx, hy⟩ ?_
    clear hbel hx hy
    rintro w0 ⟨b0, x0, y0⟩
    refine (same4B_any N.neg N'.neg ao bo ao' bo' N.an ac N.am bc N'.an ac' N'.am bc' N.fa N.ga N'.fa N'.ga w0 (by omega) (by omega) (hsa1.out.below b0) (hsb1.out.below b0) (hsa2.out.below b0) (hsb2.out.below b0)).mono ?_
    rintro e' w1 ⟨r, rfl, hr, hb1⟩
    have b1 := Lib.hid (b0.trans (hb1.mono b0.size)); have x1 := x0.later hb1; have y1 := y0.later hb1
    have hr' := Lib.hid hr
    have x1' := Lib.hid x1; have y1' := Lib.hid y1
    have z6 := x1.c6; have t6 := y1.c6
    clear b0 x0 y0 hb1 hr x1 y1
    cases r with
    | false =>
     go_wp2_with fail
     go_ret
     exact ⟨false, rfl, ⟨fun h => (Bool.false_ne_true h).elim, fun h => absurd (hr'.out.2 h.2.2.2.1) Bool.false_ne_true⟩, b1.out⟩
    | true =>
     by_cases e4 : k = k'
     ·subst e4
      go_wp2_with fail
      go_loopw [5] (fun i wr => ∃ j : Nat, j ≤ k ∧ i = .int .i64 j ∧ Hid (∀ t, t < j → P t) ∧ Hid (Box7 wr w.heap.size (.int .u64 L) (.int .i64 K) (.bool N.neg) (.slice ao N.an ac) (.slice bo N.am bc) (.int .i64 C) (.slice io k kc)) ∧ Hid (Box7 wr (w.heap.size + 1) (.int .u64 L) (.int .i64 K) (.bool N'.neg) (.slice ao' N'.an ac') (.slice bo' N'.am bc') (.int .i64 C) (.slice io' k kc')) ∧ Hid (Below w.heap.size w wr)) (fun i _ => k - (intOfZ i).toNat)
      case atStart => exact ⟨0, Nat.zero_le _, rfl, Lib.hid fun t h => by omega, x1', y1', b1⟩
      case round =>
       obtain ⟨j, hj, rfl, hd, hx, hy, hb⟩ := hrel
       clear x1' y1' b1 z6 t6
       by_cases hlt : j < k
       ·rcases hr1.out with h0 | ⟨b, o, rfl, hrows⟩
        ·omega
        rcases hr2.out with h0 | ⟨b', o', rfl, hrows'⟩
        ·omega
        obtain ⟨d0, d1, d2, r0, r1, r2, r3⟩ := hrows j hlt
        obtain ⟨f0, f1, f2, s0, s1, s2, s3⟩ := hrows' j hlt
        have hbd := hb.out.drew
        have xd := hx.out.drew; have yd := hy.out.drew
        have u6 := hx.out.c6
        go_wp2_with fail
        have g6 := xd.c6; have l6 := yd.c6
        have m0 := cell_below r0 hbd; have m1 := cell_below r1 hbd; have m2 := cell_below r2 hbd
        have n0 := cell_below s0 hbd; have n1 := cell_below s1 hbd; have n2 := cell_below s2 hbd
        have hcall := Lib.hid (fun w' h => hS'.out j d0 d1 d2 f0 f1 f2 w' r3 s3 h)
        clear hrows hrows' r0 r1 r2 s0 s1 s2
        have T1 : wr.drew.cell? ⟨w.heap.size, 6, none⟩ = some (.slice (some ⟨b, o, none⟩) k kc) ∧ wr.drew.cell? ⟨w.heap.size + 1, 6, none⟩ = some (.slice (some ⟨b', o', none⟩) k kc') ∧ wr.drew.cell? ⟨b, o + j * 3, none⟩ = some d0 ∧ wr.drew.cell? ⟨b, o + j * 3 + 1, none⟩ = some d1 ∧ wr.drew.cell? ⟨b, o + j * 3 + 2, none⟩ = some d2 ∧ wr.drew.cell? ⟨b', o' + j * 3, none⟩ = some f0 ∧ wr.drew.cell? ⟨b', o' + j * 3 + 1, none⟩ = some f1 ∧ wr.drew.cell? ⟨b', o' + j * 3 + 2, none⟩ = some f2 := ⟨g6, l6, m0, m1, m2, n0, n1, n2⟩
        go_region_held3 (fun w' => w'.cell? ⟨w.heap.size, 6, none⟩ = some (.slice (some ⟨b, o, none⟩) k kc) ∧ w'.cell? ⟨w.heap.size + 1, 6, none⟩ = some (.slice (some ⟨b', o', none⟩) k kc') ∧ w'.cell? ⟨b, o + j * 3, none⟩ = some d0 ∧ w'.cell? ⟨b, o + j * 3 + 1, none⟩ = some d1 ∧ w'.cell? ⟨b, o + j * 3 + 2, none⟩ = some d2 ∧ w'.cell? ⟨b', o' + j * 3, none⟩ = some f0 ∧ w'.cell? ⟨b', o' + j * 3 + 1, none⟩ = some f1 ∧ w'.cell? ⟨b', o' + j * 3 + 2, none⟩ = some f2)
         (first | exact T1 | exact T2)
         (first
         | (go_at_call 82; refine (hcall.out _ hbd).mono ?_; rintro e2 w2 ⟨r, rfl, hr2', hb2⟩; have hb3 := hbd.trans (hb2.mono hbd.size); have x2 := xd.later hb2; have y2 := yd.later hb2; have T2 := And.intro x2.c6 (And.intro y2.c6 (And.intro (cell_below m0 hb2) (And.intro (cell_below m1 hb2) (And.intro (cell_below m2 hb2) (And.intro (cell_below n0 hb2) (And.intro (cell_below n1 hb2) (cell_below n2 hb2))))))); clear hb2))
        have hr3 := Lib.hid hr2'; have x3 := Lib.hid x2; have y3 := Lib.hid y2; have b3 := Lib.hid hb3
        clear hr2' x2 y2 hb3 hbd xd yd g6 l6 m0 m1 m2 n0 n1 n2 T1 T2
        cases r with
        | true =>
         go_wp2_with fail
         go_roundw
         case rel =>
          refine ⟨j + 1, by omega, by go_num, Lib.hid fun t ht => ?_, x3, y3, b3⟩
          by_cases e : t = j
          ·rw [e]; exact hr3.out.1 (by first | exact rfl | trivial)
          ·exact hd.out t (by omega)
         case measure => simp [intOfZ]; omega
        | false =>
         go_wp2_with fail
         go_ret
         exact ⟨false, rfl, ⟨fun h => (Bool.false_ne_true h).elim, fun h => absurd (hr3.out.2 (h.2.2.2.2.2 j hlt)) Bool.false_ne_true⟩, b3.out⟩
       ·obtain rfl : j = k := by omega
        have g6 := hx.out.c6
        go_wp2_with fail
        go_ret
        exact ⟨true, rfl, ⟨fun _ => ⟨rfl, rfl, rfl, hr'.out.1 (by first | exact rfl | trivial), rfl, hd.out⟩, fun _ => rfl⟩, hb.out⟩
     ·have hd : ((k : Int) != (k' : Int)) = true := by rw [bne_iff_ne]; omega
      have hn := Lib.hid e4
      clear e4
      go_wp2_with fail
      go_ret
      exact ⟨false, rfl, ⟨fun h => (Bool.false_ne_true h).elim, fun h => absurd h.2.2.2.2.1 hn.out⟩, b1.out⟩
   ·subst e1; subst e2
    have hd : (C != C') = true := by rw [bne_iff_ne]; omega
    have hn := Lib.hid e3
    clear e3 hx hy
    go_enter Tryz.func35, Tryz.ntmps35
    go_wp2_with fail
    go_ret
    exact ⟨false, rfl, ⟨fun h => (Bool.false_ne_true h).elim, fun h => absurd h.2.2.1 hn.out⟩, hbel⟩
  ·subst e1
   have hd : (K != K') = true := by rw [bne_iff_ne]; omega
   have hn := Lib.hid e2
   clear e2 hx hy
   go_enter Tryz.func35, Tryz.ntmps35
   go_wp2_with fail
   go_ret
   exact ⟨false, rfl, ⟨fun h => (Bool.false_ne_true h).elim, fun h => absurd h.2.1 hn.out⟩, hbel⟩
 ·have hd : ((L : Int) != (L' : Int)) = true := by rw [bne_iff_ne]; omega
  have hn := Lib.hid e1
  clear e1 hx hy
  go_enter Tryz.func35, Tryz.ntmps35
  go_wp2_with fail
  go_ret
  exact ⟨false, rfl, ⟨fun h => (Bool.false_ne_true h).elim, fun h => absurd h.1 hn.out⟩, hbel⟩
end Go.Proofs.YtaepelipkkmeaaaGreat
namespace Go.Proofs.YtaepelipkkmeaaaGreat
open Go.RowKit
theorem same8_any : ∀ (A B : Tree) (c0 c1 c2 d0 d1 d2 : Value) (w : World), ArrP w A c0 c1 c2 → ArrP w B d0 d1 d2 →
  Calls Tryz.prog 82 #[.agg #[c0, c1, c2], .agg #[d0, d1, d2]] w (BoolPost (SameT A B) w) := by
 intro A
 induction A with
 | leaf => intros; exact (ArrP.leaf ‹ArrP _ Tree.leaf _ _ _›).elim
 | arr S n sh m L K C N k sub ih =>
  intro B c0 c1 c2 d0 d1 d2 w h h'
  obtain _ | ⟨S', n', sh', m', L', K', C', N', k', sub'⟩ := B
  ·exact (ArrP.leaf h').elim
  obtain ⟨rfl, _, ⟨ao, nc, rfl, hn, hsh, _⟩, co, mc, rfl, hm, hc⟩ := h
  obtain ⟨rfl, _, ⟨ao', nc', rfl, hn', hsh', _⟩, co', mc', rfl, hm', hc'⟩ := h'
  have n1 := hn.1; have n2 := hn.2.1; have m1 := hm.1; have m2 := hm.2.1; have n1' := hn'.1; have n2' := hn'.2.1; have m1' := hm'.1; have m2' := hm'.2.1
  have hbel := (((Below.refl w.heap.size w).alloc (Nat.le_refl _) (.cells #[.int .u64 S, .slice ao n nc, .slice co m mc] 45)).alloc (by simp) (.cells #[.int .u64 S', .slice ao' n' nc', .slice co' m' mc'] 45))
  have hx := (Box3.new (w := w) (B := w.heap.size) (.int .u64 S) (.slice ao n nc) (.slice co m mc) 45 rfl).alloc (.cells #[.int .u64 S', .slice ao' n' nc', .slice co' m' mc'] 45)
  have hy := Box3.new (w := w.alloc (.cells #[.int .u64 S, .slice ao n nc, .slice co m mc] 45)) (B := w.heap.size + 1) (.int .u64 S') (.slice ao' n' nc') (.slice co' m' mc') 45 (by simp)
  have hsh1 := Lib.hid hsh; have hsh2 := Lib.hid hsh'; have hc1 := Lib.hid hc; have hc2 := Lib.hid hc'
  clear hn hm hn' hm' hsh hsh' hc hc'
  by_cases e1 : S = S'
  ·subst e1
   go_enter Tryz.func82, Tryz.ntmps82
   go_wp2_with fail
   refine told_calls (fun w' => Below w.heap.size w w' ∧ Box3 w' w.heap.size (.int .u64 S) (.slice ao n nc) (.slice co m mc) ∧ Box3 w' (w.heap.size + 1) (.int .u64 S) (.slice ao' n' nc') (.slice co' m' mc')) ⟨hbel, hx, hy⟩ ?_
   clear hbel hx hy
   rintro w0 ⟨b0, x0, y0⟩
   refine (ints7_any ao ao' n nc n' nc' sh sh' w0 (by omega) (hsh1.out.below b0) (hsh2.out.below b0)).mono ?_
   rintro e' w1 ⟨hr, hb1⟩
   have b1 := Lib.hid (b0.trans (hb1.mono b0.size)); have x1 := x0.later hb1; have y1 := y0.later hb1
   have x1' := Lib.hid x1; have y1' := Lib.hid y1
   have z2 := x1.c2; have t2 := y1.c2
   clear b0 x0 y0 hb1 x1 y1
   rcases hr with ⟨rfl, hs⟩ | ⟨rfl, hs⟩
   ·have hs' := Lib.hid hs
    clear hs
    by_cases e4 : m = m'
    ·subst e4
     go_wp2_with fail
     go_loopw [5] (fun j wr => ∃ i : Nat, i ≤ m ∧ j = .int .i64 i ∧ Hid (∀ t, t < i → SameC (L t) (K t) (N t) (C t) (k t) (L' t) (K' t) (N' t) (C' t) (k' t) (fun j => SameT (sub t j) (sub' t j))) ∧ Hid (Box3 wr w.heap.size (.int .u64 S) (.slice ao n nc) (.slice co m mc)) ∧ Hid (Box3 wr (w.heap.size + 1) (.int .u64 S) (.slice ao' n' nc') (.slice co' m mc')) ∧ Hid (Below w.heap.size w wr)) (fun j _ => m - (intOfZ j).toNat)
     case atStart => exact ⟨0, Nat.zero_le _, rfl, Lib.hid fun t h => by omega, x1', y1', b1⟩
     case round =>
      obtain ⟨i, hi, rfl, hd, hx, hy, hb⟩ := hrel
      clear x1' y1' b1 z2 t2
      by_cases hlt : i < m
      ·rcases hc1.out with h0 | ⟨b, o, rfl, hcells⟩
       ·omega
       rcases hc2.out with h0 | ⟨b', o', rfl, hcells'⟩
       ·omega
       obtain ⟨e, he, hcell⟩ := hcells i hlt
       obtain ⟨f, hf, hcell'⟩ := hcells' i hlt
       have hbd := hb.out.drew
       have xd := hx.out.drew; have yd := hy.out.drew
       have u2 := hx.out.c2
       go_wp2_with fail
       have g2 := xd.c2; have l2 := yd.c2
       have m0 := cell_below (he 0 (by decide)) hbd
       rw [Nat.add_zero] at m0
       have n0 := cell_below (hf 0 (by decide)) hbd
       rw [Nat.add_zero] at n0
       have m1 := cell_below (he 1 (by decide)) hbd
       have n1 := cell_below (hf 1 (by decide)) hbd
       have m2 := cell_below (he 2 (by decide)) hbd
       have n2 := cell_below (hf 2 (by decide)) hbd
       have m3 := cell_below (he 3 (by decide)) hbd
       have n3 := cell_below (hf 3 (by decide)) hbd
       have m4 := cell_below (he 4 (by decide)) hbd
       have n4 := cell_below (hf 4 (by decide)) hbd
       have m5 := cell_below (he 5 (by decide)) hbd
       have n5 := cell_below (hf 5 (by decide)) hbd
       have m6 := cell_below (he 6 (by decide)) hbd
       have n6 := cell_below (hf 6 (by decide)) hbd
       have hcall := Lib.hid (fun (w' : World) (hw : Below w.heap.size w w') => sameCell8_of (L i) (K i) (N i) (C i) (k i) _ e (L' i) (K' i) (N' i) (C' i) (k' i) _ f (fun j => SameT (sub i j) (sub' i j)) w' (hcell.below hw fun j d0 d1 d2 _ hd => ArrP.below _ _ _ _ hd hw) (hcell'.below hw fun j d0 d1 d2 _ hd => ArrP.below _ _ _ _ hd hw)
        (fun j d0 d1 d2 e0 e1 e2 w'' r r' hw' => ih i j (sub' i j) d0 d1 d2 e0 e1 e2 w'' (ArrP.below _ _ _ _ r hw') (ArrP.below _ _ _ _ r' hw')))
       clear hcells hcells' he hf hcell hcell' u2
       have T1 : wr.drew.cell? ⟨w.heap.size, 2, none⟩ = some (.slice (some ⟨b, o, none⟩) m mc) ∧ wr.drew.cell? ⟨w.heap.size + 1, 2, none⟩ = some (.slice (some ⟨b', o', none⟩) m mc') ∧ wr.drew.cell? ⟨b, o + i * 7, none⟩ = some (e 0) ∧ wr.drew.cell? ⟨b, o + i * 7 + 1, none⟩ = some (e 1) ∧ wr.drew.cell? ⟨b, o + i * 7 + 2, none⟩ = some (e 2) ∧ wr.drew.cell? ⟨b, o + i * 7 + 3, none⟩ = some (e 3) ∧ wr.drew.cell? ⟨b, o + i * 7 + 4, none⟩ = some (e 4) ∧ wr.drew.cell? ⟨b, o + i * 7 + 5, none⟩ = some (e 5) ∧ wr.drew.cell? ⟨b, o + i * 7 + 6, none⟩ = some (e 6) ∧ wr.drew.cell? ⟨b', o' + i * 7, none⟩ = some (f 0) ∧ wr.drew.cell? ⟨b', o' + i * 7 + 1, none⟩ = some (f 1) ∧ wr.drew.cell? ⟨b', o' + i * 7 + 2, none⟩ = some (f 2) ∧ wr.drew.cell? ⟨b', o' + i * 7 + 3, none⟩ = some (f 3) ∧ wr.drew.cell? ⟨b', o' + i * 7 + 4, none⟩ = some (f 4) ∧ wr.drew.cell? ⟨b', o' + i * 7 + 5, none⟩ = some (f 5) ∧ wr.drew.cell? ⟨b', o' + i * 7 + 6, none⟩ = some (f 6) := And.intro (g2) (And.intro (l2) (And.intro (m0) (And.intro (m1) (And.intro (m2) (And.intro (m3) (And.intro (m4) (And.intro (m5) (And.intro (m6) (And.intro (n0) (And.intro (n1) (And.intro (n2) (And.intro (n3) (And.intro (n4) (And.intro (n5) (n6)))))))))))))))
       go_region_held3 (fun w' => w'.cell? ⟨w.heap.size, 2, none⟩ = some (.slice (some ⟨b, o, none⟩) m mc) ∧ w'.cell? ⟨w.heap.size + 1, 2, none⟩ = some (.slice (some ⟨b', o', none⟩) m mc') ∧ w'.cell? ⟨b, o + i * 7, none⟩ = some (e 0) ∧ w'.cell? ⟨b, o + i * 7 + 1, none⟩ = some (e 1) ∧ w'.cell? ⟨b, o + i * 7 + 2, none⟩ = some (e 2) ∧ w'.cell? ⟨b, o + i * 7 + 3, none⟩ = some (e 3) ∧ w'.cell? ⟨b, o + i * 7 + 4, none⟩ = some (e 4) ∧ w'.cell? ⟨b, o + i * 7 + 5, none⟩ = some (e 5) ∧ w'.cell? ⟨b, o + i * 7 + 6, none⟩ = some (e 6) ∧ w'.cell? ⟨b', o' + i * 7, none⟩ = some (f 0) ∧ w'.cell? ⟨b', o' + i * 7 + 1, none⟩ = some (f 1) ∧ w'.cell? ⟨b', o' + i * 7 + 2, none⟩ = some (f 2) ∧ w'.cell? ⟨b', o' + i * 7 + 3, none⟩ = some (f 3) ∧ w'.cell? ⟨b', o' + i * 7 + 4, none⟩ = some (f 4) ∧ w'.cell? ⟨b', o' + i * 7 + 5, none⟩ = some (f 5) ∧ w'.cell? ⟨b', o' + i * 7 + 6, none⟩ = some (f 6))
        (first | exact T1 | exact T2)
        (first
        | (go_at_call 35; refine (hcall.out _ hbd).mono ?_; rintro e2 w2 ⟨r, rfl, hr2', hb2⟩; have hb3 := hbd.trans (hb2.mono hbd.size); have x2 := xd.later hb2; have y2 := yd.later hb2; have T2 := And.intro (x2.c2) (And.intro (y2.c2) (And.intro (cell_below m0 hb2) (And.intro (cell_below m1 hb2) (And.intro (cell_below m2 hb2) (And.intro (cell_below m3 hb2) (And.intro (cell_below m4 hb2) (And.intro (cell_below m5 hb2) (And.intro (cell_below m6 hb2) (And.intro (cell_below n0 hb2) (And.intro (cell_below n1 hb2) (And.intro (cell_below n2 hb2) (And.intro (cell_below n3 hb2) (And.intro (cell_below n4 hb2) (And.intro (cell_below n5 hb2) (cell_below n6 hb2))))))))))))))); clear hb2))
       have hr3 := Lib.hid hr2'; have x3 := Lib.hid x2; have y3 := Lib.hid y2; have b3 := Lib.hid hb3
       clear hr2' x2 y2 hb3 hbd xd yd g2 l2 m0 n0 m1 n1 m2 n2 m3 n3 m4 n4 m5 n5 m6 n6 T1 T2
       cases r with
       | true =>
        go_wp2_with fail
        go_roundw
        case rel =>
         refine ⟨i + 1, by omega, by go_num, Lib.hid fun t ht => ?_, x3, y3, b3⟩
         by_cases e : t = i
         ·rw [e]; exact hr3.out.1 (by first | exact rfl | trivial)
         ·exact hd.out t (by omega)
        case measure => simp [intOfZ]; omega
       | false =>
        go_wp2_with fail
        go_ret
        exact ⟨false, rfl, ⟨fun h => (Bool.false_ne_true h).elim, fun h => absurd (hr3.out.2 (h.2.2.2 i hlt)) Bool.false_ne_true⟩, b3.out⟩
      ·obtain rfl : i = m := by omega
       have g2 := hx.out.c2
       go_wp2_with fail
       go_ret
       exact ⟨true, rfl, ⟨fun _ => ⟨rfl, hs'.out, rfl, hd.out⟩, fun _ => rfl⟩, hb.out⟩
    ·have hd : ((m : Int) != (m' : Int)) = true := by rw [bne_iff_ne]; omega
     have hn := Lib.hid e4
     clear e4
     go_wp2_with fail
     go_ret
     exact ⟨false, rfl, ⟨fun h => (Bool.false_ne_true h).elim, fun h => absurd h.2.2.1 hn.out⟩, b1.out⟩
   ·have hs' := Lib.hid hs
    clear hs
    go_wp2_with fail
    go_ret
    exact ⟨false, rfl, ⟨fun h => (Bool.false_ne_true h).elim, fun h => absurd h.2.1 hs'.out⟩, b1.out⟩
  ·have hd : ((S : Int) != (S' : Int)) = true := by rw [bne_iff_ne]; omega
   have hn := Lib.hid e1
   clear e1 hx hy
   go_enter Tryz.func82, Tryz.ntmps82
   go_wp2_with fail
   go_ret
   exact ⟨false, rfl, ⟨fun h => (Bool.false_ne_true h).elim, fun h => absurd h.1 hn.out⟩, hbel⟩
end Go.Proofs.YtaepelipkkmeaaaGreat
namespace Go.Proofs.YtaepelipkkmeaaaGreat
open Go.RowKit Num
theorem rowsN_snoc (es : Nat → List Value) (n : Nat) (x : List Value) : rowsN es n ++ x = rowsN (putL es n x) (n + 1) := by
 unfold rowsN
 rw [List.range_succ, List.flatMap_append]
 congr 1
 ·rw [List.flatMap_def, List.flatMap_def]
  refine congrArg List.flatten (List.map_congr_left fun t ht => ?_)
  have := List.mem_range.1 ht
  unfold putL
  rw [if_neg (by omega)]
 ·simp [putL]
end Go.Proofs.YtaepelipkkmeaaaGreat
namespace Go.Proofs.YtaepelipkkmeaaaGreat
open Go.RowKit Num
theorem own_upto {w w' : World} {U B size n : Nat} {e : TypeId} {v : Value} {xs : List Value} (h : w.ownsRow B e size v n xs) (hb : ∀ b, b < U → w'.heap[b]? = w.heap[b]?) (hv : ∀ g, v.ownBlock = some g → g < U) : w'.ownsRow B e size v n xs := by
 refine ⟨h.1, ?_⟩
 rcases h.2 with h0 | ⟨g, cap, cur, rfl, hB, hg, rest⟩
 ·exact .inl h0
 ·exact .inr ⟨g, cap, cur, rfl, hB, (hb g (hv g rfl)).trans hg, rest⟩
theorem own_but {w w' : World} {D B size n : Nat} {e : TypeId} {v : Value} {xs : List Value} (h : w.ownsRow B e size v n xs) (hb : ∀ b, b ≠ D → w'.heap[b]? = w.heap[b]?) (hv : ∀ g, v.ownBlock = some g → g ≠ D) : w'.ownsRow B e size v n xs := by
 refine ⟨h.1, ?_⟩
 rcases h.2 with h0 | ⟨g, cap, cur, rfl, hB, hg, rest⟩
 ·exact .inl h0
 ·exact .inr ⟨g, cap, cur, rfl, hB, (hb g (hv g rfl)).trans hg, rest⟩
end Go.Proofs.YtaepelipkkmeaaaGreat
namespace Go.Proofs.YtaepelipkkmeaaaGreat
open Go.RowKit Num
theorem Box7.set6 {w : World} {B : Nat} {z0 z1 z2 z3 z4 z5 z6 : Value} (h : Box7 w B z0 z1 z2 z3 z4 z5 z6) (v : Value) : Box7 (w.setCell ⟨B, 6, none⟩ v) B z0 z1 z2 z3 z4 z5 v := by
 have ne : ∀ {j k : Nat}, j ≠ k → (⟨B, j, none⟩ : Addr) ≠ ⟨B, k, none⟩ := fun h e => h (by injection e)
 exact ⟨(cell_set_ne (ne (by decide))).trans h.c0, (cell_set_ne (ne (by decide))).trans h.c1, (cell_set_ne (ne (by decide))).trans h.c2, (cell_set_ne (ne (by decide))).trans h.c3, (cell_set_ne (ne (by decide))).trans h.c4, (cell_set_ne (ne (by decide))).trans h.c5, World.cell?_setCell_same _ _ _ h.c6, fun j => by rw [World.frozen?_setCell]; exact h.fr j⟩
theorem seven_at (w : World) (v0 v1 v2 v3 v4 v5 v6 : Value) (t : TypeId) : ∀ j u, [v0, v1, v2, v3, v4, v5, v6][j]? = some u → (w.alloc (.cells #[v0, v1, v2, v3, v4, v5, v6] t)).cell? ((⟨w.heap.size, 0, none⟩ : Addr).add j) = some u := by
 intro j u h
 match j, h with
 | 0, h => simp at h; subst h; simp [Addr.add]
 | 1, h => simp at h; subst h; simp [Addr.add]
 | 2, h => simp at h; subst h; simp [Addr.add]
 | 3, h => simp at h; subst h; simp [Addr.add]
 | 4, h => simp at h; subst h; simp [Addr.add]
 | 5, h => simp at h; subst h; simp [Addr.add]
 | 6, h => simp at h; subst h; simp [Addr.add]
 | _ + 7, h => simp at h
end Go.Proofs.YtaepelipkkmeaaaGreat
namespace Go.Proofs.YtaepelipkkmeaaaGreat
open Go.RowKit
theorem may6_any (c : Int) (w : World) : Calls Tryz.prog 134 #[.int .i64 c] w fun e w' => e = .returned (.bool (mayZ c)) ∧ w = w' := by
 go_enter Tryz.func134, Tryz.ntmps134
 go_wp2_with fail
 all_goals (go_ret; refine ⟨?_, rfl⟩; unfold mayZ; simp_all; try omega)
end Go.Proofs.YtaepelipkkmeaaaGreat
namespace Go.Proofs.YtaepelipkkmeaaaGreat
open Go.RowKit Num
theorem numRight_any (N : NumF) (c0 c1 c2 : Value) (w : World) (h : NumP w N c0 c1 c2) :
  Calls Tryz.prog 14 #[.agg #[c0, c1, c2]] w (BoolPost (RightF N) w) := by
 obtain ⟨neg, an, fa, am, ga⟩ := N
 obtain ⟨rfl, ⟨ao, ac, rfl, hn, hs, hl⟩, ⟨bo, bc, rfl, hm, hs', hl'⟩⟩ := h
 refine (right4_in neg ao bo an ac am bc fa ga w ⟨hn.1, hn.2.1, hs, hl⟩ ⟨hm.1, hm.2.1, hs', hl'⟩).mono ?_
 rintro e w' ⟨r, rfl, h1, h2, hb⟩
 refine ⟨r, rfl, ⟨fun hr => ?_, fun ⟨P, Q, lw, e1, e2, e3⟩ => ?_⟩, hb⟩
 ·obtain ⟨P, Q, lw, R⟩ := h1 hr
  have n1 := R.top.len_le32 lw.2.2.1
  have n2 := R.bot.len_le32 (x := (Q : Int)) (by simpa using lw.2.2.2)
  have k1 := R.top.canon ⟨hn.1, hn.2.1, by omega, hs, hl⟩
  have k2 := R.bot.canon ⟨hm.1, hm.2.1, by omega, hs', hl'⟩
  obtain ⟨_, _, _, _, _, e⟩ := R.top.ex
  exact ⟨P, Q, lw, e, k1, by simpa using k2⟩
 ·refine h2 P Q lw ⟨⟨fa, hn.1, hn.2.1, hs, e2, e1⟩, ⟨ga, hm.1, hm.2.1, hs', by simpa using e3, by simp⟩⟩
theorem cell8_of (L : Nat) (K : Int) (N : NumF) (C : Int) (k : Nat) (R : Nat → Value → Value → Value → Prop) (e : Nat → Value) (T : Tree) (d : Nat) (P : Prop) (w : World) (h : CellP w L K N C k R e) (hd : d ≤ 8) (hR : ∀ d0 d1 d2, R 0 d0 d1 d2 → ArrP w T d0 d1 d2)
  (hS : ∀ d0 d1 d2 w', R 0 d0 d1 d2 → Below w.heap.size w w' → 0 < d → Calls Tryz.prog 27 #[.agg #[d0, d1, d2], .int .i64 ((d : Int) - 1)] w' (BoolPost P w')) :
  Calls Tryz.prog 84 #[.agg #[e 0, e 1, e 2, e 3, e 4, e 5, e 6], .int .i64 d] w (BoolPost (CellT K N C k (simpleT T) d P) w) := by
 obtain ⟨p0, pL, p1, pK, hN, p5, pC, io, kc, p6, hk, hrow⟩ := h
 obtain ⟨c0, hc0⟩ : ∃ x, x = e 2 := ⟨_, rfl⟩
 have hN' := Lib.hid hN
 obtain ⟨p2, ⟨ao, ac, p3, ha, _⟩, ⟨bo, bc, p4, hb, _⟩⟩ := hN
 rw [p2, p3, p4] at hN'
 rw [p0, p1, p2, p3, p4, p5, p6]
 have kk1 := hk.1; have kk2 := hk.2.1
 have hbel := Lib.hid ((Below.refl w.heap.size w).alloc (Nat.le_refl _) (.cells #[.int .u64 L, .int .i64 K, .bool N.neg, .slice ao N.an ac, .slice bo N.am bc, .int .i64 C, .slice io k kc] 65))
 have hx := Lib.hid (Box7.new (w := w) (B := w.heap.size) (.int .u64 L) (.int .i64 K) (.bool N.neg) (.slice ao N.an ac) (.slice bo N.am bc) (.int .i64 C) (.slice io k kc) 65 rfl)
 have hr1 := Lib.hid hrow; have hS' := Lib.hid hS; have hRT := Lib.hid hR
 clear p0 pL p1 pK p2 p3 p4 p5 pC p6 ha hb hk hrow hS hR hc0 c0
 by_cases K0 : K = 0
 ·subst K0
  by_cases C0 : C = 0
  ·subst C0
   by_cases k0 : k = 0
   ·subst k0
    go_enter Tryz.func84, Tryz.ntmps84
    go_wp2_with fail
    refine (numRight_any N _ _ _ _ (hN'.out.below hbel.out)).mono ?_
    rintro e' w1 ⟨r, rfl, hr, hb1⟩
    have b1 := Lib.hid (hbel.out.trans (hb1.mono hbel.out.size)); have hr' := Lib.hid hr
    clear hb1 hr
    go_wp2_with fail
    go_ret
    refine ⟨r, rfl, ⟨fun h => .inl ⟨rfl, rfl, rfl, hr'.out.1 h⟩, fun h => hr'.out.2 ?_⟩, b1.out⟩
    rcases h with h | h | h
    ·exact h.2.2.2
    ·exact absurd h.1 (by decide)
    ·exact absurd h.1 (by decide)
   ·have kb : ((k : Int) == 0) = false := by rw [beq_eq_false_iff_ne]; omega
    have hn := Lib.hid k0
    clear k0
    go_enter Tryz.func84, Tryz.ntmps84
    go_wp2_with fail
    go_ret
    refine ⟨false, rfl, ⟨fun h => (Bool.false_ne_true h).elim, fun h => ?_⟩, hbel.out⟩
    rcases h with h | h | h
    ·exact absurd h.2.2.1 hn.out
    ·exact absurd h.1 (by decide)
    ·exact absurd h.1 (by decide)
  ·have kb : (C == 0) = false := by rw [beq_eq_false_iff_ne]; exact C0
   have hn := Lib.hid C0
   clear C0
   go_enter Tryz.func84, Tryz.ntmps84
   go_wp2_with fail
   go_ret
   refine ⟨false, rfl, ⟨fun h => (Bool.false_ne_true h).elim, fun h => ?_⟩, hbel.out⟩
   rcases h with h | h | h
   ·exact absurd h.2.1 hn.out
   ·exact absurd h.1 (by decide)
   ·exact absurd h.1 (by decide)
 by_cases K1 : K = 1
 ·subst K1
  clear K0
  go_enter Tryz.func84, Tryz.ntmps84
  go_wp2_with fail
  refine (zero8_any N _ _ _ _ (hN'.out.below hbel.out)).mono ?_
  rintro e' w1 ⟨rfl, hb1⟩
  have b1 := Lib.hid (hbel.out.trans (hb1.mono hbel.out.size)); have x1 := hx.out.later hb1
  have g5 := x1.c5; have g6 := x1.c6
  clear hb1 hx x1
  obtain ⟨z, hz⟩ : ∃ z, z = zeroF N := ⟨_, rfl⟩
  have hz' := Lib.hid hz
  rw [← hz]
  clear hz
  cases z with
  | false =>
   go_wp2_with fail
   go_ret
   refine ⟨false, rfl, ⟨fun h => (Bool.false_ne_true h).elim, fun h => ?_⟩, b1.out⟩
   have hzo := hz'.out
   rcases h with h | h | h
   ·exact absurd h.1 (by decide)
   ·rw [h.2.1] at hzo; cases hzo
   ·exact absurd h.1 (by decide)
  | true =>
   by_cases k0 : k = 0
   ·subst k0
    go_wp2_with fail
    refine (may6_any C _).mono ?_
    rintro e' w2 ⟨rfl, rfl⟩
    go_wp2_with fail
    go_ret
    refine ⟨_, rfl, ⟨fun h => .inr (.inl ⟨rfl, hz'.out.symm, rfl, h⟩), fun h => ?_⟩, b1.out⟩
    rcases h with h | h | h
    ·exact absurd h.1 (by decide)
    ·exact h.2.2.2
    ·exact absurd h.1 (by decide)
   ·have kb : ((k : Int) == 0) = false := by rw [beq_eq_false_iff_ne]; omega
    have hn := Lib.hid k0
    clear k0
    go_wp2_with fail
    go_ret
    refine ⟨false, rfl, ⟨fun h => (Bool.false_ne_true h).elim, fun h => ?_⟩, b1.out⟩
    rcases h with h | h | h
    ·exact absurd h.1 (by decide)
    ·exact absurd h.2.2.1 hn.out
    ·exact absurd h.1 (by decide)
 by_cases K2 : K = 2
 ·subst K2
  clear K0 K1
  go_enter Tryz.func84, Tryz.ntmps84
  go_wp2_with fail
  refine (zero8_any N _ _ _ _ (hN'.out.below hbel.out)).mono ?_
  rintro e' w1 ⟨rfl, hb1⟩
  have b1 := Lib.hid (hbel.out.trans (hb1.mono hbel.out.size)); have x1 := hx.out.later hb1
  have hx1 := Lib.hid x1
  have g5 := x1.c5; have g6 := x1.c6
  clear hb1 hx x1
  obtain ⟨z, hz⟩ : ∃ z, z = zeroF N := ⟨_, rfl⟩
  have hz' := Lib.hid hz
  rw [← hz]
  clear hz
  cases z with
  | false =>
   go_wp2_with fail
   go_ret
   refine ⟨false, rfl, ⟨fun h => (Bool.false_ne_true h).elim, fun h => ?_⟩, b1.out⟩
   have hzo := hz'.out
   rcases h with h | h | h
   ·exact absurd h.1 (by decide)
   ·exact absurd h.1 (by decide)
   ·rw [h.2.1] at hzo; cases hzo
  | true =>
   by_cases C0 : C = 0
   ·subst C0
    by_cases k1 : k = 1
    ·subst k1
     by_cases d0 : d = 0
     ·subst d0
      go_wp2_with fail
      go_ret
      refine ⟨false, rfl, ⟨fun h => (Bool.false_ne_true h).elim, fun h => ?_⟩, b1.out⟩
      rcases h with h | h | h
      ·exact absurd h.1 (by decide)
      ·exact absurd h.1 (by decide)
      ·exact absurd h.2.2.2.2.1 (by decide)
     ·have hd0 : 0 < d := by omega
      have hd1 : (0 : Int) < (d : Int) := by omega
      clear d0
      rcases hr1.out with h0 | ⟨b, o, rfl, hrows⟩
      ·omega
      obtain ⟨u0, u1, u2, r0, r1, r2, r3⟩ := hrows 0 (by decide)
      rw [Nat.zero_mul, Nat.add_zero] at r0 r1 r2
      have s0 := cell_below r0 b1.out; have s1 := cell_below r1 b1.out; have s2 := cell_below r2 b1.out
      have hr3 := Lib.hid r3
      clear hrows
      go_wp2_with fail
      refine (simple8_any T u0 u1 u2 _ (ArrP.below _ _ _ _ (hRT.out _ _ _ hr3.out) b1.out)).mono ?_
      rintro e' w2 ⟨rfl, hb2⟩
      have b2 := Lib.hid (b1.out.trans (hb2.mono b1.out.size))
      have x2 := hx1.out.later hb2
      have t6 := x2.c6
      have v0 := cell_below r0 b2.out; have v1 := cell_below r1 b2.out; have v2 := cell_below r2 b2.out
      obtain ⟨si, hsi⟩ : ∃ si, si = simpleT T := ⟨_, rfl⟩
      have hsi' := Lib.hid hsi
      rw [← hsi]
      clear hsi s0 s1 s2 r0 r1 r2 r3 hb2 x2 g5 g6
      cases si with
      | true =>
       go_wp2_with fail
       go_ret
       refine ⟨false, rfl, ⟨fun h => (Bool.false_ne_true h).elim, fun h => ?_⟩, b2.out⟩
       have hso := hsi'.out
       rcases h with h | h | h
       ·exact absurd h.1 (by decide)
       ·exact absurd h.1 (by decide)
       ·rw [h.2.2.2.2.2.1] at hso; cases hso
      | false =>
       go_wp2_with fail
       refine (hS'.out u0 u1 u2 _ hr3.out b2.out hd0).mono ?_
       rintro e' w3 ⟨r, rfl, hr, hb3⟩
       have b3 := Lib.hid (b2.out.trans (hb3.mono b2.out.size)); have hr' := Lib.hid hr
       clear hb3 hr v0 v1 v2 t6
       go_wp2_with fail
       go_ret
       refine ⟨r, rfl, ⟨fun h => .inr (.inr ⟨rfl, hz'.out.symm, rfl, rfl, hd0, hsi'.out.symm, hr'.out.1 h⟩), fun h => hr'.out.2 ?_⟩, b3.out⟩
       rcases h with h | h | h
       ·exact absurd h.1 (by decide)
       ·exact absurd h.1 (by decide)
       ·exact h.2.2.2.2.2.2
    ·have kb : ((k : Int) == 1) = false := by rw [beq_eq_false_iff_ne]; omega
     have hn := Lib.hid k1
     clear k1
     go_wp2_with fail
     go_ret
     refine ⟨false, rfl, ⟨fun h => (Bool.false_ne_true h).elim, fun h => ?_⟩, b1.out⟩
     rcases h with h | h | h
     ·exact absurd h.1 (by decide)
     ·exact absurd h.1 (by decide)
     ·exact absurd h.2.2.2.1 hn.out
   ·have kb : (C == 0) = false := by rw [beq_eq_false_iff_ne]; exact C0
    have hn := Lib.hid C0
    clear C0
    go_wp2_with fail
    go_ret
    refine ⟨false, rfl, ⟨fun h => (Bool.false_ne_true h).elim, fun h => ?_⟩, b1.out⟩
    rcases h with h | h | h
    ·exact absurd h.1 (by decide)
    ·exact absurd h.1 (by decide)
    ·exact absurd h.2.2.1 hn.out
 have kb0 : (K == 0) = false := by rw [beq_eq_false_iff_ne]; exact K0
 have kb1 : (K == 1) = false := by rw [beq_eq_false_iff_ne]; exact K1
 have kb2 : (K == 2) = false := by rw [beq_eq_false_iff_ne]; exact K2
 have h0 := Lib.hid K0; have h1 := Lib.hid K1; have h2 := Lib.hid K2
 clear K0 K1 K2
 go_enter Tryz.func84, Tryz.ntmps84
 go_wp2_with fail
 go_ret
 refine ⟨false, rfl, ⟨fun h => (Bool.false_ne_true h).elim, fun h => ?_⟩, hbel.out⟩
 rcases h with h | h | h
 ·exact absurd h.1 h0.out
 ·exact absurd h.1 h1.out
 ·exact absurd h.1 h2.out
end Go.Proofs.YtaepelipkkmeaaaGreat
namespace Go.Proofs.YtaepelipkkmeaaaGreat
open Go.RowKit Num
theorem right8_any : ∀ (A : Tree) (d : Nat) (c0 c1 c2 : Value) (w : World), ArrP w A c0 c1 c2 → d ≤ 8 →
  Calls Tryz.prog 27 #[.agg #[c0, c1, c2], .int .i64 d] w (BoolPost (RightT A d) w) := by
 intro A
 induction A with
 | leaf => intros; exact (ArrP.leaf ‹ArrP _ Tree.leaf _ _ _›).elim
 | arr S n sh m L K C N k sub ih =>
  intro d c0 c1 c2 w h hd8
  obtain ⟨rfl, _, ⟨ao, nc, rfl, hn, hsh, _⟩, co, mc, rfl, hm, hc⟩ := h
  have n1 := hn.1; have n2 := hn.2.1; have m1 := hm.1; have m2 := hm.2.1; have m3 := hm.2.2
  have hbel := Lib.hid ((Below.refl w.heap.size w).alloc (Nat.le_refl _) (.cells #[.int .u64 S, .slice ao n nc, .slice co m mc] 45))
  have hx := Lib.hid (Box3.new (w := w) (B := w.heap.size) (.int .u64 S) (.slice ao n nc) (.slice co m mc) 45 rfl)
  have hsh1 := Lib.hid (hsh.below hbel.out)
  have hc1 := Lib.hid hc
  clear hn hm hsh hc
  go_enter Tryz.func27, Tryz.ntmps27
  go_wp2_with fail
  refine (count7_any ao n nc sh _ (by omega) hsh1.out).mono ?_
  rintro e' w1 ⟨⟨M, E, rfl, hcnt⟩, rfl⟩
  have hcnt' := Lib.hid hcnt
  have z2 := hx.out.c2
  clear hcnt
  by_cases hE : E = 0
  ·subst hE
   have hs := Lib.hid (hcnt'.out.shape rfl)
   by_cases hM : M = m
   ·subst hM
    go_wp2_with fail
    go_loopw [7] (fun j wr => ∃ i : Nat, i ≤ m ∧ j = .int .i64 i ∧ Hid (∀ t, t < i → CellT (K t) (N t) (C t) (k t) (simpleT (sub t 0)) d (RightT (sub t 0) (d - 1))) ∧ Hid (Box3 wr w.heap.size (.int .u64 S) (.slice ao n nc) (.slice co m mc)) ∧ Hid (Below w.heap.size w wr)) (fun j _ => m - (intOfZ j).toNat)
    case atStart => exact ⟨0, Nat.zero_le _, rfl, Lib.hid fun t h => by omega, hx, hbel⟩
    case round =>
     obtain ⟨i, hi, rfl, hd, hx2, hb⟩ := hrel
     clear hx hbel hsh1 z2
     by_cases hlt : i < m
     ·rcases hc1.out with h0 | ⟨b, o, rfl, hcells⟩
      ·omega
      obtain ⟨e, he, hcell⟩ := hcells i hlt
      have u2 := hx2.out.c2
      have m0 := cell_below (he 0 (by decide)) hb.out
      rw [Nat.add_zero] at m0
      have m1 := cell_below (he 1 (by decide)) hb.out
      have m2 := cell_below (he 2 (by decide)) hb.out
      have m3 := cell_below (he 3 (by decide)) hb.out
      have m4 := cell_below (he 4 (by decide)) hb.out
      have m5 := cell_below (he 5 (by decide)) hb.out
      have m6 := cell_below (he 6 (by decide)) hb.out
      have hcall := Lib.hid (cell8_of (L i) (K i) (N i) (C i) (k i) _ e (sub i 0) d (RightT (sub i 0) (d - 1)) wr (hcell.below hb.out fun j d0 d1 d2 _ hd => ArrP.below _ _ _ _ hd hb.out) hd8 (fun d0 d1 d2 r => r)
       (fun d0 d1 d2 w' r hw' hd0 => by
        have q := ih i 0 (d - 1) d0 d1 d2 w' (ArrP.below _ _ _ _ r hw') (by omega)
        rwa [show (((d - 1 : Nat) : Int)) = (d : Int) - 1 from by omega] at q))
      clear hcells he hcell
      go_wp2_with fail
      refine hcall.out.mono ?_
      rintro e2 w2 ⟨r, rfl, hr, hb2⟩
      have hr' := Lib.hid hr
      have b3 := Lib.hid (hb.out.trans (hb2.mono hb.out.size)); have x3 := Lib.hid (hx2.out.later hb2)
      clear hr hb2 hcall u2 m0 m1 m2 m3 m4 m5 m6
      cases r with
      | true =>
       go_wp2_with fail
       go_roundw
       case rel =>
        refine ⟨i + 1, by omega, by go_num, Lib.hid fun t ht => ?_, x3, b3⟩
        by_cases e : t = i
        ·rw [e]; exact hr'.out.1 (by first | exact rfl | trivial)
        ·exact hd.out t (by omega)
       case measure => simp [intOfZ]; omega
      | false =>
       go_wp2_with fail
       go_ret
       exact ⟨false, rfl, ⟨fun h => (Bool.false_ne_true h).elim, fun h => absurd (hr'.out.2 (h.2 i hlt)) Bool.false_ne_true⟩, b3.out⟩
     ·obtain rfl : i = m := by omega
      go_wp2_with fail
      go_ret
      exact ⟨true, rfl, ⟨fun _ => ⟨hs.out, hd.out⟩, fun _ => rfl⟩, hb.out⟩
   ·have hd : (M != (m : Int)) = true := by rw [bne_iff_ne]; exact hM
    have hn := Lib.hid hM
    clear hM
    go_wp2_with fail
    go_ret
    refine ⟨false, rfl, ⟨fun h => (Bool.false_ne_true h).elim, fun h => absurd ?_ hn.out⟩, hbel.out⟩
    rw [hs.out.all, ← h.1.all]
  ·have hd : (E != 0) = true := by rw [bne_iff_ne]; exact hE
   have hn := Lib.hid hE
   clear hE
   go_wp2_with fail
   go_ret
   exact ⟨false, rfl, ⟨fun h => (Bool.false_ne_true h).elim, fun h => absurd h.1 ((hcnt'.out.none hn.out).2.2 _)⟩, hbel.out⟩
end Go.Proofs.YtaepelipkkmeaaaGreat
namespace Go.Proofs.YtaepelipkkmeaaaGreat
open Go.RowKit Num
theorem fit_not {P : Int} {Q : Nat} : Fit (notR P Q) := by
 unfold notR
 split
 ·exact fit_low (low_small (by decide))
 split
 ·exact fit_low (low_small (by decide))
 ·exact fit_err (by decide)
theorem fit_fact {P : Int} {Q : Nat} : Fit (factR P Q) := by
 unfold factR
 split
 ·split
  ·exact fit_mk _ _
  ·exact fit_err (by decide)
 ·exact fit_err (by decide)
theorem fit_one (f : Int) {P : Int} {Q : Nat} (h : Low P Q) : Fit (numR f P Q) := by
 unfold numR
 split
 ·exact fit_low h
 split
 ·exact fit_low h.neg
 split
 ·exact fit_low (low_small (by have := cmpI_small P 0; omega))
 split
 ·exact fit_mk _ _
 split
 ·exact fit_low (low_floor h.neg).neg
 split
 ·exact fit_low (low_floor h)
 split
 ·exact fit_low h.abs
 split
 ·exact fit_not
 split
 ·exact fit_fact
 ·exact fit_err (by decide)
end Go.Proofs.YtaepelipkkmeaaaGreat
