/-
  ratio.Whole, Of, Sign, Neg, Abs, Cmp.
  scrimref03.Of; scrimlaw03.awake: chapter 3's examples hold.
  What the laws of ratio ask for: a number as it is handed in; which ones are right; Make where it goes; brackets.
  scrimref03.Pow.
  ratio.Pow, scrimref04.Pow.
  scrimref10.Number but for the product: what it tells of a right number.
  scrimref10.truth, scrimref04.Small, scrimref10.Numbers: what it tells of two right numbers.
-/
import Derived.Test.YtaepelipkkmeaaaGreatMgtA
import Derived.Test.YtaepelipkkmeaaaGreatMgtB
import Derived.Test.YtaepelipkkmeaaaGreatMgtC
import Derived.Test.YtaepelipkkmeaaaGreatMgtD
import Derived.Test.YtaepelipkkmeaaaGreatMgtE
import Derived.Test.YtaepelipkkmeaaaGreatMgtF
import Derived.Deep.LoopGhost
import Derived.WalkKit
import Derived.Lib.BitFns
import Derived.Laws.CopyOwn
import Derived.Deep.RegionWith
import Derived.Deep.RegionHeld3
import Derived.Deep.DrawnRows
import Derived.Deep.CutRange
import Derived.Lib.Small
import Derived.Lib.Walk
import Derived.Deep.QuietTactic
import Derived.BigQuiet
import Derived.WalkSpells
import Derived.WalkLawsBesides
import Derived.Lib.Hide
set_option maxRecDepth 20000
set_option maxHeartbeats 16000000
namespace Go.Proofs.YtaepelipkkmeaaaGreat
open Go.RowKit Num
attribute [local go_sem ↓] Go.wp_at_zero Go.wp_at_succ
theorem Whole.nat {w : World} {b : Bool} {ao : Option Addr} {n nc : Nat} {x : Int} (h : Whole w b ao n nc x) : Whole w false ao n nc x.natAbs := by
 obtain ⟨f, A, rfl⟩ := h.ex
 exact ⟨f, A, by rw [sgn_abs]; rfl⟩
theorem abs_any (ab : Bool) (ap aq : Option Addr) (an ac am ae : Nat) (P : Int) (Q : Nat) (w : World) (A : Rt w ab ap an ac aq am ae P Q) (lA : Low P Q) :
  Calls Tryz.prog 55 #[.agg #[.bool ab, .slice ap an ac, .slice aq am ae]] w (RatPost (P.natAbs) Q w) := by
 have lA' := Lib.hid lA
 have A' := Lib.hid A
 clear lA A
 go_enter Tryz.func55, Tryz.ntmps55
 go_wp2_with fail
 refine gen_wp (fun w' => Below w.heap.size w w' ∧ Box3 w' w.heap.size (.bool ab) (.slice ap an ac) (.slice aq am ae) ∧ Box3 w' (w.heap.size + 1) (.bool false) (.slice none 0 0) (.slice none 0 0))
  ⟨(((Below.refl _ _).alloc (Nat.le_refl _) _).alloc (by simp <;> omega) _), ((Box3.new _ _ _ _ rfl).alloc _), (Box3.new _ _ _ _ (by simp <;> omega))⟩ ?_
 rintro w0 ⟨bb, x0, x1⟩
 have bb := bb.drew; have x0 := x0.drew; have x1 := x1.drew
 have A := A'.out.below bb
 clear A'
 have sb0 := True.intro
 go_region_held3 (fun w' => w'.cell? ⟨w.heap.size, 0, none⟩ = some (.bool ab) ∧ w'.cell? ⟨w.heap.size, 1, none⟩ = some (.slice ap an ac) ∧ w'.cell? ⟨w.heap.size, 2, none⟩ = some (.slice aq am ae))
  (first | with_reducible exact ⟨x0.c0, x0.c1, x0.c2⟩ | with_reducible exact ⟨(x0.other3 (by omega) _ _ _).c0, (x0.other3 (by omega) _ _ _).c1, (x0.other3 (by omega) _ _ _).c2⟩ | go_keep)
  (first
  | (go_at_call 115; clear sb0; refine (wNorm_any false ap an ac P.natAbs _ (A.upper lA'.out).nat).mono ?_; rintro e w' ⟨eb, eo, en, ec, rfl, h1, hb⟩; have bb := below_then bb (Nat.le_refl _) hb; have x0 := x0.later hb; have x1 := x1.later hb; have A := A.below hb; clear hb; have sb1 := True.intro)
  | (go_at_call 105; clear sb1; refine (over_w eb eo aq en ec am ae (P.natAbs) Q _ h1 (A.lower lA'.out)).mono ?_; rintro e w' ⟨gb, gp, gn, gc, gq, gm, ge, rfl, hR, hb⟩; have bb := below_then bb (Nat.le_refl _) hb; have x0 := x0.later hb; have x1 := x1.later hb; have A := A.below hb; have h1 := h1.below hb; clear hb; have q0 := x1.c0; have q1 := x1.c1; have q2 := x1.c2; have q3 := x1.fr 0; have q4 := x1.fr 1; have q5 := x1.fr 2; have sb2 := True.intro))
 have z := x1.set (.bool gb) (.slice gp gn gc) (.slice gq gm ge)
 have e0 := z.c0; have e1 := z.c1; have e2 := z.c2
 have x1' := Lib.hid x1; have bb' := Lib.hid bb; have hR' := Lib.hid hR
 clear z x1 bb x0 A hR
 go_wp2_with fail
 refine bodyPost_ret (v := .agg #[.bool gb, .slice gp gn gc, .slice gq gm ge]) (by simp [results, Tryz.results55, go_sem, e0, e1, e2]) rfl ?_
 exact RatPost.stored hR'.out x1'.out bb'.out (by omega)
end Go.Proofs.YtaepelipkkmeaaaGreat
namespace Go.Proofs.YtaepelipkkmeaaaGreat
open Go.RowKit Num
attribute [local go_sem ↓] Go.wp_at_zero Go.wp_at_succ
theorem Right.drew {w : World} {b : Bool} {ao : Option Addr} {n nc : Nat} {x : Int} (h : Right w b ao n nc x) : Right w.drew b ao n nc x := h.below (Below.refl _ w).drew
end Go.Proofs.YtaepelipkkmeaaaGreat
namespace Go.Proofs.YtaepelipkkmeaaaGreat
open Go.RowKit Num
attribute [local go_sem ↓] Go.wp_at_zero Go.wp_at_succ
theorem In.below {w w' : World} {ao : Option Addr} {n nc : Nat} {f : Nat → Nat} (h : In w ao n nc f) (hb : Below w.heap.size w w') : In w' ao n nc f := ⟨h.len, h.cap, h.sl.below hb, h.lim⟩
end Go.Proofs.YtaepelipkkmeaaaGreat
namespace Go.Proofs.YtaepelipkkmeaaaGreat
open Go.RowKit Num
attribute [local go_sem ↓] Go.wp_at_zero Go.wp_at_succ
theorem rPow_any (b : Bool) (ao : Option Addr) (n nc : Nat) (x k : Int) (w : World) (A : Whole w b ao n nc x) (hx : x.natAbs < pw 64) (k0 : -9223372036854775808 ≤ k) (k1 : k ≤ 9223372036854775807) :
  Calls Tryz.prog 129 #[.agg #[.bool b, .slice ao n nc], .int .i64 k] w (PowPost k x w) := by
 have A' := Lib.hid A; have hx' := Lib.hid hx
 clear A hx
 by_cases hneg : k < 0
 ·have p1 : Hid (powE k x = 3) := Lib.hid (by simp [powE, hneg]); have p2 : Hid (powV k x = 0) := Lib.hid (by simp [powV, hneg])
  go_enter Tryz.func129, Tryz.ntmps129
  go_wp2_with fail
  refine bodyPost_ret (v := .tuple #[.agg #[.bool false, .slice none 0 0], .int .i64 3]) (by simp [results, Tryz.results129, go_sem]) rfl ?_
  refine ⟨false, none, 0, 0, ?_, ?_, ((Below.refl _ w).alloc (Nat.le_refl _) _).alloc (by simp) _⟩
  ·rw [p1.out]
  ·rw [p2.out]; exact zero_right _
 obtain ⟨m, rfl⟩ := Int.eq_ofNat_of_zero_le (Int.not_lt.1 hneg)
 go_enter Tryz.func129, Tryz.ntmps129
 go_upto_region 3 with fail
 refine gen_wp (fun w' => Below w.heap.size w w' ∧ Box w' w.heap.size (.bool b) (.slice ao n nc) ∧ Box w' (w.heap.size + 1) (.bool false) (.slice none 0 0))
  ⟨(((Below.refl _ w).alloc (Nat.le_refl _) _).alloc (by simp <;> omega) _), ((Box.new _ _ _ rfl).alloc _), (Box.new _ _ _ (by simp <;> omega))⟩ ?_
 rintro w0 ⟨hb0, x0, x1⟩
 go_cut [6, 7] from 11 to 13 (fun s t wx => ∃ P Q pb po pn pc sb so sn sc, s = .pointer (some ⟨P, 0, none⟩) ∧ t = .pointer (some ⟨Q, 0, none⟩) ∧ Box wx P (.bool pb) (.slice po pn pc) ∧ Box wx Q (.bool sb) (.slice so sn sc) ∧ Box wx (w.heap.size + 1) (.bool false) (.slice none 0 0) ∧
  w.heap.size + 1 < P ∧ w.heap.size + 1 < Q ∧ P ≠ Q ∧ Right wx pb po pn pc 1 ∧ Right wx sb so sn sc x ∧ Below w.heap.size w wx)
 case first =>
  have l0 := x0.lt; have l1 := x1.lt; have gs0 := hb0.size
  have gb0 := hb0; have A0 := A'.out.below hb0
  go_region_held3 (fun w' => w'.cell? ⟨w.heap.size, 0, none⟩ = some (.bool b) ∧ w'.cell? ⟨w.heap.size, 1, none⟩ = some (.slice ao n nc))
   (first | with_reducible exact ⟨x0.drew.c0, x0.drew.c1⟩ | with_reducible exact ⟨(x0.alloc _).drew.c0, (x0.alloc _).drew.c1⟩ | with_reducible exact ⟨((x0.alloc _).alloc _).drew.c0, ((x0.alloc _).alloc _).drew.c1⟩ | with_reducible exact ⟨y0.c0, y0.c1⟩ | with_reducible exact ⟨(y0.alloc _).c0, (y0.alloc _).c1⟩ | with_reducible exact ⟨((y0.alloc _).alloc _).c0, ((y0.alloc _).alloc _).c1⟩ | with_reducible exact ⟨z0.c0, z0.c1⟩ | with_reducible exact ⟨(z0.alloc _).c0, (z0.alloc _).c1⟩ | with_reducible exact ⟨((z0.alloc _).alloc _).c0, ((z0.alloc _).alloc _).c1⟩ | with_reducible exact ⟨(z0.other (by omega) _ _).c0, (z0.other (by omega) _ _).c1⟩ | with_reducible exact ⟨((z0.other (by omega) _ _).alloc _).c0, ((z0.other (by omega) _ _).alloc _).c1⟩ | with_reducible exact ⟨((z0.other (by omega) _ _).other (by omega) _ _).c0, ((z0.other (by omega) _ _).other (by omega) _ _).c1⟩ | go_keep)
   (first
   | (go_at_call 97; refine (rOf_any 1 _ (by decide) (by decide)).mono ?_; rintro e w1 ⟨pb, po, pn, pc, rfl, hR1, hb1⟩; have hc1 : Below w0.heap.size w0 w1 := (by (first | exact (Below.refl _ _).drew.trans hb1 | exact ((Below.refl _ _).alloc (by first | exact Nat.le_refl _ | (simp; done) | (simp; omega)) _).drew.trans (hb1.mono (by simp <;> omega)) | exact (((Below.refl _ _).alloc (by first | exact Nat.le_refl _ | (simp; done) | (simp; omega)) _).alloc (by first | exact Nat.le_refl _ | (simp; done) | (simp; omega)) _).drew.trans (hb1.mono (by simp <;> omega)))); have hz1 := hc1.size; have y0 := x0.later hc1; have ly0 := y0.lt; have y1 := x1.later hc1; have ly1 := y1.lt; have A1 := A0.below hc1; have gb1 := below_then gb0 (Nat.le_refl _) hc1; have gs1 := gb1.size; (first | (with_reducible have mm := made2' hb1; obtain ⟨m10, m11⟩ := mm) | (with_reducible have m10 := made1' hb1) | skip); (try have k10 := m10.lt); (try have k11 := m11.lt))
   | (go_at_call 95; refine (rNorm_any b ao n nc x _ ?_).mono ?_; (first | with_reducible exact A1 | with_reducible exact (A1.alloc _) | with_reducible exact ((A1.alloc _).alloc _)); rintro e w2 ⟨sb, so, sn, sc, rfl, hR2, hb2⟩; have hc2 : Below w1.heap.size w1 w2 := (by (first | with_reducible exact hb2 | exact ((Below.refl _ _).alloc (by first | exact Nat.le_refl _ | (simp; done) | (simp; omega)) _).trans (hb2.mono (by simp <;> omega)) | exact (((Below.refl _ _).alloc (by first | exact Nat.le_refl _ | (simp; done) | (simp; omega)) _).alloc (by first | exact Nat.le_refl _ | (simp; done) | (simp; omega)) _).trans (hb2.mono (by simp <;> omega)))); have hz2 := hc2.size; have z0 := y0.later hc2; have lz0 := z0.lt; have z1 := y1.later hc2; have lz1 := z1.lt; have hR1 := hR1.below hc2; have gb2 := below_then gb1 (Nat.le_refl _) hc2; have gs2 := gb2.size; (try have m10 := m10.later hc2); (try have m11 := m11.later hc2); (first | (with_reducible have mm := made2 hb2; obtain ⟨m20, m21⟩ := mm) | (with_reducible have m20 := made1 hb2) | skip); (try have k10 := m10.lt); (try have k11 := m11.lt); (try have k20 := m20.lt); (try have k21 := m21.lt); (try (have f100 := m10.c0; have f101 := m10.c1; have f102 := m10.fr 0; have f103 := m10.fr 1)); (try (have f110 := m11.c0; have f111 := m11.c1; have f112 := m11.fr 0; have f113 := m11.fr 1)); (try (have f200 := m20.c0; have f201 := m20.c1; have f202 := m20.fr 0; have f203 := m20.fr 1)); (try (have f210 := m21.c0; have f211 := m21.c1; have f212 := m21.fr 0; have f213 := m21.fr 1))))
  ·go_wp2_with fail; go_meet; exact ⟨_, _, _, _, _, _, _, _, _, _, rfl, rfl, ((Box.new _ _ _ (by first | rfl | (simp; done))).alloc _), (Box.new _ _ _ (by first | rfl | (simp; done))), ((z1.alloc _).alloc _), by first | omega | (simp; omega), by first | omega | (simp; omega), by first | omega | (simp; omega), ((hR1.alloc _).alloc _), ((hR2.alloc _).alloc _), (Below.alloc (Below.alloc gb2 (by first | omega | simp <;> omega) _) (by first | omega | simp <;> omega) _)⟩
  ·go_wp2_with fail; go_meet; exact ⟨_, _, _, _, _, _, _, _, _, _, rfl, rfl, (Box.new _ _ _ (by first | rfl | (simp; done))), ((Box.new _ _ _ (by first | rfl | (simp; done))).alloc _), ((z1.alloc _).alloc _), by first | omega | (simp; omega), by first | omega | (simp; omega), by first | omega | (simp; omega), ((hR1.alloc _).alloc _), ((hR2.alloc _).alloc _), (Below.alloc (Below.alloc gb2 (by first | omega | simp <;> omega) _) (by first | omega | simp <;> omega) _)⟩
  ·go_wp2_with fail; go_meet; exact ⟨_, _, _, _, _, _, _, _, _, _, rfl, rfl, ((m20.set _ _).alloc _), (Box.new _ _ _ (by first | rfl | (simp; done))), ((z1.other (by omega) _ _).alloc _), by first | omega | (simp; omega), by first | omega | (simp; omega), by first | omega | (simp; omega), ((hR1.box m20 _ _).alloc _), ((hR2.box m20 _ _).alloc _), (Below.alloc (below_set gb2 (by omega) _ _) (by first | omega | simp <;> omega) _)⟩
  ·go_wp2_with fail; go_meet; exact ⟨_, _, _, _, _, _, _, _, _, _, rfl, rfl, ((m20.set _ _).other (by omega) _ _), ((m21.other (by omega) _ _).set _ _), ((z1.other (by omega) _ _).other (by omega) _ _), by first | omega | (simp; omega), by first | omega | (simp; omega), by first | omega | (simp; omega), ((hR1.box m20 _ _).box (m21.other (by omega) _ _) _ _), ((hR2.box m20 _ _).box (m21.other (by omega) _ _) _ _), (below_set (below_set gb2 (by omega) _ _) (by omega) _ _)⟩
  ·go_wp2_with fail; go_meet; exact ⟨_, _, _, _, _, _, _, _, _, _, rfl, rfl, (Box.new _ _ _ (by first | rfl | (simp; done))), ((m20.set _ _).alloc _), ((z1.other (by omega) _ _).alloc _), by first | omega | (simp; omega), by first | omega | (simp; omega), by first | omega | (simp; omega), ((hR1.box m20 _ _).alloc _), ((hR2.box m20 _ _).alloc _), (Below.alloc (below_set gb2 (by omega) _ _) (by first | omega | simp <;> omega) _)⟩
  ·go_wp2_with fail; go_meet; exact ⟨_, _, _, _, _, _, _, _, _, _, rfl, rfl, ((m21.set _ _).other (by omega) _ _), ((m20.other (by omega) _ _).set _ _), ((z1.other (by omega) _ _).other (by omega) _ _), by first | omega | (simp; omega), by first | omega | (simp; omega), by first | omega | (simp; omega), ((hR1.box m21 _ _).box (m20.other (by omega) _ _) _ _), ((hR2.box m21 _ _).box (m20.other (by omega) _ _) _ _), (below_set (below_set gb2 (by omega) _ _) (by omega) _ _)⟩
  ·go_wp2_with fail; go_meet; exact ⟨_, _, _, _, _, _, _, _, _, _, rfl, rfl, ((m10.set _ _).alloc _), (Box.new _ _ _ (by first | rfl | (simp; done))), ((z1.other (by omega) _ _).alloc _), by first | omega | (simp; omega), by first | omega | (simp; omega), by first | omega | (simp; omega), ((hR1.box m10 _ _).alloc _), ((hR2.box m10 _ _).alloc _), (Below.alloc (below_set gb2 (by omega) _ _) (by first | omega | simp <;> omega) _)⟩
  ·go_wp2_with fail; go_meet; exact ⟨_, _, _, _, _, _, _, _, _, _, rfl, rfl, ((m10.set _ _).other (by omega) _ _), ((m20.other (by omega) _ _).set _ _), ((z1.other (by omega) _ _).other (by omega) _ _), by first | omega | (simp; omega), by first | omega | (simp; omega), by first | omega | (simp; omega), ((hR1.box m10 _ _).box (m20.other (by omega) _ _) _ _), ((hR2.box m10 _ _).box (m20.other (by omega) _ _) _ _), (below_set (below_set gb2 (by omega) _ _) (by omega) _ _)⟩
  ·go_wp2_with fail; go_meet; exact ⟨_, _, _, _, _, _, _, _, _, _, rfl, rfl, ((m10.set _ _).other (by omega) _ _), ((m11.other (by omega) _ _).set _ _), ((z1.other (by omega) _ _).other (by omega) _ _), by first | omega | (simp; omega), by first | omega | (simp; omega), by first | omega | (simp; omega), ((hR1.box m10 _ _).box (m11.other (by omega) _ _) _ _), ((hR2.box m10 _ _).box (m11.other (by omega) _ _) _ _), (below_set (below_set gb2 (by omega) _ _) (by omega) _ _)⟩
  ·go_wp2_with fail; go_meet; exact ⟨_, _, _, _, _, _, _, _, _, _, rfl, rfl, (Box.new _ _ _ (by first | rfl | (simp; done))), ((m10.set _ _).alloc _), ((z1.other (by omega) _ _).alloc _), by first | omega | (simp; omega), by first | omega | (simp; omega), by first | omega | (simp; omega), ((hR1.box m10 _ _).alloc _), ((hR2.box m10 _ _).alloc _), (Below.alloc (below_set gb2 (by omega) _ _) (by first | omega | simp <;> omega) _)⟩
  ·go_wp2_with fail; go_meet; exact ⟨_, _, _, _, _, _, _, _, _, _, rfl, rfl, ((m20.set _ _).other (by omega) _ _), ((m10.other (by omega) _ _).set _ _), ((z1.other (by omega) _ _).other (by omega) _ _), by first | omega | (simp; omega), by first | omega | (simp; omega), by first | omega | (simp; omega), ((hR1.box m20 _ _).box (m10.other (by omega) _ _) _ _), ((hR2.box m20 _ _).box (m10.other (by omega) _ _) _ _), (below_set (below_set gb2 (by omega) _ _) (by omega) _ _)⟩
  ·go_wp2_with fail; go_meet; exact ⟨_, _, _, _, _, _, _, _, _, _, rfl, rfl, ((m11.set _ _).other (by omega) _ _), ((m10.other (by omega) _ _).set _ _), ((z1.other (by omega) _ _).other (by omega) _ _), by first | omega | (simp; omega), by first | omega | (simp; omega), by first | omega | (simp; omega), ((hR1.box m11 _ _).box (m10.other (by omega) _ _) _ _), ((hR2.box m11 _ _).box (m10.other (by omega) _ _) _ _), (below_set (below_set gb2 (by omega) _ _) (by omega) _ _)⟩
 case rest =>
  obtain ⟨P, Q, pb, po, pn, pc, sb, so, sn, sc, rfl, rfl, bp, bs, b4, gP, gQ, hPQ, hP, hS, bb⟩ := hcut
  have n1 : w.heap.size + 1 ≠ P := by omega
  have n2 : w.heap.size + 1 ≠ Q := by omega
  have gP : w.heap.size ≤ P := by omega
  have gQ : w.heap.size ≤ Q := by omega
  clear x0 x1 hb0
  have one32 : Hid ((1 : Int).natAbs < pw 32) := Lib.hid (by have := pw_le (n := 1) (m := 32) (by omega); have e : pw 1 = 4294967296 := rfl; omega)
  have hm' := Lib.hid (show m ≤ 9223372036854775807 by omega)
  have c2 := bs.c0; have c3 := bs.c1
  by_cases hbig : 32 < sn ∧ 0 < m
  ·have hv : Hid (powR m 1 x = none) := Lib.hid (powR_great (by omega) (hS.len_ge hbig.1))
   have h32i : decide ((32 : Int) < (sn : Int)) = true := decide_eq_true (by omega)
   have hm0 : 0 < m := hbig.2
   have hm0i : (0 : Int) < (m : Int) := by omega
   clear hbig
   have z9 := b4.set (.bool false) (.slice none 0 0)
   have r1 := b4.c0; have r2 := b4.c1; have r3 := b4.fr 0; have r4 := b4.fr 1
   have e0 := z9.c0; have e1 := z9.c1
   have hbl := Lib.hid (below_set bb (Nat.le_succ _) (.bool false) (.slice none 0 0))
   clear z9
   go_wp2_with fail
   refine bodyPost_ret (v := .tuple #[.agg #[.bool false, .slice none 0 0], .int .i64 7]) (by simp [results, Tryz.results129, go_sem, e0, e1]) rfl ?_
   exact PowPost.none rfl hv.out hbl.out
  have hguard : (32 < sn ∧ m = 0) ∨ sn ≤ 32 := by omega
  have hs0 : Hid (m ≠ 0 → x.natAbs < pw 32) := Lib.hid (fun h => hS.len_lt (by omega))
  clear hbig
  rcases hguard with ⟨g1, rfl⟩ | g1
  ·have h32i : decide ((32 : Int) < (sn : Int)) = true := decide_eq_true (by omega)
   go_wp2_with fail
   go_loopw [1] (fun v wr => ∃ (m' : Nat) (pb : Bool) (po : Option Addr) (pn pc : Nat) (sb : Bool) (so : Option Addr) (sn sc : Nat) (p s : Int), v = .int .i64 m' ∧ m' ≤ 9223372036854775807 ∧ Box wr P (.bool pb) (.slice po pn pc) ∧ Box wr Q (.bool sb) (.slice so sn sc) ∧ Box wr (w.heap.size + 1) (.bool false) (.slice none 0 0) ∧
     Right wr pb po pn pc p ∧ Right wr sb so sn sc s ∧ Below w.heap.size w wr ∧ s.natAbs < pw 64 ∧ (m' ≠ 0 → s.natAbs < pw 32) ∧ p.natAbs < pw 32 ∧ powR m' p s = powR 0 1 x) (fun v _ => (intOf v).toNat)
   case atStart => exact ⟨0, _, _, _, _, _, _, _, _, 1, x, rfl, hm'.out, bp, bs, b4, hP, hS, bb, hx'.out, hs0.out, one32.out, rfl⟩
   case round =>
    clear bp bs b4 hP hS bb c2 c3
    obtain ⟨m', pb, po, pn, pc, sb, so, sn, sc, p, s, rfl, hmb, bp, bs, b4, hP, hS, bb, hs, hs32, hp, hrel⟩ := hrel
    have pn32 := Lib.hid (hP.le_len hp)
    have bp := Lib.hid bp; have bs := Lib.hid bs; have b4 := Lib.hid b4; have hP := Lib.hid hP; have hS := Lib.hid hS; have bb := Lib.hid bb; have hs64 := Lib.hid hs; have hp32 := Lib.hid hp; have hrl := Lib.hid hrel; have hs3 := Lib.hid hs32
    have hp64 := Lib.hid (Nat.lt_of_lt_of_le hp (pw_le (n := 32) (m := 64) (by omega)))
    clear hs hp hrel hs32
    by_cases h0 : m' = 0
    ·subst h0
     have hv : Hid (powR 0 1 x = some p) := Lib.hid (by rw [← hrl.out, powR_zero])
     have c0 := bp.out.c0; have c1 := bp.out.c1
     have z9 := b4.out.set (.bool pb) (.slice po pn pc)
     have q1 := b4.out.c0; have q2 := b4.out.c1; have q3 := b4.out.fr 0; have q4 := b4.out.fr 1
     have e0 := z9.c0; have e1 := z9.c1
     clear z9
     go_wp2_with fail
     refine bodyPost_ret (v := .tuple #[.agg #[.bool pb, .slice po pn pc], .int .i64 0]) (by simp [results, Tryz.results129, go_sem, e0, e1]) rfl ?_
     exact PowPost.some rfl hv.out (hP.out.box b4.out _ _) (below_set bb.out (Nat.le_succ _) _ _)
    ·have hm0 : 0 < m' := Nat.pos_of_ne_zero h0
     have hsl := Lib.hid (hs3.out h0)
     have sn32 := Lib.hid (hS.out.le_len hsl.out)
     have c0 := bp.out.c0; have c1 := bp.out.c1; have c2 := bs.out.c0; have c3 := bs.out.c1
     by_cases hodd : m' % 2 = 1
     ·have hoi : (m' : Int) % 2 = 1 := by omega
      go_wp2_with fail
      refine (rMul_any pb sb po so pn pc sn sc p s _ (hP.out.whole hp32.out (by omega)) (hS.out.whole hs64.out (by omega)) 64 (by omega) hp64.out hs64.out).mono ?_
      rintro e w3 ⟨tb, to_, tn, tc, rfl, hT, hb⟩
      have y6 := bp.out.later hb; have y7 := bs.out.later hb; have y4 := b4.out.later hb; have bb3 := below_then bb.out (Nat.le_refl _) hb
      have q1 := y6.c0; have q2 := y6.c1; have q3 := y6.fr 0; have q4 := y6.fr 1
      have z6 := y6.set (.bool tb) (.slice to_ tn tc); have z7 := y7.other (Ne.symm hPQ) (.bool tb) (.slice to_ tn tc); have z4 := y4.other n1 (.bool tb) (.slice to_ tn tc)
      have bb := Lib.hid (below_set bb3 gP (.bool tb) (.slice to_ tn tc))
      have hP := Lib.hid (hT.box y6 (.bool tb) (.slice to_ tn tc)); have hS := Lib.hid ((hS.out.below hb).box y6 (.bool tb) (.slice to_ tn tc))
      have bp := Lib.hid z6; have bs := Lib.hid z7; have b4 := Lib.hid z4
      clear c0 c1 c2 c3
      have c0 := z6.c0; have c1 := z6.c1; have c2 := z7.c0; have c3 := z7.c1
      clear hb y6 y7 y4 bb3 hT z6 z7 z4
      by_cases hlast : m' = 1
      ·subst hlast
       by_cases ht : 32 < tn
       ·have hv : Hid (powR 0 1 x = none) := Lib.hid (by rw [← hrl.out]; exact powR_odd_great h0 hodd (hP.out.len_ge ht))
        have hti : decide ((32 : Int) < (tn : Int)) = true := decide_eq_true (by omega)
        have z9 := b4.out.set (.bool false) (.slice none 0 0)
        have r1 := b4.out.c0; have r2 := b4.out.c1; have r3 := b4.out.fr 0; have r4 := b4.out.fr 1
        have e0 := z9.c0; have e1 := z9.c1
        have hbl := Lib.hid (below_set bb.out (Nat.le_succ _) (.bool false) (.slice none 0 0))
        clear z9
        go_wp2_with fail
        refine bodyPost_ret (v := .tuple #[.agg #[.bool false, .slice none 0 0], .int .i64 7]) (by simp [results, Tryz.results129, go_sem, e0, e1]) rfl ?_
        exact PowPost.none rfl hv.out hbl.out
       ·have htl := Lib.hid (hP.out.len_lt (Nat.le_of_not_lt ht))
        have hti : decide ((32 : Int) < (tn : Int)) = false := decide_eq_false (by omega)
        have hsi : decide ((32 : Int) < (sn : Int)) = false := decide_eq_false (by have := sn32.out; omega)
        have hst : Hid (powR 0 (p * s) s = powR 0 1 x) := Lib.hid (by rw [powR_zero, ← hrl.out, powR_odd h0 hodd hsl.out htl.out, show 1 / 2 = 0 from rfl, powR_zero])
        go_wp2_with fail
        go_roundw
        case rel => exact ⟨0, _, _, _, _, _, _, _, _, p * s, s, rfl, by omega, bp.out, bs.out, b4.out, hP.out, hS.out, bb.out, hs64.out, fun h => absurd rfl h, htl.out, hst.out⟩
        case measure => simp [intOf]
      ·have hm2 : 0 < m' / 2 := by omega
       have hm2i : (0 : Int) < (m' : Int) / 2 := by omega
       go_wp2_with fail
       refine gen_calls (fun w' => Box w' P (.bool tb) (.slice to_ tn tc) ∧ Box w' Q (.bool sb) (.slice so sn sc) ∧ Box w' (w.heap.size + 1) (.bool false) (.slice none 0 0) ∧ Right w' tb to_ tn tc (p * s) ∧ Right w' sb so sn sc s ∧ Below w.heap.size w w') ⟨bp.out, bs.out, b4.out, hP.out, hS.out, bb.out⟩ ?_
       clear bp bs b4 hP hS bb q1 q2 q3 q4 c0 c1 c2 c3
       rintro w4 ⟨bp, bs, b4, hP, hS, bb⟩
       have bp := Lib.hid bp; have bs := Lib.hid bs; have b4 := Lib.hid b4; have hP := Lib.hid hP; have hS := Lib.hid hS; have bb := Lib.hid bb
       refine (rMul_any sb sb so so sn sc sn sc s s _ (hS.out.whole hs64.out (by omega)) (hS.out.whole hs64.out (by omega)) 64 (by omega) hs64.out hs64.out).mono ?_
       rintro e w5 ⟨rb, ro, rn, rc, rfl, hU, hb⟩
       have v6 := Lib.hid (bp.out.later hb); have v7 := Lib.hid (bs.out.later hb); have v4 := Lib.hid (b4.out.later hb); have bb := Lib.hid (below_then bb.out (Nat.le_refl _) hb); have hP := Lib.hid (hP.out.below hb)
       have u1 := v7.out.c0; have u2 := v7.out.c1; have u3 := v7.out.fr 0; have u4 := v7.out.fr 1
       have z6 := v6.out.other hPQ (.bool rb) (.slice ro rn rc); have z7 := v7.out.set (.bool rb) (.slice ro rn rc); have z4 := Lib.hid (v4.out.other n2 (.bool rb) (.slice ro rn rc))
       have bbz := Lib.hid (below_set bb.out gQ (.bool rb) (.slice ro rn rc))
       have hPz := Lib.hid (hP.out.box v7.out (.bool rb) (.slice ro rn rc)); have hUz := Lib.hid (hU.box v7.out (.bool rb) (.slice ro rn rc))
       have d0 := z6.c0; have d1 := z6.c1; have d2 := z7.c0; have d3 := z7.c1
       have y6 := Lib.hid z6; have y7 := Lib.hid z7
       clear hb z6 z7 hU v6 v7 v4
       by_cases ht : 32 < tn
       ·have hv : Hid (powR 0 1 x = none) := Lib.hid (by rw [← hrl.out]; exact powR_odd_great h0 hodd (hPz.out.len_ge ht))
        have hti : decide ((32 : Int) < (tn : Int)) = true := decide_eq_true (by omega)
        have z9 := z4.out.set (.bool false) (.slice none 0 0)
        have r1 := z4.out.c0; have r2 := z4.out.c1; have r3 := z4.out.fr 0; have r4 := z4.out.fr 1
        have e0 := z9.c0; have e1 := z9.c1
        have hbl := Lib.hid (below_set bbz.out (Nat.le_succ _) (.bool false) (.slice none 0 0))
        clear z9
        go_wp2_with fail
        refine bodyPost_ret (v := .tuple #[.agg #[.bool false, .slice none 0 0], .int .i64 7]) (by simp [results, Tryz.results129, go_sem, e0, e1]) rfl ?_
        exact PowPost.none rfl hv.out hbl.out
       have htl := Lib.hid (hPz.out.len_lt (Nat.le_of_not_lt ht))
       have hti : decide ((32 : Int) < (tn : Int)) = false := decide_eq_false (by omega)
       have hst : Hid (powR (m' / 2) (p * s) (s * s) = powR 0 1 x) := Lib.hid (by rw [← powR_odd h0 hodd hsl.out htl.out]; exact hrl.out)
       by_cases hu : 32 < rn
       ·have hv : Hid (powR 0 1 x = none) := Lib.hid (by rw [← hst.out]; exact powR_great (by omega) (hUz.out.len_ge hu))
        have hui : decide ((32 : Int) < (rn : Int)) = true := decide_eq_true (by omega)
        have z9 := z4.out.set (.bool false) (.slice none 0 0)
        have r1 := z4.out.c0; have r2 := z4.out.c1; have r3 := z4.out.fr 0; have r4 := z4.out.fr 1
        have e0 := z9.c0; have e1 := z9.c1
        have hbl := Lib.hid (below_set bbz.out (Nat.le_succ _) (.bool false) (.slice none 0 0))
        clear z9
        go_wp2_with fail
        refine bodyPost_ret (v := .tuple #[.agg #[.bool false, .slice none 0 0], .int .i64 7]) (by simp [results, Tryz.results129, go_sem, e0, e1]) rfl ?_
        exact PowPost.none rfl hv.out hbl.out
       have hul := Lib.hid (hUz.out.len_lt (Nat.le_of_not_lt hu))
       have hui : decide ((32 : Int) < (rn : Int)) = false := decide_eq_false (by omega)
       go_wp2_with fail
       go_roundw
       case rel => exact ⟨m' / 2, _, _, _, _, _, _, _, _, p * s, s * s, int_eq (by omega), by omega, y6.out, y7.out, z4.out, hPz.out, hUz.out, bbz.out, mul_self_abs hsl.out, fun _ => hul.out, htl.out, hst.out⟩
       case measure => simp [intOf]; omega
     ·have hoi : ¬ ((m' : Int) % 2 = 1) := by omega
      have hm2 : 0 < m' / 2 := by omega
      have hm2i : (0 : Int) < (m' : Int) / 2 := by omega
      go_wp2_with fail
      refine (rMul_any sb sb so so sn sc sn sc s s _ (hS.out.whole hs64.out (by omega)) (hS.out.whole hs64.out (by omega)) 64 (by omega) hs64.out hs64.out).mono ?_
      rintro e w5 ⟨rb, ro, rn, rc, rfl, hU, hb⟩
      have v6 := Lib.hid (bp.out.later hb); have v7 := Lib.hid (bs.out.later hb); have v4 := Lib.hid (b4.out.later hb); have bb := Lib.hid (below_then bb.out (Nat.le_refl _) hb); have hP := Lib.hid (hP.out.below hb)
      have u1 := v7.out.c0; have u2 := v7.out.c1; have u3 := v7.out.fr 0; have u4 := v7.out.fr 1
      have z6 := v6.out.other hPQ (.bool rb) (.slice ro rn rc); have z7 := v7.out.set (.bool rb) (.slice ro rn rc); have z4 := Lib.hid (v4.out.other n2 (.bool rb) (.slice ro rn rc))
      have bbz := Lib.hid (below_set bb.out gQ (.bool rb) (.slice ro rn rc))
      have hPz := Lib.hid (hP.out.box v7.out (.bool rb) (.slice ro rn rc)); have hUz := Lib.hid (hU.box v7.out (.bool rb) (.slice ro rn rc))
      clear c0 c1 c2 c3
      have d0 := z6.c0; have d1 := z6.c1; have d2 := z7.c0; have d3 := z7.c1
      have y6 := Lib.hid z6; have y7 := Lib.hid z7
      clear hb z6 z7 hU v6 v7 v4
      have htl := Lib.hid hp32.out
      have hti : decide ((32 : Int) < (pn : Int)) = false := decide_eq_false (by have := pn32.out; omega)
      have hst : Hid (powR (m' / 2) (p) (s * s) = powR 0 1 x) := Lib.hid (by rw [← powR_even h0 hodd hsl.out htl.out]; exact hrl.out)
      by_cases hu : 32 < rn
      ·have hv : Hid (powR 0 1 x = none) := Lib.hid (by rw [← hst.out]; exact powR_great (by omega) (hUz.out.len_ge hu))
       have hui : decide ((32 : Int) < (rn : Int)) = true := decide_eq_true (by omega)
       have z9 := z4.out.set (.bool false) (.slice none 0 0)
       have r1 := z4.out.c0; have r2 := z4.out.c1; have r3 := z4.out.fr 0; have r4 := z4.out.fr 1
       have e0 := z9.c0; have e1 := z9.c1
       have hbl := Lib.hid (below_set bbz.out (Nat.le_succ _) (.bool false) (.slice none 0 0))
       clear z9
       go_wp2_with fail
       refine bodyPost_ret (v := .tuple #[.agg #[.bool false, .slice none 0 0], .int .i64 7]) (by simp [results, Tryz.results129, go_sem, e0, e1]) rfl ?_
       exact PowPost.none rfl hv.out hbl.out
      have hul := Lib.hid (hUz.out.len_lt (Nat.le_of_not_lt hu))
      have hui : decide ((32 : Int) < (rn : Int)) = false := decide_eq_false (by omega)
      go_wp2_with fail
      go_roundw
      case rel => exact ⟨m' / 2, _, _, _, _, _, _, _, _, p, s * s, int_eq (by omega), by omega, y6.out, y7.out, z4.out, hPz.out, hUz.out, bbz.out, mul_self_abs hsl.out, fun _ => hul.out, htl.out, hst.out⟩
      case measure => simp [intOf]; omega
  ·have h32i : decide ((32 : Int) < (sn : Int)) = false := decide_eq_false (by omega)
   go_wp2_with fail
   go_loopw [1] (fun v wr => ∃ (m' : Nat) (pb : Bool) (po : Option Addr) (pn pc : Nat) (sb : Bool) (so : Option Addr) (sn sc : Nat) (p s : Int), v = .int .i64 m' ∧ m' ≤ 9223372036854775807 ∧ Box wr P (.bool pb) (.slice po pn pc) ∧ Box wr Q (.bool sb) (.slice so sn sc) ∧ Box wr (w.heap.size + 1) (.bool false) (.slice none 0 0) ∧
     Right wr pb po pn pc p ∧ Right wr sb so sn sc s ∧ Below w.heap.size w wr ∧ s.natAbs < pw 64 ∧ (m' ≠ 0 → s.natAbs < pw 32) ∧ p.natAbs < pw 32 ∧ powR m' p s = powR m 1 x) (fun v _ => (intOf v).toNat)
   case atStart => exact ⟨m, _, _, _, _, _, _, _, _, 1, x, rfl, hm'.out, bp, bs, b4, hP, hS, bb, hx'.out, hs0.out, one32.out, rfl⟩
   case round =>
    clear bp bs b4 hP hS bb c2 c3
    obtain ⟨m', pb, po, pn, pc, sb, so, sn, sc, p, s, rfl, hmb, bp, bs, b4, hP, hS, bb, hs, hs32, hp, hrel⟩ := hrel
    have pn32 := Lib.hid (hP.le_len hp)
    have bp := Lib.hid bp; have bs := Lib.hid bs; have b4 := Lib.hid b4; have hP := Lib.hid hP; have hS := Lib.hid hS; have bb := Lib.hid bb; have hs64 := Lib.hid hs; have hp32 := Lib.hid hp; have hrl := Lib.hid hrel; have hs3 := Lib.hid hs32
    have hp64 := Lib.hid (Nat.lt_of_lt_of_le hp (pw_le (n := 32) (m := 64) (by omega)))
    clear hs hp hrel hs32
    by_cases h0 : m' = 0
    ·subst h0
     have hv : Hid (powR m 1 x = some p) := Lib.hid (by rw [← hrl.out, powR_zero])
     have c0 := bp.out.c0; have c1 := bp.out.c1
     have z9 := b4.out.set (.bool pb) (.slice po pn pc)
     have q1 := b4.out.c0; have q2 := b4.out.c1; have q3 := b4.out.fr 0; have q4 := b4.out.fr 1
     have e0 := z9.c0; have e1 := z9.c1
     clear z9
     go_wp2_with fail
     refine bodyPost_ret (v := .tuple #[.agg #[.bool pb, .slice po pn pc], .int .i64 0]) (by simp [results, Tryz.results129, go_sem, e0, e1]) rfl ?_
     exact PowPost.some rfl hv.out (hP.out.box b4.out _ _) (below_set bb.out (Nat.le_succ _) _ _)
    ·have hm0 : 0 < m' := Nat.pos_of_ne_zero h0
     have hsl := Lib.hid (hs3.out h0)
     have sn32 := Lib.hid (hS.out.le_len hsl.out)
     have c0 := bp.out.c0; have c1 := bp.out.c1; have c2 := bs.out.c0; have c3 := bs.out.c1
     by_cases hodd : m' % 2 = 1
     ·have hoi : (m' : Int) % 2 = 1 := by omega
      go_wp2_with fail
      refine (rMul_any pb sb po so pn pc sn sc p s _ (hP.out.whole hp32.out (by omega)) (hS.out.whole hs64.out (by omega)) 64 (by omega) hp64.out hs64.out).mono ?_
      rintro e w3 ⟨tb, to_, tn, tc, rfl, hT, hb⟩
      have y6 := bp.out.later hb; have y7 := bs.out.later hb; have y4 := b4.out.later hb; have bb3 := below_then bb.out (Nat.le_refl _) hb
      have q1 := y6.c0; have q2 := y6.c1; have q3 := y6.fr 0; have q4 := y6.fr 1
      have z6 := y6.set (.bool tb) (.slice to_ tn tc); have z7 := y7.other (Ne.symm hPQ) (.bool tb) (.slice to_ tn tc); have z4 := y4.other n1 (.bool tb) (.slice to_ tn tc)
      have bb := Lib.hid (below_set bb3 gP (.bool tb) (.slice to_ tn tc))
      have hP := Lib.hid (hT.box y6 (.bool tb) (.slice to_ tn tc)); have hS := Lib.hid ((hS.out.below hb).box y6 (.bool tb) (.slice to_ tn tc))
      have bp := Lib.hid z6; have bs := Lib.hid z7; have b4 := Lib.hid z4
      clear c0 c1 c2 c3
      have c0 := z6.c0; have c1 := z6.c1; have c2 := z7.c0; have c3 := z7.c1
      clear hb y6 y7 y4 bb3 hT z6 z7 z4
      by_cases hlast : m' = 1
      ·subst hlast
       by_cases ht : 32 < tn
       ·have hv : Hid (powR m 1 x = none) := Lib.hid (by rw [← hrl.out]; exact powR_odd_great h0 hodd (hP.out.len_ge ht))
        have hti : decide ((32 : Int) < (tn : Int)) = true := decide_eq_true (by omega)
        have z9 := b4.out.set (.bool false) (.slice none 0 0)
        have r1 := b4.out.c0; have r2 := b4.out.c1; have r3 := b4.out.fr 0; have r4 := b4.out.fr 1
        have e0 := z9.c0; have e1 := z9.c1
        have hbl := Lib.hid (below_set bb.out (Nat.le_succ _) (.bool false) (.slice none 0 0))
        clear z9
        go_wp2_with fail
        refine bodyPost_ret (v := .tuple #[.agg #[.bool false, .slice none 0 0], .int .i64 7]) (by simp [results, Tryz.results129, go_sem, e0, e1]) rfl ?_
        exact PowPost.none rfl hv.out hbl.out
       ·have htl := Lib.hid (hP.out.len_lt (Nat.le_of_not_lt ht))
        have hti : decide ((32 : Int) < (tn : Int)) = false := decide_eq_false (by omega)
        have hsi : decide ((32 : Int) < (sn : Int)) = false := decide_eq_false (by have := sn32.out; omega)
        have hst : Hid (powR 0 (p * s) s = powR m 1 x) := Lib.hid (by rw [powR_zero, ← hrl.out, powR_odd h0 hodd hsl.out htl.out, show 1 / 2 = 0 from rfl, powR_zero])
        go_wp2_with fail
        go_roundw
        case rel => exact ⟨0, _, _, _, _, _, _, _, _, p * s, s, rfl, by omega, bp.out, bs.out, b4.out, hP.out, hS.out, bb.out, hs64.out, fun h => absurd rfl h, htl.out, hst.out⟩
        case measure => simp [intOf]
      ·have hm2 : 0 < m' / 2 := by omega
       have hm2i : (0 : Int) < (m' : Int) / 2 := by omega
       go_wp2_with fail
       refine gen_calls (fun w' => Box w' P (.bool tb) (.slice to_ tn tc) ∧ Box w' Q (.bool sb) (.slice so sn sc) ∧ Box w' (w.heap.size + 1) (.bool false) (.slice none 0 0) ∧ Right w' tb to_ tn tc (p * s) ∧ Right w' sb so sn sc s ∧ Below w.heap.size w w') ⟨bp.out, bs.out, b4.out, hP.out, hS.out, bb.out⟩ ?_
       clear bp bs b4 hP hS bb q1 q2 q3 q4 c0 c1 c2 c3
       rintro w4 ⟨bp, bs, b4, hP, hS, bb⟩
       have bp := Lib.hid bp; have bs := Lib.hid bs; have b4 := Lib.hid b4; have hP := Lib.hid hP; have hS := Lib.hid hS; have bb := Lib.hid bb
       refine (rMul_any sb sb so so sn sc sn sc s s _ (hS.out.whole hs64.out (by omega)) (hS.out.whole hs64.out (by omega)) 64 (by omega) hs64.out hs64.out).mono ?_
       rintro e w5 ⟨rb, ro, rn, rc, rfl, hU, hb⟩
       have v6 := Lib.hid (bp.out.later hb); have v7 := Lib.hid (bs.out.later hb); have v4 := Lib.hid (b4.out.later hb); have bb := Lib.hid (below_then bb.out (Nat.le_refl _) hb); have hP := Lib.hid (hP.out.below hb)
       have u1 := v7.out.c0; have u2 := v7.out.c1; have u3 := v7.out.fr 0; have u4 := v7.out.fr 1
       have z6 := v6.out.other hPQ (.bool rb) (.slice ro rn rc); have z7 := v7.out.set (.bool rb) (.slice ro rn rc); have z4 := Lib.hid (v4.out.other n2 (.bool rb) (.slice ro rn rc))
       have bbz := Lib.hid (below_set bb.out gQ (.bool rb) (.slice ro rn rc))
       have hPz := Lib.hid (hP.out.box v7.out (.bool rb) (.slice ro rn rc)); have hUz := Lib.hid (hU.box v7.out (.bool rb) (.slice ro rn rc))
       have d0 := z6.c0; have d1 := z6.c1; have d2 := z7.c0; have d3 := z7.c1
       have y6 := Lib.hid z6; have y7 := Lib.hid z7
       clear hb z6 z7 hU v6 v7 v4
       by_cases ht : 32 < tn
       ·have hv : Hid (powR m 1 x = none) := Lib.hid (by rw [← hrl.out]; exact powR_odd_great h0 hodd (hPz.out.len_ge ht))
        have hti : decide ((32 : Int) < (tn : Int)) = true := decide_eq_true (by omega)
        have z9 := z4.out.set (.bool false) (.slice none 0 0)
        have r1 := z4.out.c0; have r2 := z4.out.c1; have r3 := z4.out.fr 0; have r4 := z4.out.fr 1
        have e0 := z9.c0; have e1 := z9.c1
        have hbl := Lib.hid (below_set bbz.out (Nat.le_succ _) (.bool false) (.slice none 0 0))
        clear z9
        go_wp2_with fail
        refine bodyPost_ret (v := .tuple #[.agg #[.bool false, .slice none 0 0], .int .i64 7]) (by simp [results, Tryz.results129, go_sem, e0, e1]) rfl ?_
        exact PowPost.none rfl hv.out hbl.out
       have htl := Lib.hid (hPz.out.len_lt (Nat.le_of_not_lt ht))
       have hti : decide ((32 : Int) < (tn : Int)) = false := decide_eq_false (by omega)
       have hst : Hid (powR (m' / 2) (p * s) (s * s) = powR m 1 x) := Lib.hid (by rw [← powR_odd h0 hodd hsl.out htl.out]; exact hrl.out)
       by_cases hu : 32 < rn
       ·have hv : Hid (powR m 1 x = none) := Lib.hid (by rw [← hst.out]; exact powR_great (by omega) (hUz.out.len_ge hu))
        have hui : decide ((32 : Int) < (rn : Int)) = true := decide_eq_true (by omega)
        have z9 := z4.out.set (.bool false) (.slice none 0 0)
        have r1 := z4.out.c0; have r2 := z4.out.c1; have r3 := z4.out.fr 0; have r4 := z4.out.fr 1
        have e0 := z9.c0; have e1 := z9.c1
        have hbl := Lib.hid (below_set bbz.out (Nat.le_succ _) (.bool false) (.slice none 0 0))
        clear z9
        go_wp2_with fail
        refine bodyPost_ret (v := .tuple #[.agg #[.bool false, .slice none 0 0], .int .i64 7]) (by simp [results, Tryz.results129, go_sem, e0, e1]) rfl ?_
        exact PowPost.none rfl hv.out hbl.out
       have hul := Lib.hid (hUz.out.len_lt (Nat.le_of_not_lt hu))
       have hui : decide ((32 : Int) < (rn : Int)) = false := decide_eq_false (by omega)
       go_wp2_with fail
       go_roundw
       case rel => exact ⟨m' / 2, _, _, _, _, _, _, _, _, p * s, s * s, int_eq (by omega), by omega, y6.out, y7.out, z4.out, hPz.out, hUz.out, bbz.out, mul_self_abs hsl.out, fun _ => hul.out, htl.out, hst.out⟩
       case measure => simp [intOf]; omega
     ·have hoi : ¬ ((m' : Int) % 2 = 1) := by omega
      have hm2 : 0 < m' / 2 := by omega
      have hm2i : (0 : Int) < (m' : Int) / 2 := by omega
      go_wp2_with fail
      refine (rMul_any sb sb so so sn sc sn sc s s _ (hS.out.whole hs64.out (by omega)) (hS.out.whole hs64.out (by omega)) 64 (by omega) hs64.out hs64.out).mono ?_
      rintro e w5 ⟨rb, ro, rn, rc, rfl, hU, hb⟩
      have v6 := Lib.hid (bp.out.later hb); have v7 := Lib.hid (bs.out.later hb); have v4 := Lib.hid (b4.out.later hb); have bb := Lib.hid (below_then bb.out (Nat.le_refl _) hb); have hP := Lib.hid (hP.out.below hb)
      have u1 := v7.out.c0; have u2 := v7.out.c1; have u3 := v7.out.fr 0; have u4 := v7.out.fr 1
      have z6 := v6.out.other hPQ (.bool rb) (.slice ro rn rc); have z7 := v7.out.set (.bool rb) (.slice ro rn rc); have z4 := Lib.hid (v4.out.other n2 (.bool rb) (.slice ro rn rc))
      have bbz := Lib.hid (below_set bb.out gQ (.bool rb) (.slice ro rn rc))
      have hPz := Lib.hid (hP.out.box v7.out (.bool rb) (.slice ro rn rc)); have hUz := Lib.hid (hU.box v7.out (.bool rb) (.slice ro rn rc))
      clear c0 c1 c2 c3
      have d0 := z6.c0; have d1 := z6.c1; have d2 := z7.c0; have d3 := z7.c1
      have y6 := Lib.hid z6; have y7 := Lib.hid z7
      clear hb z6 z7 hU v6 v7 v4
      have htl := Lib.hid hp32.out
      have hti : decide ((32 : Int) < (pn : Int)) = false := decide_eq_false (by have := pn32.out; omega)
      have hst : Hid (powR (m' / 2) (p) (s * s) = powR m 1 x) := Lib.hid (by rw [← powR_even h0 hodd hsl.out htl.out]; exact hrl.out)
      by_cases hu : 32 < rn
      ·have hv : Hid (powR m 1 x = none) := Lib.hid (by rw [← hst.out]; exact powR_great (by omega) (hUz.out.len_ge hu))
       have hui : decide ((32 : Int) < (rn : Int)) = true := decide_eq_true (by omega)
       have z9 := z4.out.set (.bool false) (.slice none 0 0)
       have r1 := z4.out.c0; have r2 := z4.out.c1; have r3 := z4.out.fr 0; have r4 := z4.out.fr 1
       have e0 := z9.c0; have e1 := z9.c1
       have hbl := Lib.hid (below_set bbz.out (Nat.le_succ _) (.bool false) (.slice none 0 0))
       clear z9
       go_wp2_with fail
       refine bodyPost_ret (v := .tuple #[.agg #[.bool false, .slice none 0 0], .int .i64 7]) (by simp [results, Tryz.results129, go_sem, e0, e1]) rfl ?_
       exact PowPost.none rfl hv.out hbl.out
      have hul := Lib.hid (hUz.out.len_lt (Nat.le_of_not_lt hu))
      have hui : decide ((32 : Int) < (rn : Int)) = false := decide_eq_false (by omega)
      go_wp2_with fail
      go_roundw
      case rel => exact ⟨m' / 2, _, _, _, _, _, _, _, _, p, s * s, int_eq (by omega), by omega, y6.out, y7.out, z4.out, hPz.out, hUz.out, bbz.out, mul_self_abs hsl.out, fun _ => hul.out, htl.out, hst.out⟩
      case measure => simp [intOf]; omega
end Go.Proofs.YtaepelipkkmeaaaGreat
namespace Go.Proofs.YtaepelipkkmeaaaGreat
open Go.RowKit Num
attribute [local go_sem ↓] Go.wp_at_zero Go.wp_at_succ
theorem rPow4_any (ab : Bool) (ap aq : Option Addr) (an ac am ae : Nat) (P : Int) (Q : Nat) (n : Int) (w : World) (Ra : Rt w ab ap an ac aq am ae P Q) (la : Low P Q) (n0 : -9223372036854775808 ≤ n) (n1 : n ≤ 9223372036854775807) :
  Calls Tryz.prog 75 #[.agg #[.bool ab, .slice ap an ac, .slice aq am ae], .int .i64 n] w (NumPowPost P Q n w) := by
 replace n0 := Lib.hid n0; replace n1 := Lib.hid n1
 replace Ra := Lib.hid Ra; replace la := Lib.hid la
 go_enter Tryz.func75, Tryz.ntmps75
 go_upto_region 1 with fail
 refine gen_wp (fun w' => Below w.heap.size w w' ∧ Box3 w' w.heap.size (.bool ab) (.slice ap an ac) (.slice aq am ae) ∧ Box3 w' (w.heap.size + 1) (.bool false) (.slice none 0 0) (.slice none 0 0))
  ⟨(((Below.refl _ _).alloc (Nat.le_refl _) _).alloc (by simp <;> omega) _), ((Box3.new _ _ _ _ rfl).alloc _), (Box3.new _ _ _ _ (by simp <;> omega))⟩ ?_
 rintro u0 ⟨bb, Xa, X2⟩
 replace Ra := Ra.out.below bb
 replace bb := Lib.hid bb; replace Xa := Lib.hid Xa; replace X2 := Lib.hid X2; replace Ra := Lib.hid Ra
 replace bb := bb.out; replace Xa := Xa.out; replace X2 := X2.out; replace Ra := Ra.out
 go_cut [6, 7] from 16 to 58 (fun s t wx => ∃ Y Z yb yo yn yc zb zo zn zc, s = .pointer (some ⟨Y, 0, none⟩) ∧ t = .pointer (some ⟨Z, 0, none⟩) ∧ Box wx Y (.bool yb) (.slice yo yn yc) ∧ Box wx Z (.bool zb) (.slice zo zn zc) ∧ Box3 wx w.heap.size (.bool ab) (.slice ap an ac) (.slice aq am ae) ∧ Box3 wx (w.heap.size + 1) (.bool false) (.slice none 0 0) (.slice none 0 0) ∧ Rt wx ab ap an ac aq am ae P Q ∧ Whole wx yb yo yn yc P ∧ Whole wx zb zo zn zc Q ∧ Below w.heap.size w wx ∧ w.heap.size + 1 < Y ∧ w.heap.size + 1 < Z ∧ Y ≠ Z)
 case first =>
  have lXa := Xa.lt
  have lX2 := X2.lt
  have bs := bb.size
  have sb0 := True.intro
  go_region_held3 (fun w' => w'.cell? ⟨w.heap.size, 0, none⟩ = some (.bool ab) ∧ w'.cell? ⟨w.heap.size, 1, none⟩ = some (.slice ap an ac) ∧ w'.cell? ⟨w.heap.size, 2, none⟩ = some (.slice aq am ae))
   (first | with_reducible exact ⟨(Xa.drew).c0, (Xa.drew).c1, (Xa.drew).c2⟩ | with_reducible exact ⟨((Xa.alloc _).drew).c0, ((Xa.alloc _).drew).c1, ((Xa.alloc _).drew).c2⟩ | with_reducible exact ⟨(((Xa.alloc _).alloc _).drew).c0, (((Xa.alloc _).alloc _).drew).c1, (((Xa.alloc _).alloc _).drew).c2⟩ | with_reducible exact ⟨Xa.c0, Xa.c1, Xa.c2⟩ | with_reducible exact ⟨(Xa.alloc _).c0, (Xa.alloc _).c1, (Xa.alloc _).c2⟩ | with_reducible exact ⟨((Xa.alloc _).alloc _).c0, ((Xa.alloc _).alloc _).c1, ((Xa.alloc _).alloc _).c2⟩ | with_reducible exact ⟨(Xa.other (by omega) _ _).c0, (Xa.other (by omega) _ _).c1, (Xa.other (by omega) _ _).c2⟩ | with_reducible exact ⟨((Xa.other (by omega) _ _).alloc _).c0, ((Xa.other (by omega) _ _).alloc _).c1, ((Xa.other (by omega) _ _).alloc _).c2⟩ | with_reducible exact ⟨((Xa.other (by omega) _ _).other (by omega) _ _).c0, ((Xa.other (by omega) _ _).other (by omega) _ _).c1, ((Xa.other (by omega) _ _).other (by omega) _ _).c2⟩ | go_keep)
   (first
   | (go_at_call 41; clear sb0; refine (rTop_any ab ap aq an ac am ae P _ ?_).mono ?_; (first | with_reducible exact ((Ra.drew)).upper la.out | with_reducible exact (((Ra.alloc _).drew)).upper la.out | with_reducible exact ((((Ra.alloc _).alloc _).drew)).upper la.out); rintro e u1 ⟨yb, yo, yn, yc, rfl, h1, hb⟩; have hc : Below u0.heap.size u0 u1 := (by first | exact (Below.refl _ _).drew.trans hb | exact ((Below.refl _ _).alloc (by first | exact Nat.le_refl _ | (simp; done) | (simp; omega)) _).drew.trans (hb.mono (by simp <;> omega)) | exact (((Below.refl _ _).alloc (by first | exact Nat.le_refl _ | (simp; done) | (simp; omega)) _).alloc (by first | exact Nat.le_refl _ | (simp; done) | (simp; omega)) _).drew.trans (hb.mono (by simp <;> omega))); have hz0 := hc.size; have Xa := Xa.later hc; have X2 := X2.later hc; have Ra := Ra.below hc; have bb := below_then bb (Nat.le_refl _) hc; (first | (with_reducible have mm := made2' hb; obtain ⟨m10, m11⟩ := mm) | (with_reducible have m10 := made1' hb) | skip); (try have k10 := m10.lt); (try have k11 := m11.lt); clear hb hc; have sb1 := True.intro)
   | (go_at_call 43; clear sb1; refine (rBot_any ab ap aq an ac am ae Q _ ?_).mono ?_; (first | with_reducible exact (Ra).lower la.out | with_reducible exact ((Ra.alloc _)).lower la.out | with_reducible exact (((Ra.alloc _).alloc _)).lower la.out); rintro e u2 ⟨zb, zo, zn, zc, rfl, h2, hb⟩; have hc : Below u1.heap.size u1 u2 := (by first | with_reducible exact hb | exact ((Below.refl _ _).alloc (by first | exact Nat.le_refl _ | (simp; done) | (simp; omega)) _).trans (hb.mono (by simp <;> omega)) | exact (((Below.refl _ _).alloc (by first | exact Nat.le_refl _ | (simp; done) | (simp; omega)) _).alloc (by first | exact Nat.le_refl _ | (simp; done) | (simp; omega)) _).trans (hb.mono (by simp <;> omega))); have hz1 := hc.size; have Xa := Xa.later hc; have X2 := X2.later hc; have Ra := Ra.below hc; have h1 := h1.below hc; have bb := below_then bb (Nat.le_refl _) hc; (try have m10 := m10.later hc); (try have m11 := m11.later hc); (first | (with_reducible have mm := made2 hb; obtain ⟨m20, m21⟩ := mm) | (with_reducible have m20 := made1 hb) | skip); (try have k10 := m10.lt); (try have k11 := m11.lt); (try have k20 := m20.lt); (try have k21 := m21.lt); (try (have f100 := m10.c0; have f101 := m10.c1; have f102 := m10.fr 0; have f103 := m10.fr 1)); (try (have f110 := m11.c0; have f111 := m11.c1; have f112 := m11.fr 0; have f113 := m11.fr 1)); (try (have f200 := m20.c0; have f201 := m20.c1; have f202 := m20.fr 0; have f203 := m20.fr 1)); (try (have f210 := m21.c0; have f211 := m21.c1; have f212 := m21.fr 0; have f213 := m21.fr 1)); clear hb hc; have sb2 := True.intro))
  ·go_wp2_with fail; go_meet; exact ⟨_, _, yb, yo, yn, yc, zb, zo, zn, zc, rfl, rfl, ((Box.new _ _ _ (by first | (simp; done) | rfl)).alloc _), (Box.new _ _ _ (by first | (simp; done) | rfl)), ((Xa.alloc _).alloc _), ((X2.alloc _).alloc _), ((Ra.alloc _).alloc _), (((h1.alloc _).alloc _)).whole32 la.out.abs_lt, (((h2.alloc _).alloc _)).whole32 la.out.bot_lt, (Below.alloc (Below.alloc bb (by first | omega | simp <;> omega) _) (by first | omega | simp <;> omega) _), (by first | omega | (simp; omega)), (by first | omega | (simp; omega)), (by first | omega | (simp; omega) | simp)⟩
  ·go_wp2_with fail; go_meet; exact ⟨_, _, yb, yo, yn, yc, zb, zo, zn, zc, rfl, rfl, (Box.new _ _ _ (by first | (simp; done) | rfl)), ((Box.new _ _ _ (by first | (simp; done) | rfl)).alloc _), ((Xa.alloc _).alloc _), ((X2.alloc _).alloc _), ((Ra.alloc _).alloc _), (((h1.alloc _).alloc _)).whole32 la.out.abs_lt, (((h2.alloc _).alloc _)).whole32 la.out.bot_lt, (Below.alloc (Below.alloc bb (by first | omega | simp <;> omega) _) (by first | omega | simp <;> omega) _), (by first | omega | (simp; omega)), (by first | omega | (simp; omega)), (by first | omega | (simp; omega) | simp)⟩
  ·go_wp2_with fail; go_meet; exact ⟨_, _, yb, yo, yn, yc, zb, zo, zn, zc, rfl, rfl, ((m20.set _ _).alloc _), (Box.new _ _ _ (by first | (simp; done) | rfl)), ((Xa.other (by omega) _ _).alloc _), ((X2.other (by omega) _ _).alloc _), ((Ra.box m20 _ _).alloc _), (((h1.box m20 _ _).alloc _)).whole32 la.out.abs_lt, (((h2.box m20 _ _).alloc _)).whole32 la.out.bot_lt, (Below.alloc (below_set bb (by omega) _ _) (by first | omega | simp <;> omega) _), (by first | omega | (simp; omega)), (by first | omega | (simp; omega)), (by first | omega | (simp; omega) | simp)⟩
  ·go_wp2_with fail; go_meet; exact ⟨_, _, yb, yo, yn, yc, zb, zo, zn, zc, rfl, rfl, ((m20.set _ _).other (by omega) _ _), ((m21.other (by omega) _ _).set _ _), ((Xa.other (by omega) _ _).other (by omega) _ _), ((X2.other (by omega) _ _).other (by omega) _ _), ((Ra.box m20 _ _).box (m21.other (by omega) _ _) _ _), (((h1.box m20 _ _).box (m21.other (by omega) _ _) _ _)).whole32 la.out.abs_lt, (((h2.box m20 _ _).box (m21.other (by omega) _ _) _ _)).whole32 la.out.bot_lt, (below_set (below_set bb (by omega) _ _) (by omega) _ _), (by first | omega | (simp; omega)), (by first | omega | (simp; omega)), (by first | omega | (simp; omega) | simp)⟩
  ·go_wp2_with fail; go_meet; exact ⟨_, _, yb, yo, yn, yc, zb, zo, zn, zc, rfl, rfl, (Box.new _ _ _ (by first | (simp; done) | rfl)), ((m20.set _ _).alloc _), ((Xa.other (by omega) _ _).alloc _), ((X2.other (by omega) _ _).alloc _), ((Ra.box m20 _ _).alloc _), (((h1.box m20 _ _).alloc _)).whole32 la.out.abs_lt, (((h2.box m20 _ _).alloc _)).whole32 la.out.bot_lt, (Below.alloc (below_set bb (by omega) _ _) (by first | omega | simp <;> omega) _), (by first | omega | (simp; omega)), (by first | omega | (simp; omega)), (by first | omega | (simp; omega) | simp)⟩
  ·go_wp2_with fail; go_meet; exact ⟨_, _, yb, yo, yn, yc, zb, zo, zn, zc, rfl, rfl, ((m21.set _ _).other (by omega) _ _), ((m20.other (by omega) _ _).set _ _), ((Xa.other (by omega) _ _).other (by omega) _ _), ((X2.other (by omega) _ _).other (by omega) _ _), ((Ra.box m21 _ _).box (m20.other (by omega) _ _) _ _), (((h1.box m21 _ _).box (m20.other (by omega) _ _) _ _)).whole32 la.out.abs_lt, (((h2.box m21 _ _).box (m20.other (by omega) _ _) _ _)).whole32 la.out.bot_lt, (below_set (below_set bb (by omega) _ _) (by omega) _ _), (by first | omega | (simp; omega)), (by first | omega | (simp; omega)), (by first | omega | (simp; omega) | simp)⟩
  ·go_wp2_with fail; go_meet; exact ⟨_, _, yb, yo, yn, yc, zb, zo, zn, zc, rfl, rfl, ((m10.set _ _).alloc _), (Box.new _ _ _ (by first | (simp; done) | rfl)), ((Xa.other (by omega) _ _).alloc _), ((X2.other (by omega) _ _).alloc _), ((Ra.box m10 _ _).alloc _), (((h1.box m10 _ _).alloc _)).whole32 la.out.abs_lt, (((h2.box m10 _ _).alloc _)).whole32 la.out.bot_lt, (Below.alloc (below_set bb (by omega) _ _) (by first | omega | simp <;> omega) _), (by first | omega | (simp; omega)), (by first | omega | (simp; omega)), (by first | omega | (simp; omega) | simp)⟩
  ·go_wp2_with fail; go_meet; exact ⟨_, _, yb, yo, yn, yc, zb, zo, zn, zc, rfl, rfl, ((m10.set _ _).other (by omega) _ _), ((m20.other (by omega) _ _).set _ _), ((Xa.other (by omega) _ _).other (by omega) _ _), ((X2.other (by omega) _ _).other (by omega) _ _), ((Ra.box m10 _ _).box (m20.other (by omega) _ _) _ _), (((h1.box m10 _ _).box (m20.other (by omega) _ _) _ _)).whole32 la.out.abs_lt, (((h2.box m10 _ _).box (m20.other (by omega) _ _) _ _)).whole32 la.out.bot_lt, (below_set (below_set bb (by omega) _ _) (by omega) _ _), (by first | omega | (simp; omega)), (by first | omega | (simp; omega)), (by first | omega | (simp; omega) | simp)⟩
  ·go_wp2_with fail; go_meet; exact ⟨_, _, yb, yo, yn, yc, zb, zo, zn, zc, rfl, rfl, ((m10.set _ _).other (by omega) _ _), ((m11.other (by omega) _ _).set _ _), ((Xa.other (by omega) _ _).other (by omega) _ _), ((X2.other (by omega) _ _).other (by omega) _ _), ((Ra.box m10 _ _).box (m11.other (by omega) _ _) _ _), (((h1.box m10 _ _).box (m11.other (by omega) _ _) _ _)).whole32 la.out.abs_lt, (((h2.box m10 _ _).box (m11.other (by omega) _ _) _ _)).whole32 la.out.bot_lt, (below_set (below_set bb (by omega) _ _) (by omega) _ _), (by first | omega | (simp; omega)), (by first | omega | (simp; omega)), (by first | omega | (simp; omega) | simp)⟩
  ·go_wp2_with fail; go_meet; exact ⟨_, _, yb, yo, yn, yc, zb, zo, zn, zc, rfl, rfl, (Box.new _ _ _ (by first | (simp; done) | rfl)), ((m10.set _ _).alloc _), ((Xa.other (by omega) _ _).alloc _), ((X2.other (by omega) _ _).alloc _), ((Ra.box m10 _ _).alloc _), (((h1.box m10 _ _).alloc _)).whole32 la.out.abs_lt, (((h2.box m10 _ _).alloc _)).whole32 la.out.bot_lt, (Below.alloc (below_set bb (by omega) _ _) (by first | omega | simp <;> omega) _), (by first | omega | (simp; omega)), (by first | omega | (simp; omega)), (by first | omega | (simp; omega) | simp)⟩
  ·go_wp2_with fail; go_meet; exact ⟨_, _, yb, yo, yn, yc, zb, zo, zn, zc, rfl, rfl, ((m20.set _ _).other (by omega) _ _), ((m10.other (by omega) _ _).set _ _), ((Xa.other (by omega) _ _).other (by omega) _ _), ((X2.other (by omega) _ _).other (by omega) _ _), ((Ra.box m20 _ _).box (m10.other (by omega) _ _) _ _), (((h1.box m20 _ _).box (m10.other (by omega) _ _) _ _)).whole32 la.out.abs_lt, (((h2.box m20 _ _).box (m10.other (by omega) _ _) _ _)).whole32 la.out.bot_lt, (below_set (below_set bb (by omega) _ _) (by omega) _ _), (by first | omega | (simp; omega)), (by first | omega | (simp; omega)), (by first | omega | (simp; omega) | simp)⟩
  ·go_wp2_with fail; go_meet; exact ⟨_, _, yb, yo, yn, yc, zb, zo, zn, zc, rfl, rfl, ((m11.set _ _).other (by omega) _ _), ((m10.other (by omega) _ _).set _ _), ((Xa.other (by omega) _ _).other (by omega) _ _), ((X2.other (by omega) _ _).other (by omega) _ _), ((Ra.box m11 _ _).box (m10.other (by omega) _ _) _ _), (((h1.box m11 _ _).box (m10.other (by omega) _ _) _ _)).whole32 la.out.abs_lt, (((h2.box m11 _ _).box (m10.other (by omega) _ _) _ _)).whole32 la.out.bot_lt, (below_set (below_set bb (by omega) _ _) (by omega) _ _), (by first | omega | (simp; omega)), (by first | omega | (simp; omega)), (by first | omega | (simp; omega) | simp)⟩
 case rest =>
  obtain ⟨Y, Z, yb, yo, yn, yc, zb, zo, zn, zc, rfl, rfl, XY, XZ, Xa, X2, Ra, WY, WZ, bb, hY, hZ, hYZ⟩ := hcut
  replace bb := Lib.hid bb; replace Xa := Lib.hid Xa; replace X2 := Lib.hid X2; replace XY := Lib.hid XY; replace XZ := Lib.hid XZ; replace Ra := Lib.hid Ra; replace WY := Lib.hid WY; replace WZ := Lib.hid WZ
  by_cases hn : n < 0
  ·have hd : decide (n < 0) = true := decide_eq_true hn
   replace hn := Lib.hid hn
   have gd : Hid (w.heap.size ≠ Y ∧ w.heap.size ≠ Z ∧ w.heap.size + 1 ≠ Y ∧ w.heap.size + 1 ≠ Z ∧ Y ≠ Z ∧ Z ≠ Y ∧ w.heap.size ≤ Y ∧ w.heap.size ≤ Z) := Lib.hid (by omega)
   by_cases h0 : an = 0
   ·have hPn : Hid (P = 0 ∨ n = -9223372036854775808) := Lib.hid (.inl (Ra.out.top.len_zero.1 h0))
    subst h0
    have px := Xa.out.c1
    clear hYZ hY hZ Xa XY XZ Ra WY WZ
    replace X2 := X2.out
    replace bb := bb.out
    have q0 := X2.c0; have q1 := X2.c1; have q2 := X2.c2; have q3 := X2.fr 0; have q4 := X2.fr 1; have q5 := X2.fr 2
    have zz := X2.set (.bool false) (.slice none 0 0) (.slice none 0 0)
    have e0 := zz.c0; have e1 := zz.c1; have e2 := zz.c2
    have Y2 := Lib.hid X2; have bb' := Lib.hid bb
    clear zz X2 bb
    go_wp2_with fail
    refine bodyPost_ret (v := .tuple #[.agg #[.bool false, .slice none 0 0, .slice none 0 0], .int .i64 (3)]) (by simp [results, Tryz.results75, go_sem, e0, e1, e2]) rfl ?_
    exact pow_bad hn.out hPn.out (ResPost.stored (rt_zero _) Y2.out bb'.out (by omega))
   have hP : Hid (P ≠ 0) := Lib.hid (fun e => h0 (Ra.out.top.len_zero.2 e))
   have hd0 : ((an : Int) == 0) = false := by rw [beq_eq_false_iff_ne]; omega
   clear h0
   by_cases hm : n < -9223372036854775807
   ·have hPn : Hid (P = 0 ∨ n = -9223372036854775808) := Lib.hid (.inr (by have := n0.out; omega))
    have hm2 : decide (n < -9223372036854775807) = true := decide_eq_true hm
    have px := Xa.out.c1
    clear hm hYZ hY hZ Xa XY XZ Ra WY WZ
    replace X2 := X2.out
    replace bb := bb.out
    have q0 := X2.c0; have q1 := X2.c1; have q2 := X2.c2; have q3 := X2.fr 0; have q4 := X2.fr 1; have q5 := X2.fr 2
    have zz := X2.set (.bool false) (.slice none 0 0) (.slice none 0 0)
    have e0 := zz.c0; have e1 := zz.c1; have e2 := zz.c2
    have Y2 := Lib.hid X2; have bb' := Lib.hid bb
    clear zz X2 bb
    go_wp2_with fail
    refine bodyPost_ret (v := .tuple #[.agg #[.bool false, .slice none 0 0, .slice none 0 0], .int .i64 (3)]) (by simp [results, Tryz.results75, go_sem, e0, e1, e2]) rfl ?_
    exact pow_bad hn.out hPn.out (ResPost.stored (rt_zero _) Y2.out bb'.out (by omega))
   have hPn : Hid (¬ (P = 0 ∨ n = -9223372036854775808)) := Lib.hid (fun h => h.elim hP.out (fun e => by omega))
   have hm2 : decide (n < -9223372036854775807) = false := decide_eq_false hm
   have hk1 : Hid (-n ≤ 9223372036854775807) := Lib.hid (by omega)
   have hk0 : Hid (-9223372036854775808 ≤ -n) := Lib.hid (by have := n1.out; omega)
   have hw2 : IntKind.i64.wrap (-n) = -n := by have := hn.out; have := hk1.out; simp [IntKind.wrap, IntKind.bits, IntKind.signed]; omega
   have hw1 : wrap64 (-n) = -n := by rw [wrap_is]; exact hw2
   have hw3 : IntKind.i64.wrap (0 - n) = -n := by rw [Int.zero_sub]; exact hw2
   have hw4 : wrap64 (0 - n) = -n := by rw [Int.zero_sub]; exact hw1
   clear hm
   have px := Xa.out.c1
   go_upto_region 5 with fail
   clear px hd0 hm2
   have p00 := Xa.out.c0; have p01 := Xa.out.c1; have p02 := Xa.out.c2
   go_wp2_with fail
   clear p00 p01 p02
   refine (rBot_any ab ap aq an ac am ae Q _ (Ra.out.lower la.out)).mono ?_
   rintro e v21 ⟨fb, fo, fn, fc, rfl, FY, hb⟩
   replace bb := Lib.hid (below_then bb.out (Nat.le_refl _) hb); replace Xa := Lib.hid (Xa.out.later hb); replace X2 := Lib.hid (X2.out.later hb); replace XY := Lib.hid (XY.out.later hb); replace XZ := Lib.hid (XZ.out.later hb); replace Ra := Lib.hid (Ra.out.below hb); replace WY := Lib.hid (WY.out.below hb); replace WZ := Lib.hid (WZ.out.below hb)
   replace FY := Lib.hid FY
   clear hb
   have fY0 := XY.out.fr 0; have fY1 := XY.out.fr 1; have qY0 := XY.out.c0; have qY1 := XY.out.c1
   go_upto_region 6 with fail
   clear fY0 fY1 qY0 qY1
   refine gen_wp (fun w' => Below w.heap.size w w' ∧ Box3 w' w.heap.size (.bool ab) (.slice ap an ac) (.slice aq am ae) ∧ Box3 w' (w.heap.size + 1) (.bool false) (.slice none 0 0) (.slice none 0 0) ∧ Box w' Y (.bool fb) (.slice fo fn fc) ∧ Box w' Z (.bool zb) (.slice zo zn zc) ∧ Rt w' ab ap an ac aq am ae P Q ∧ Whole w' fb fo fn fc Q)
    ⟨below_set bb.out gd.out.2.2.2.2.2.2.1 _ _, Xa.out.other gd.out.1 _ _, X2.out.other gd.out.2.2.1 _ _, XY.out.set _ _, XZ.out.other gd.out.2.2.2.2.2.1 _ _, Ra.out.box XY.out _ _, (FY.out.whole32 la.out.bot_lt).box XY.out _ _⟩ ?_
   clear FY bb Xa X2 XY XZ Ra WY WZ
   rintro x30 ⟨bb, Xa, X2, XY, XZ, Ra, WY⟩
   replace bb := Lib.hid bb; replace Xa := Lib.hid Xa; replace X2 := Lib.hid X2; replace XY := Lib.hid XY; replace XZ := Lib.hid XZ; replace Ra := Lib.hid Ra; replace WY := Lib.hid WY
   have p00 := Xa.out.c0; have p01 := Xa.out.c1; have p02 := Xa.out.c2
   go_wp2_with fail
   clear p00 p01 p02
   refine (rTop_any ab ap aq an ac am ae P _ (Ra.out.upper la.out)).mono ?_
   rintro e v22 ⟨gb, go, gn, gc, rfl, FZ, hb⟩
   replace bb := Lib.hid (below_then bb.out (Nat.le_refl _) hb); replace Xa := Lib.hid (Xa.out.later hb); replace X2 := Lib.hid (X2.out.later hb); replace XY := Lib.hid (XY.out.later hb); replace XZ := Lib.hid (XZ.out.later hb); replace Ra := Lib.hid (Ra.out.below hb); replace WY := Lib.hid (WY.out.below hb)
   replace FZ := Lib.hid FZ
   clear hb
   have fY0 := XZ.out.fr 0; have fY1 := XZ.out.fr 1; have qY0 := XZ.out.c0; have qY1 := XZ.out.c1
   go_upto_region 7 with fail
   clear fY0 fY1 qY0 qY1
   refine gen_wp (fun w' => Below w.heap.size w w' ∧ Box3 w' w.heap.size (.bool ab) (.slice ap an ac) (.slice aq am ae) ∧ Box3 w' (w.heap.size + 1) (.bool false) (.slice none 0 0) (.slice none 0 0) ∧ Box w' Y (.bool fb) (.slice fo fn fc) ∧ Box w' Z (.bool gb) (.slice go gn gc) ∧ Rt w' ab ap an ac aq am ae P Q ∧ Whole w' fb fo fn fc Q ∧ Whole w' gb go gn gc P)
    ⟨below_set bb.out gd.out.2.2.2.2.2.2.2 _ _, Xa.out.other gd.out.2.1 _ _, X2.out.other gd.out.2.2.2.1 _ _, XY.out.other gd.out.2.2.2.2.1 _ _, XZ.out.set _ _, Ra.out.box XZ.out _ _, WY.out.box XZ.out _ _, (FZ.out.whole32 la.out.abs_lt).box XZ.out _ _⟩ ?_
   clear FZ bb Xa X2 XY XZ Ra WY
   rintro x31 ⟨bb, Xa, X2, XY, XZ, Ra, WY, WZ⟩
   replace bb := Lib.hid bb; replace Xa := Lib.hid Xa; replace X2 := Lib.hid X2; replace XY := Lib.hid XY; replace XZ := Lib.hid XZ; replace Ra := Lib.hid Ra; replace WY := Lib.hid WY; replace WZ := Lib.hid WZ
   go_upto_region 8 with fail
   clear hd
   obtain ⟨E1, hE1⟩ : ∃ E1, Hid (powE (-n) ((Q : Int)) = E1) := ⟨_, Lib.hid rfl⟩
   obtain ⟨E2, hE2⟩ : ∃ E2, Hid (powE (-n) (P) = E2) := ⟨_, Lib.hid rfl⟩
   have p00 := XY.out.c0; have p01 := XY.out.c1
   go_wp2_with fail
   clear p00 p01
   refine ((rPow_any fb fo fn fc ((Q : Int)) (-n) _ WY.out (grow_64 la.out.bot_lt) hk0.out hk1.out).mono fun _ _ => pow_split hE1.out).mono ?_
   rintro e v23 ⟨db, do_, dn, dc, rfl, D, hb⟩
   replace bb := Lib.hid (below_then bb.out (Nat.le_refl _) hb); replace Xa := Lib.hid (Xa.out.later hb); replace X2 := Lib.hid (X2.out.later hb); replace XY := Lib.hid (XY.out.later hb); replace XZ := Lib.hid (XZ.out.later hb); replace Ra := Lib.hid (Ra.out.below hb); replace WY := Lib.hid (WY.out.below hb); replace WZ := Lib.hid (WZ.out.below hb)
   by_cases h1 : E1 = 0
   ·subst h1
    replace D := Lib.hid D
    clear hb
    go_upto_region 9 with fail
    refine gen_wp (fun w' => Below w.heap.size w w' ∧ Box3 w' w.heap.size (.bool ab) (.slice ap an ac) (.slice aq am ae) ∧ Box3 w' (w.heap.size + 1) (.bool false) (.slice none 0 0) (.slice none 0 0) ∧ Box w' Y (.bool fb) (.slice fo fn fc) ∧ Box w' Z (.bool gb) (.slice go gn gc) ∧ Box w' v23.heap.size (.bool db) (.slice do_ dn dc) ∧ Rt w' ab ap an ac aq am ae P Q ∧ Whole w' fb fo fn fc Q ∧ Whole w' gb go gn gc P ∧ Right w' db do_ dn dc (powV (-n) ((Q : Int))))
     ⟨bb.out.alloc bb.out.size _, Xa.out.alloc _, X2.out.alloc _, XY.out.alloc _, XZ.out.alloc _, Box.new _ _ _ rfl, Ra.out.alloc _, WY.out.alloc _, WZ.out.alloc _, D.out.alloc _⟩ ?_
    clear bb Xa X2 XY XZ Ra WY WZ D
    rintro x23 ⟨bb, Xa, X2, XY, XZ, Xd, Ra, WY, WZ, D⟩
    replace bb := Lib.hid bb; replace Xa := Lib.hid Xa; replace X2 := Lib.hid X2; replace XY := Lib.hid XY; replace XZ := Lib.hid XZ; replace Xd := Lib.hid Xd; replace Ra := Lib.hid Ra; replace WY := Lib.hid WY; replace WZ := Lib.hid WZ; replace D := Lib.hid D
    go_upto_region 11 with fail
    have p00 := XZ.out.c0; have p01 := XZ.out.c1
    go_wp2_with fail
    clear p00 p01
    refine ((rPow_any gb go gn gc (P) (-n) _ WZ.out (grow_64 la.out.abs_lt) hk0.out hk1.out).mono fun _ _ => pow_split hE2.out).mono ?_
    rintro e v24 ⟨eb, eo, en, ec, rfl, E, hb⟩
    replace bb := Lib.hid (below_then bb.out (Nat.le_refl _) hb); replace Xa := Lib.hid (Xa.out.later hb); replace X2 := Lib.hid (X2.out.later hb); replace XY := Lib.hid (XY.out.later hb); replace XZ := Lib.hid (XZ.out.later hb); replace Xd := Lib.hid (Xd.out.later hb); replace Ra := Lib.hid (Ra.out.below hb); replace WY := Lib.hid (WY.out.below hb); replace WZ := Lib.hid (WZ.out.below hb); replace D := Lib.hid (D.out.below hb)
    by_cases h2 : E2 = 0
    ·subst h2
     replace E := Lib.hid E
     clear hb
     go_upto_region 12 with fail
     refine gen_wp (fun w' => Below w.heap.size w w' ∧ Box3 w' w.heap.size (.bool ab) (.slice ap an ac) (.slice aq am ae) ∧ Box3 w' (w.heap.size + 1) (.bool false) (.slice none 0 0) (.slice none 0 0) ∧ Box w' Y (.bool fb) (.slice fo fn fc) ∧ Box w' Z (.bool gb) (.slice go gn gc) ∧ Box w' v23.heap.size (.bool db) (.slice do_ dn dc) ∧ Box w' v24.heap.size (.bool eb) (.slice eo en ec) ∧ Rt w' ab ap an ac aq am ae P Q ∧ Whole w' fb fo fn fc Q ∧ Whole w' gb go gn gc P ∧ Right w' db do_ dn dc (powV (-n) ((Q : Int))) ∧ Right w' eb eo en ec (powV (-n) (P)))
      ⟨bb.out.alloc bb.out.size _, Xa.out.alloc _, X2.out.alloc _, XY.out.alloc _, XZ.out.alloc _, Xd.out.alloc _, Box.new _ _ _ rfl, Ra.out.alloc _, WY.out.alloc _, WZ.out.alloc _, D.out.alloc _, E.out.alloc _⟩ ?_
     clear bb Xa X2 XY XZ Xd Ra WY WZ D E
     rintro x24 ⟨bb, Xa, X2, XY, XZ, Xd, Xe, Ra, WY, WZ, D, E⟩
     replace bb := Lib.hid bb; replace Xa := Lib.hid Xa; replace X2 := Lib.hid X2; replace XY := Lib.hid XY; replace XZ := Lib.hid XZ; replace Xd := Lib.hid Xd; replace Xe := Lib.hid Xe; replace Ra := Lib.hid Ra; replace WY := Lib.hid WY; replace WZ := Lib.hid WZ; replace D := Lib.hid D; replace E := Lib.hid E
     go_upto_region 14 with fail
     have p00 := Xd.out.c0; have p01 := Xd.out.c1; have p10 := Xe.out.c0; have p11 := Xe.out.c1
     go_wp2_with fail
     clear p00 p01 p10 p11
     refine (rMake_any db eb do_ eo dn dc en ec (powV (-n) ((Q : Int))) (powV (-n) (P)) _ (D.out.whole32 (powV_lt (-n) ((Q : Int)))) (E.out.whole32 (powV_lt (-n) (P))) 32 (by omega) (powV_lt (-n) ((Q : Int))) (powV_lt (-n) (P))).mono ?_
     rintro e v25 ⟨zb, zp, zn, zc, zq, zm, ze, rfl, N, hb⟩
     replace bb := Lib.hid (below_then bb.out (Nat.le_refl _) hb); replace Xa := Lib.hid (Xa.out.later hb); replace X2 := Lib.hid (X2.out.later hb); replace XY := Lib.hid (XY.out.later hb); replace XZ := Lib.hid (XZ.out.later hb); replace Xd := Lib.hid (Xd.out.later hb); replace Xe := Lib.hid (Xe.out.later hb); replace Ra := Lib.hid (Ra.out.below hb); replace WY := Lib.hid (WY.out.below hb); replace WZ := Lib.hid (WZ.out.below hb); replace D := Lib.hid (D.out.below hb); replace E := Lib.hid (E.out.below hb)
     replace N := Lib.hid N
     clear hb Xa XY XZ Xd Xe Ra WY WZ D E
     replace X2 := X2.out
     replace bb := bb.out
     have q0 := X2.c0; have q1 := X2.c1; have q2 := X2.c2; have q3 := X2.fr 0; have q4 := X2.fr 1; have q5 := X2.fr 2
     have zz := X2.set (.bool zb) (.slice zp zn zc) (.slice zq zm ze)
     have e0 := zz.c0; have e1 := zz.c1; have e2 := zz.c2
     have Y2 := Lib.hid X2; have bb' := Lib.hid bb
     clear zz X2 bb
     go_wp2_with fail
     refine bodyPost_ret (v := .tuple #[.agg #[.bool zb, .slice zp zn zc, .slice zq zm ze], .int .i64 (mkE (powV (-n) ((Q : Int))) (powV (-n) (P)))]) (by simp [results, Tryz.results75, go_sem, e0, e1, e2]) rfl ?_
     exact pow_neg hn.out hPn.out (pw_ok hE1.out hE2.out (ResPost.stored N.out Y2.out bb'.out (by omega)))
    ·replace h2 := Lib.hid h2
     replace E := Lib.hid E
     clear hb
     go_upto_region 12 with fail
     refine gen_wp (fun w' => Below w.heap.size w w' ∧ Box3 w' w.heap.size (.bool ab) (.slice ap an ac) (.slice aq am ae) ∧ Box3 w' (w.heap.size + 1) (.bool false) (.slice none 0 0) (.slice none 0 0) ∧ Box w' Y (.bool fb) (.slice fo fn fc) ∧ Box w' Z (.bool gb) (.slice go gn gc) ∧ Box w' v23.heap.size (.bool db) (.slice do_ dn dc) ∧ Box w' v24.heap.size (.bool eb) (.slice eo en ec) ∧ Rt w' ab ap an ac aq am ae P Q ∧ Whole w' fb fo fn fc Q ∧ Whole w' gb go gn gc P ∧ Right w' db do_ dn dc (powV (-n) ((Q : Int))) ∧ Right w' eb eo en ec (powV (-n) (P)))
      ⟨bb.out.alloc bb.out.size _, Xa.out.alloc _, X2.out.alloc _, XY.out.alloc _, XZ.out.alloc _, Xd.out.alloc _, Box.new _ _ _ rfl, Ra.out.alloc _, WY.out.alloc _, WZ.out.alloc _, D.out.alloc _, E.out.alloc _⟩ ?_
     clear bb Xa X2 XY XZ Xd Ra WY WZ D E
     rintro x24 ⟨bb, Xa, X2, XY, XZ, Xd, Xe, Ra, WY, WZ, D, E⟩
     replace bb := Lib.hid bb; replace Xa := Lib.hid Xa; replace X2 := Lib.hid X2; replace XY := Lib.hid XY; replace XZ := Lib.hid XZ; replace Xd := Lib.hid Xd; replace Xe := Lib.hid Xe; replace Ra := Lib.hid Ra; replace WY := Lib.hid WY; replace WZ := Lib.hid WZ; replace D := Lib.hid D; replace E := Lib.hid E
     have hz := h2.out
     clear Xa XY XZ Xd Xe Ra WY WZ D E
     replace X2 := X2.out
     replace bb := bb.out
     have q0 := X2.c0; have q1 := X2.c1; have q2 := X2.c2; have q3 := X2.fr 0; have q4 := X2.fr 1; have q5 := X2.fr 2
     have zz := X2.set (.bool false) (.slice none 0 0) (.slice none 0 0)
     have e0 := zz.c0; have e1 := zz.c1; have e2 := zz.c2
     have Y2 := Lib.hid X2; have bb' := Lib.hid bb
     clear zz X2 bb
     go_wp2_with fail
     refine bodyPost_ret (v := .tuple #[.agg #[.bool false, .slice none 0 0, .slice none 0 0], .int .i64 (E2)]) (by simp [results, Tryz.results75, go_sem, e0, e1, e2]) rfl ?_
     exact pow_neg hn.out hPn.out (pw_two hE1.out hE2.out h2.out (ResPost.stored (rt_zero _) Y2.out bb'.out (by omega)))
   ·replace h1 := Lib.hid h1
    replace D := Lib.hid D
    clear hb
    go_upto_region 9 with fail
    refine gen_wp (fun w' => Below w.heap.size w w' ∧ Box3 w' w.heap.size (.bool ab) (.slice ap an ac) (.slice aq am ae) ∧ Box3 w' (w.heap.size + 1) (.bool false) (.slice none 0 0) (.slice none 0 0) ∧ Box w' Y (.bool fb) (.slice fo fn fc) ∧ Box w' Z (.bool gb) (.slice go gn gc) ∧ Box w' v23.heap.size (.bool db) (.slice do_ dn dc) ∧ Rt w' ab ap an ac aq am ae P Q ∧ Whole w' fb fo fn fc Q ∧ Whole w' gb go gn gc P ∧ Right w' db do_ dn dc (powV (-n) ((Q : Int))))
     ⟨bb.out.alloc bb.out.size _, Xa.out.alloc _, X2.out.alloc _, XY.out.alloc _, XZ.out.alloc _, Box.new _ _ _ rfl, Ra.out.alloc _, WY.out.alloc _, WZ.out.alloc _, D.out.alloc _⟩ ?_
    clear bb Xa X2 XY XZ Ra WY WZ D
    rintro x23 ⟨bb, Xa, X2, XY, XZ, Xd, Ra, WY, WZ, D⟩
    replace bb := Lib.hid bb; replace Xa := Lib.hid Xa; replace X2 := Lib.hid X2; replace XY := Lib.hid XY; replace XZ := Lib.hid XZ; replace Xd := Lib.hid Xd; replace Ra := Lib.hid Ra; replace WY := Lib.hid WY; replace WZ := Lib.hid WZ; replace D := Lib.hid D
    have hz := h1.out
    clear Xa XY XZ Xd Ra WY WZ D
    replace X2 := X2.out
    replace bb := bb.out
    have q0 := X2.c0; have q1 := X2.c1; have q2 := X2.c2; have q3 := X2.fr 0; have q4 := X2.fr 1; have q5 := X2.fr 2
    have zz := X2.set (.bool false) (.slice none 0 0) (.slice none 0 0)
    have e0 := zz.c0; have e1 := zz.c1; have e2 := zz.c2
    have Y2 := Lib.hid X2; have bb' := Lib.hid bb
    clear zz X2 bb
    go_wp2_with fail
    refine bodyPost_ret (v := .tuple #[.agg #[.bool false, .slice none 0 0, .slice none 0 0], .int .i64 (E1)]) (by simp [results, Tryz.results75, go_sem, e0, e1, e2]) rfl ?_
    exact pow_neg hn.out hPn.out (pw_one hE1.out h1.out (ResPost.stored (rt_zero _) Y2.out bb'.out (by omega)))
  ·have hd : decide (n < 0) = false := decide_eq_false hn
   replace hn := Lib.hid hn
   go_upto_region 8 with fail
   clear hd
   obtain ⟨E1, hE1⟩ : ∃ E1, Hid (powE (n) (P) = E1) := ⟨_, Lib.hid rfl⟩
   obtain ⟨E2, hE2⟩ : ∃ E2, Hid (powE (n) ((Q : Int)) = E2) := ⟨_, Lib.hid rfl⟩
   have p00 := XY.out.c0; have p01 := XY.out.c1
   go_wp2_with fail
   clear p00 p01
   refine ((rPow_any yb yo yn yc (P) (n) _ WY.out (grow_64 la.out.abs_lt) n0.out n1.out).mono fun _ _ => pow_split hE1.out).mono ?_
   rintro e v21 ⟨db, do_, dn, dc, rfl, D, hb⟩
   replace bb := Lib.hid (below_then bb.out (Nat.le_refl _) hb); replace Xa := Lib.hid (Xa.out.later hb); replace X2 := Lib.hid (X2.out.later hb); replace XY := Lib.hid (XY.out.later hb); replace XZ := Lib.hid (XZ.out.later hb); replace Ra := Lib.hid (Ra.out.below hb); replace WY := Lib.hid (WY.out.below hb); replace WZ := Lib.hid (WZ.out.below hb)
   by_cases h1 : E1 = 0
   ·subst h1
    replace D := Lib.hid D
    clear hb
    go_upto_region 9 with fail
    refine gen_wp (fun w' => Below w.heap.size w w' ∧ Box3 w' w.heap.size (.bool ab) (.slice ap an ac) (.slice aq am ae) ∧ Box3 w' (w.heap.size + 1) (.bool false) (.slice none 0 0) (.slice none 0 0) ∧ Box w' Y (.bool yb) (.slice yo yn yc) ∧ Box w' Z (.bool zb) (.slice zo zn zc) ∧ Box w' v21.heap.size (.bool db) (.slice do_ dn dc) ∧ Rt w' ab ap an ac aq am ae P Q ∧ Whole w' yb yo yn yc P ∧ Whole w' zb zo zn zc Q ∧ Right w' db do_ dn dc (powV (n) (P)))
     ⟨bb.out.alloc bb.out.size _, Xa.out.alloc _, X2.out.alloc _, XY.out.alloc _, XZ.out.alloc _, Box.new _ _ _ rfl, Ra.out.alloc _, WY.out.alloc _, WZ.out.alloc _, D.out.alloc _⟩ ?_
    clear bb Xa X2 XY XZ Ra WY WZ D
    rintro x21 ⟨bb, Xa, X2, XY, XZ, Xd, Ra, WY, WZ, D⟩
    replace bb := Lib.hid bb; replace Xa := Lib.hid Xa; replace X2 := Lib.hid X2; replace XY := Lib.hid XY; replace XZ := Lib.hid XZ; replace Xd := Lib.hid Xd; replace Ra := Lib.hid Ra; replace WY := Lib.hid WY; replace WZ := Lib.hid WZ; replace D := Lib.hid D
    go_upto_region 11 with fail
    have p00 := XZ.out.c0; have p01 := XZ.out.c1
    go_wp2_with fail
    clear p00 p01
    refine ((rPow_any zb zo zn zc ((Q : Int)) (n) _ WZ.out (grow_64 la.out.bot_lt) n0.out n1.out).mono fun _ _ => pow_split hE2.out).mono ?_
    rintro e v22 ⟨eb, eo, en, ec, rfl, E, hb⟩
    replace bb := Lib.hid (below_then bb.out (Nat.le_refl _) hb); replace Xa := Lib.hid (Xa.out.later hb); replace X2 := Lib.hid (X2.out.later hb); replace XY := Lib.hid (XY.out.later hb); replace XZ := Lib.hid (XZ.out.later hb); replace Xd := Lib.hid (Xd.out.later hb); replace Ra := Lib.hid (Ra.out.below hb); replace WY := Lib.hid (WY.out.below hb); replace WZ := Lib.hid (WZ.out.below hb); replace D := Lib.hid (D.out.below hb)
    by_cases h2 : E2 = 0
    ·subst h2
     replace E := Lib.hid E
     clear hb
     go_upto_region 12 with fail
     refine gen_wp (fun w' => Below w.heap.size w w' ∧ Box3 w' w.heap.size (.bool ab) (.slice ap an ac) (.slice aq am ae) ∧ Box3 w' (w.heap.size + 1) (.bool false) (.slice none 0 0) (.slice none 0 0) ∧ Box w' Y (.bool yb) (.slice yo yn yc) ∧ Box w' Z (.bool zb) (.slice zo zn zc) ∧ Box w' v21.heap.size (.bool db) (.slice do_ dn dc) ∧ Box w' v22.heap.size (.bool eb) (.slice eo en ec) ∧ Rt w' ab ap an ac aq am ae P Q ∧ Whole w' yb yo yn yc P ∧ Whole w' zb zo zn zc Q ∧ Right w' db do_ dn dc (powV (n) (P)) ∧ Right w' eb eo en ec (powV (n) ((Q : Int))))
      ⟨bb.out.alloc bb.out.size _, Xa.out.alloc _, X2.out.alloc _, XY.out.alloc _, XZ.out.alloc _, Xd.out.alloc _, Box.new _ _ _ rfl, Ra.out.alloc _, WY.out.alloc _, WZ.out.alloc _, D.out.alloc _, E.out.alloc _⟩ ?_
     clear bb Xa X2 XY XZ Xd Ra WY WZ D E
     rintro x22 ⟨bb, Xa, X2, XY, XZ, Xd, Xe, Ra, WY, WZ, D, E⟩
     replace bb := Lib.hid bb; replace Xa := Lib.hid Xa; replace X2 := Lib.hid X2; replace XY := Lib.hid XY; replace XZ := Lib.hid XZ; replace Xd := Lib.hid Xd; replace Xe := Lib.hid Xe; replace Ra := Lib.hid Ra; replace WY := Lib.hid WY; replace WZ := Lib.hid WZ; replace D := Lib.hid D; replace E := Lib.hid E
     go_upto_region 14 with fail
     have p00 := Xd.out.c0; have p01 := Xd.out.c1; have p10 := Xe.out.c0; have p11 := Xe.out.c1
     go_wp2_with fail
     clear p00 p01 p10 p11
     refine (rMake_any db eb do_ eo dn dc en ec (powV (n) (P)) (powV (n) ((Q : Int))) _ (D.out.whole32 (powV_lt (n) (P))) (E.out.whole32 (powV_lt (n) ((Q : Int)))) 32 (by omega) (powV_lt (n) (P)) (powV_lt (n) ((Q : Int)))).mono ?_
     rintro e v23 ⟨zb, zp, zn, zc, zq, zm, ze, rfl, N, hb⟩
     replace bb := Lib.hid (below_then bb.out (Nat.le_refl _) hb); replace Xa := Lib.hid (Xa.out.later hb); replace X2 := Lib.hid (X2.out.later hb); replace XY := Lib.hid (XY.out.later hb); replace XZ := Lib.hid (XZ.out.later hb); replace Xd := Lib.hid (Xd.out.later hb); replace Xe := Lib.hid (Xe.out.later hb); replace Ra := Lib.hid (Ra.out.below hb); replace WY := Lib.hid (WY.out.below hb); replace WZ := Lib.hid (WZ.out.below hb); replace D := Lib.hid (D.out.below hb); replace E := Lib.hid (E.out.below hb)
     replace N := Lib.hid N
     clear hb Xa XY XZ Xd Xe Ra WY WZ D E
     replace X2 := X2.out
     replace bb := bb.out
     have q0 := X2.c0; have q1 := X2.c1; have q2 := X2.c2; have q3 := X2.fr 0; have q4 := X2.fr 1; have q5 := X2.fr 2
     have zz := X2.set (.bool zb) (.slice zp zn zc) (.slice zq zm ze)
     have e0 := zz.c0; have e1 := zz.c1; have e2 := zz.c2
     have Y2 := Lib.hid X2; have bb' := Lib.hid bb
     clear zz X2 bb
     go_wp2_with fail
     refine bodyPost_ret (v := .tuple #[.agg #[.bool zb, .slice zp zn zc, .slice zq zm ze], .int .i64 (mkE (powV (n) (P)) (powV (n) ((Q : Int))))]) (by simp [results, Tryz.results75, go_sem, e0, e1, e2]) rfl ?_
     exact pow_pos (by have := hn.out; omega) (pw_ok hE1.out hE2.out (ResPost.stored N.out Y2.out bb'.out (by omega)))
    ·replace h2 := Lib.hid h2
     replace E := Lib.hid E
     clear hb
     go_upto_region 12 with fail
     refine gen_wp (fun w' => Below w.heap.size w w' ∧ Box3 w' w.heap.size (.bool ab) (.slice ap an ac) (.slice aq am ae) ∧ Box3 w' (w.heap.size + 1) (.bool false) (.slice none 0 0) (.slice none 0 0) ∧ Box w' Y (.bool yb) (.slice yo yn yc) ∧ Box w' Z (.bool zb) (.slice zo zn zc) ∧ Box w' v21.heap.size (.bool db) (.slice do_ dn dc) ∧ Box w' v22.heap.size (.bool eb) (.slice eo en ec) ∧ Rt w' ab ap an ac aq am ae P Q ∧ Whole w' yb yo yn yc P ∧ Whole w' zb zo zn zc Q ∧ Right w' db do_ dn dc (powV (n) (P)) ∧ Right w' eb eo en ec (powV (n) ((Q : Int))))
      ⟨bb.out.alloc bb.out.size _, Xa.out.alloc _, X2.out.alloc _, XY.out.alloc _, XZ.out.alloc _, Xd.out.alloc _, Box.new _ _ _ rfl, Ra.out.alloc _, WY.out.alloc _, WZ.out.alloc _, D.out.alloc _, E.out.alloc _⟩ ?_
     clear bb Xa X2 XY XZ Xd Ra WY WZ D E
     rintro x22 ⟨bb, Xa, X2, XY, XZ, Xd, Xe, Ra, WY, WZ, D, E⟩
     replace bb := Lib.hid bb; replace Xa := Lib.hid Xa; replace X2 := Lib.hid X2; replace XY := Lib.hid XY; replace XZ := Lib.hid XZ; replace Xd := Lib.hid Xd; replace Xe := Lib.hid Xe; replace Ra := Lib.hid Ra; replace WY := Lib.hid WY; replace WZ := Lib.hid WZ; replace D := Lib.hid D; replace E := Lib.hid E
     have hz := h2.out
     clear Xa XY XZ Xd Xe Ra WY WZ D E
     replace X2 := X2.out
     replace bb := bb.out
     have q0 := X2.c0; have q1 := X2.c1; have q2 := X2.c2; have q3 := X2.fr 0; have q4 := X2.fr 1; have q5 := X2.fr 2
     have zz := X2.set (.bool false) (.slice none 0 0) (.slice none 0 0)
     have e0 := zz.c0; have e1 := zz.c1; have e2 := zz.c2
     have Y2 := Lib.hid X2; have bb' := Lib.hid bb
     clear zz X2 bb
     go_wp2_with fail
     refine bodyPost_ret (v := .tuple #[.agg #[.bool false, .slice none 0 0, .slice none 0 0], .int .i64 (E2)]) (by simp [results, Tryz.results75, go_sem, e0, e1, e2]) rfl ?_
     exact pow_pos (by have := hn.out; omega) (pw_two hE1.out hE2.out h2.out (ResPost.stored (rt_zero _) Y2.out bb'.out (by omega)))
   ·replace h1 := Lib.hid h1
    replace D := Lib.hid D
    clear hb
    go_upto_region 9 with fail
    refine gen_wp (fun w' => Below w.heap.size w w' ∧ Box3 w' w.heap.size (.bool ab) (.slice ap an ac) (.slice aq am ae) ∧ Box3 w' (w.heap.size + 1) (.bool false) (.slice none 0 0) (.slice none 0 0) ∧ Box w' Y (.bool yb) (.slice yo yn yc) ∧ Box w' Z (.bool zb) (.slice zo zn zc) ∧ Box w' v21.heap.size (.bool db) (.slice do_ dn dc) ∧ Rt w' ab ap an ac aq am ae P Q ∧ Whole w' yb yo yn yc P ∧ Whole w' zb zo zn zc Q ∧ Right w' db do_ dn dc (powV (n) (P)))
     ⟨bb.out.alloc bb.out.size _, Xa.out.alloc _, X2.out.alloc _, XY.out.alloc _, XZ.out.alloc _, Box.new _ _ _ rfl, Ra.out.alloc _, WY.out.alloc _, WZ.out.alloc _, D.out.alloc _⟩ ?_
    clear bb Xa X2 XY XZ Ra WY WZ D
    rintro x21 ⟨bb, Xa, X2, XY, XZ, Xd, Ra, WY, WZ, D⟩
    replace bb := Lib.hid bb; replace Xa := Lib.hid Xa; replace X2 := Lib.hid X2; replace XY := Lib.hid XY; replace XZ := Lib.hid XZ; replace Xd := Lib.hid Xd; replace Ra := Lib.hid Ra; replace WY := Lib.hid WY; replace WZ := Lib.hid WZ; replace D := Lib.hid D
    have hz := h1.out
    clear Xa XY XZ Xd Ra WY WZ D
    replace X2 := X2.out
    replace bb := bb.out
    have q0 := X2.c0; have q1 := X2.c1; have q2 := X2.c2; have q3 := X2.fr 0; have q4 := X2.fr 1; have q5 := X2.fr 2
    have zz := X2.set (.bool false) (.slice none 0 0) (.slice none 0 0)
    have e0 := zz.c0; have e1 := zz.c1; have e2 := zz.c2
    have Y2 := Lib.hid X2; have bb' := Lib.hid bb
    clear zz X2 bb
    go_wp2_with fail
    refine bodyPost_ret (v := .tuple #[.agg #[.bool false, .slice none 0 0, .slice none 0 0], .int .i64 (E1)]) (by simp [results, Tryz.results75, go_sem, e0, e1, e2]) rfl ?_
    exact pow_pos (by have := hn.out; omega) (pw_one hE1.out h1.out (ResPost.stored (rt_zero _) Y2.out bb'.out (by omega)))
end Go.Proofs.YtaepelipkkmeaaaGreat
namespace Go.Proofs.YtaepelipkkmeaaaGreat
open Go.RowKit Num
attribute [local go_sem ↓] Go.wp_at_zero Go.wp_at_succ
def factZ : Nat → Int
 | 0 => 1
 | n + 1 => factZ n * ((n : Int) + 1)
def factR (P : Int) (Q : Nat) : Int × Nat × Int := if Q = 1 ∧ 0 ≤ P then (if P ≤ 200 then (mkT (factZ P.toNat) 1, mkB (factZ P.toNat) 1, mkE (factZ P.toNat) 1) else (0, 0, 7)) else (0, 0, 3)
def notR (P : Int) (Q : Nat) : Int × Nat × Int := if P = 0 then (1, 1, 0) else if P = 1 ∧ Q = 1 then (0, 1, 0) else (0, 0, 3)
def numR (f P : Int) (Q : Nat) : Int × Nat × Int :=
 if f = 43 then (P, Q, 0) else if f = 45 then (-P, Q, 0) else if f = 215 then (cmpI P 0, 1, 0) else
 if f = 247 then (mkT ((1 : Int) * Q) (((1 : Nat) : Int) * P), mkB ((1 : Int) * Q) (((1 : Nat) : Int) * P), mkE ((1 : Int) * Q) (((1 : Nat) : Int) * P)) else
 if f = 8968 then (-((-P).fdiv Q), 1, 0) else if f = 8970 then (P.fdiv Q, 1, 0) else if f = 124 then ((P.natAbs : Int), Q, 0) else
 if f = 126 then notR P Q else if f = 33 then factR P Q else (0, 0, 8)
theorem notR_zero {P : Int} {Q : Nat} {w w' : World} {e : Ending} (h : P = 0) (k : ResPost 1 1 0 w e w') : NumRes (notR P Q) w e w' := NumRes.of k (if_pos h)
theorem notR_one {P : Int} {Q : Nat} {w w' : World} {e : Ending} (h : P = 1 ∧ Q = 1) (k : ResPost 0 1 0 w e w') : NumRes (notR P Q) w e w' := NumRes.of k (by unfold notR; rw [if_neg (by omega), if_pos h])
theorem notR_no {P : Int} {Q : Nat} {w w' : World} {e : Ending} (h : P ≠ 0) (h2 : ¬ (P = 1 ∧ Q = 1)) (k : ResPost 0 0 3 w e w') : NumRes (notR P Q) w e w' := NumRes.of k (by unfold notR; rw [if_neg h, if_neg h2])
theorem cmpI_small (x y : Int) : -1 ≤ cmpI x y ∧ cmpI x y ≤ 1 := by unfold cmpI; split <;> (try split) <;> omega
theorem num10_plus (ab : Bool) (ap aq : Option Addr) (an ac am ae : Nat) (P : Int) (Q : Nat) (w : World) (Ra : Rt w ab ap an ac aq am ae P Q) (la : Low P Q) :
  Calls Tryz.prog 18 #[.int .i64 43, .agg #[.bool ab, .slice ap an ac, .slice aq am ae]] w (ResPost P Q 0 w) := by
 replace Ra := Lib.hid Ra; replace la := Lib.hid la
 go_enter Tryz.func18, Tryz.ntmps18
 go_upto_region 1 with fail
 refine gen_wp (fun w' => Below w.heap.size w w' ∧ Box3 w' w.heap.size (.bool ab) (.slice ap an ac) (.slice aq am ae) ∧ Box3 w' (w.heap.size + 1) (.bool false) (.slice none 0 0) (.slice none 0 0))
  ⟨(((Below.refl _ _).alloc (Nat.le_refl _) _).alloc (by simp <;> omega) _), ((Box3.new _ _ _ _ rfl).alloc _), (Box3.new _ _ _ _ (by simp <;> omega))⟩ ?_
 rintro w0 ⟨bb, Xa, X2⟩
 replace Ra := Ra.out.below bb
 replace bb := Lib.hid bb; replace Xa := Lib.hid Xa; replace X2 := Lib.hid X2; replace Ra := Lib.hid Ra
 have p00 := Xa.out.c0; have p01 := Xa.out.c1; have p02 := Xa.out.c2
 replace X2 := X2.out
 replace bb := bb.out
 have q0 := X2.c0; have q1 := X2.c1; have q2 := X2.c2; have q3 := X2.fr 0; have q4 := X2.fr 1; have q5 := X2.fr 2
 have zz := X2.set (.bool ab) (.slice ap an ac) (.slice aq am ae)
 have e0 := zz.c0; have e1 := zz.c1; have e2 := zz.c2
 have Y2 := Lib.hid X2; have bb' := Lib.hid bb
 clear zz X2 bb
 go_wp2_with fail
 refine bodyPost_ret (v := .tuple #[.agg #[.bool ab, .slice ap an ac, .slice aq am ae], .int .i64 (0)]) (by simp [results, Tryz.results18, go_sem, e0, e1, e2]) rfl ?_
 exact (ResPost.stored Ra.out Y2.out bb'.out (by omega))
theorem num10_minus (ab : Bool) (ap aq : Option Addr) (an ac am ae : Nat) (P : Int) (Q : Nat) (w : World) (Ra : Rt w ab ap an ac aq am ae P Q) (la : Low P Q) :
  Calls Tryz.prog 18 #[.int .i64 45, .agg #[.bool ab, .slice ap an ac, .slice aq am ae]] w (ResPost (-P) Q 0 w) := by
 replace Ra := Lib.hid Ra; replace la := Lib.hid la
 go_enter Tryz.func18, Tryz.ntmps18
 go_upto_region 1 with fail
 refine gen_wp (fun w' => Below w.heap.size w w' ∧ Box3 w' w.heap.size (.bool ab) (.slice ap an ac) (.slice aq am ae) ∧ Box3 w' (w.heap.size + 1) (.bool false) (.slice none 0 0) (.slice none 0 0))
  ⟨(((Below.refl _ _).alloc (Nat.le_refl _) _).alloc (by simp <;> omega) _), ((Box3.new _ _ _ _ rfl).alloc _), (Box3.new _ _ _ _ (by simp <;> omega))⟩ ?_
 rintro w0 ⟨bb, Xa, X2⟩
 replace Ra := Ra.out.below bb
 replace bb := Lib.hid bb; replace Xa := Lib.hid Xa; replace X2 := Lib.hid X2; replace Ra := Lib.hid Ra
 have p00 := Xa.out.c0; have p01 := Xa.out.c1; have p02 := Xa.out.c2
 go_wp2_with fail
 clear p00 p01 p02
 refine (neg4_any ab ap aq an ac am ae P Q _ Ra.out la.out).mono ?_
 rintro e v1 ⟨db, dp, dn, dc, dq, dm, de, rfl, D, hb⟩
 replace bb := Lib.hid (below_then bb.out (Nat.le_refl _) hb); replace Xa := Lib.hid (Xa.out.later hb); replace X2 := Lib.hid (X2.out.later hb); replace Ra := Lib.hid (Ra.out.below hb)
 replace D := Lib.hid D
 clear hb
 replace X2 := X2.out
 replace bb := bb.out
 have q0 := X2.c0; have q1 := X2.c1; have q2 := X2.c2; have q3 := X2.fr 0; have q4 := X2.fr 1; have q5 := X2.fr 2
 have zz := X2.set (.bool db) (.slice dp dn dc) (.slice dq dm de)
 have e0 := zz.c0; have e1 := zz.c1; have e2 := zz.c2
 have Y2 := Lib.hid X2; have bb' := Lib.hid bb
 clear zz X2 bb
 go_wp2_with fail
 refine bodyPost_ret (v := .tuple #[.agg #[.bool db, .slice dp dn dc, .slice dq dm de], .int .i64 (0)]) (by simp [results, Tryz.results18, go_sem, e0, e1, e2]) rfl ?_
 exact (ResPost.stored D.out Y2.out bb'.out (by omega))
theorem num10_floor (ab : Bool) (ap aq : Option Addr) (an ac am ae : Nat) (P : Int) (Q : Nat) (w : World) (Ra : Rt w ab ap an ac aq am ae P Q) (la : Low P Q) :
  Calls Tryz.prog 18 #[.int .i64 8970, .agg #[.bool ab, .slice ap an ac, .slice aq am ae]] w (ResPost (P.fdiv Q) 1 0 w) := by
 replace Ra := Lib.hid Ra; replace la := Lib.hid la
 go_enter Tryz.func18, Tryz.ntmps18
 go_upto_region 1 with fail
 refine gen_wp (fun w' => Below w.heap.size w w' ∧ Box3 w' w.heap.size (.bool ab) (.slice ap an ac) (.slice aq am ae) ∧ Box3 w' (w.heap.size + 1) (.bool false) (.slice none 0 0) (.slice none 0 0))
  ⟨(((Below.refl _ _).alloc (Nat.le_refl _) _).alloc (by simp <;> omega) _), ((Box3.new _ _ _ _ rfl).alloc _), (Box3.new _ _ _ _ (by simp <;> omega))⟩ ?_
 rintro w0 ⟨bb, Xa, X2⟩
 replace Ra := Ra.out.below bb
 replace bb := Lib.hid bb; replace Xa := Lib.hid Xa; replace X2 := Lib.hid X2; replace Ra := Lib.hid Ra
 have p00 := Xa.out.c0; have p01 := Xa.out.c1; have p02 := Xa.out.c2
 go_wp2_with fail
 clear p00 p01 p02
 refine (rFloor_any ab ap aq an ac am ae P Q _ Ra.out la.out).mono ?_
 rintro e v1 ⟨db, dp, dn, dc, dq, dm, de, rfl, D, hb⟩
 replace bb := Lib.hid (below_then bb.out (Nat.le_refl _) hb); replace Xa := Lib.hid (Xa.out.later hb); replace X2 := Lib.hid (X2.out.later hb); replace Ra := Lib.hid (Ra.out.below hb)
 replace D := Lib.hid D
 clear hb
 replace X2 := X2.out
 replace bb := bb.out
 have q0 := X2.c0; have q1 := X2.c1; have q2 := X2.c2; have q3 := X2.fr 0; have q4 := X2.fr 1; have q5 := X2.fr 2
 have zz := X2.set (.bool db) (.slice dp dn dc) (.slice dq dm de)
 have e0 := zz.c0; have e1 := zz.c1; have e2 := zz.c2
 have Y2 := Lib.hid X2; have bb' := Lib.hid bb
 clear zz X2 bb
 go_wp2_with fail
 refine bodyPost_ret (v := .tuple #[.agg #[.bool db, .slice dp dn dc, .slice dq dm de], .int .i64 (0)]) (by simp [results, Tryz.results18, go_sem, e0, e1, e2]) rfl ?_
 exact (ResPost.stored D.out Y2.out bb'.out (by omega))
theorem num10_ceil (ab : Bool) (ap aq : Option Addr) (an ac am ae : Nat) (P : Int) (Q : Nat) (w : World) (Ra : Rt w ab ap an ac aq am ae P Q) (la : Low P Q) :
  Calls Tryz.prog 18 #[.int .i64 8968, .agg #[.bool ab, .slice ap an ac, .slice aq am ae]] w (ResPost (-((-P).fdiv Q)) 1 0 w) := by
 replace Ra := Lib.hid Ra; replace la := Lib.hid la
 go_enter Tryz.func18, Tryz.ntmps18
 go_upto_region 1 with fail
 refine gen_wp (fun w' => Below w.heap.size w w' ∧ Box3 w' w.heap.size (.bool ab) (.slice ap an ac) (.slice aq am ae) ∧ Box3 w' (w.heap.size + 1) (.bool false) (.slice none 0 0) (.slice none 0 0))
  ⟨(((Below.refl _ _).alloc (Nat.le_refl _) _).alloc (by simp <;> omega) _), ((Box3.new _ _ _ _ rfl).alloc _), (Box3.new _ _ _ _ (by simp <;> omega))⟩ ?_
 rintro w0 ⟨bb, Xa, X2⟩
 replace Ra := Ra.out.below bb
 replace bb := Lib.hid bb; replace Xa := Lib.hid Xa; replace X2 := Lib.hid X2; replace Ra := Lib.hid Ra
 have p00 := Xa.out.c0; have p01 := Xa.out.c1; have p02 := Xa.out.c2
 go_wp2_with fail
 clear p00 p01 p02
 refine (neg4_any ab ap aq an ac am ae P Q _ Ra.out la.out).mono ?_
 rintro e v1 ⟨db, dp, dn, dc, dq, dm, de, rfl, D, hb⟩
 replace bb := Lib.hid (below_then bb.out (Nat.le_refl _) hb); replace Xa := Lib.hid (Xa.out.later hb); replace X2 := Lib.hid (X2.out.later hb); replace Ra := Lib.hid (Ra.out.below hb)
 replace D := Lib.hid D
 clear hb
 go_wp2_with fail
 refine (rFloor_any db dp dq dn dc dm de (-P) Q _ D.out la.out.neg).mono ?_
 rintro e v2 ⟨fb, fp, fn, fc, fq, fm, fe, rfl, G, hb⟩
 replace bb := Lib.hid (below_then bb.out (Nat.le_refl _) hb); replace Xa := Lib.hid (Xa.out.later hb); replace X2 := Lib.hid (X2.out.later hb); replace Ra := Lib.hid (Ra.out.below hb); replace D := Lib.hid (D.out.below hb)
 replace G := Lib.hid G
 clear hb
 have hlg := Lib.hid (low_one (Nat.lt_of_le_of_lt (fdiv_abs (-P) la.out.1) la.out.neg.abs_lt))
 go_wp2_with fail
 refine (neg4_any fb fp fq fn fc fm fe ((-P).fdiv Q) 1 _ G.out hlg.out).mono ?_
 rintro e v3 ⟨hb, hp, hn, hc, hq, hm, he, rfl, H, hb⟩
 replace bb := Lib.hid (below_then bb.out (Nat.le_refl _) hb); replace Xa := Lib.hid (Xa.out.later hb); replace X2 := Lib.hid (X2.out.later hb); replace Ra := Lib.hid (Ra.out.below hb); replace D := Lib.hid (D.out.below hb); replace G := Lib.hid (G.out.below hb)
 replace H := Lib.hid H
 clear hb
 replace X2 := X2.out
 replace bb := bb.out
 have q0 := X2.c0; have q1 := X2.c1; have q2 := X2.c2; have q3 := X2.fr 0; have q4 := X2.fr 1; have q5 := X2.fr 2
 have zz := X2.set (.bool hb) (.slice hp hn hc) (.slice hq hm he)
 have e0 := zz.c0; have e1 := zz.c1; have e2 := zz.c2
 have Y2 := Lib.hid X2; have bb' := Lib.hid bb
 clear zz X2 bb
 go_wp2_with fail
 refine bodyPost_ret (v := .tuple #[.agg #[.bool hb, .slice hp hn hc, .slice hq hm he], .int .i64 (0)]) (by simp [results, Tryz.results18, go_sem, e0, e1, e2]) rfl ?_
 exact (ResPost.stored H.out Y2.out bb'.out (by omega))
theorem num10_abs (ab : Bool) (ap aq : Option Addr) (an ac am ae : Nat) (P : Int) (Q : Nat) (w : World) (Ra : Rt w ab ap an ac aq am ae P Q) (la : Low P Q) :
  Calls Tryz.prog 18 #[.int .i64 124, .agg #[.bool ab, .slice ap an ac, .slice aq am ae]] w (ResPost (P.natAbs : Int) Q 0 w) := by
 replace Ra := Lib.hid Ra; replace la := Lib.hid la
 go_enter Tryz.func18, Tryz.ntmps18
 go_upto_region 1 with fail
 refine gen_wp (fun w' => Below w.heap.size w w' ∧ Box3 w' w.heap.size (.bool ab) (.slice ap an ac) (.slice aq am ae) ∧ Box3 w' (w.heap.size + 1) (.bool false) (.slice none 0 0) (.slice none 0 0))
  ⟨(((Below.refl _ _).alloc (Nat.le_refl _) _).alloc (by simp <;> omega) _), ((Box3.new _ _ _ _ rfl).alloc _), (Box3.new _ _ _ _ (by simp <;> omega))⟩ ?_
 rintro w0 ⟨bb, Xa, X2⟩
 replace Ra := Ra.out.below bb
 replace bb := Lib.hid bb; replace Xa := Lib.hid Xa; replace X2 := Lib.hid X2; replace Ra := Lib.hid Ra
 have hng := Ra.out.top.neg
 by_cases hP : P < 0
 ·have hab : ab = true := by rw [hng]; exact decide_eq_true hP
  have eP : -P = (P.natAbs : Int) := by omega
  subst hab
  replace eP := Lib.hid eP
  clear hng hP
  have g0 := Xa.out.c0; have g1 := Xa.out.c1; have g2 := Xa.out.c2
  go_wp2_with fail
  clear g0 g1 g2
  refine (neg4_any true ap aq an ac am ae P Q _ Ra.out la.out).mono ?_
  rintro e v1 ⟨db, dp, dn, dc, dq, dm, de, rfl, D, hb⟩
  replace bb := Lib.hid (below_then bb.out (Nat.le_refl _) hb); replace Xa := Lib.hid (Xa.out.later hb); replace X2 := Lib.hid (X2.out.later hb); replace Ra := Lib.hid (Ra.out.below hb)
  replace D := Lib.hid D
  clear hb
  replace X2 := X2.out
  replace bb := bb.out
  have q0 := X2.c0; have q1 := X2.c1; have q2 := X2.c2; have q3 := X2.fr 0; have q4 := X2.fr 1; have q5 := X2.fr 2
  have zz := X2.set (.bool db) (.slice dp dn dc) (.slice dq dm de)
  have e0 := zz.c0; have e1 := zz.c1; have e2 := zz.c2
  have Y2 := Lib.hid X2; have bb' := Lib.hid bb
  clear zz X2 bb
  go_wp2_with fail
  refine bodyPost_ret (v := .tuple #[.agg #[.bool db, .slice dp dn dc, .slice dq dm de], .int .i64 (0)]) (by simp [results, Tryz.results18, go_sem, e0, e1, e2]) rfl ?_
  exact (by rw [← eP.out]; exact (ResPost.stored D.out Y2.out bb'.out (by omega)))
 ·have hab : ab = false := by rw [hng]; exact decide_eq_false hP
  have eP : P = (P.natAbs : Int) := by omega
  subst hab
  replace eP := Lib.hid eP
  clear hng hP
  have g0 := Xa.out.c0; have g1 := Xa.out.c1; have g2 := Xa.out.c2
  replace X2 := X2.out
  replace bb := bb.out
  have q0 := X2.c0; have q1 := X2.c1; have q2 := X2.c2; have q3 := X2.fr 0; have q4 := X2.fr 1; have q5 := X2.fr 2
  have zz := X2.set (.bool false) (.slice ap an ac) (.slice aq am ae)
  have e0 := zz.c0; have e1 := zz.c1; have e2 := zz.c2
  have Y2 := Lib.hid X2; have bb' := Lib.hid bb
  clear zz X2 bb
  go_wp2_with fail
  refine bodyPost_ret (v := .tuple #[.agg #[.bool false, .slice ap an ac, .slice aq am ae], .int .i64 (0)]) (by simp [results, Tryz.results18, go_sem, e0, e1, e2]) rfl ?_
  exact (by rw [← eP.out]; exact (ResPost.stored Ra.out Y2.out bb'.out (by omega)))
theorem num10_times (ab : Bool) (ap aq : Option Addr) (an ac am ae : Nat) (P : Int) (Q : Nat) (w : World) (Ra : Rt w ab ap an ac aq am ae P Q) (la : Low P Q) :
  Calls Tryz.prog 18 #[.int .i64 215, .agg #[.bool ab, .slice ap an ac, .slice aq am ae]] w (ResPost (cmpI P 0) 1 0 w) := by
 replace Ra := Lib.hid Ra; replace la := Lib.hid la
 go_enter Tryz.func18, Tryz.ntmps18
 go_upto_region 1 with fail
 refine gen_wp (fun w' => Below w.heap.size w w' ∧ Box3 w' w.heap.size (.bool ab) (.slice ap an ac) (.slice aq am ae) ∧ Box3 w' (w.heap.size + 1) (.bool false) (.slice none 0 0) (.slice none 0 0))
  ⟨(((Below.refl _ _).alloc (Nat.le_refl _) _).alloc (by simp <;> omega) _), ((Box3.new _ _ _ _ rfl).alloc _), (Box3.new _ _ _ _ (by simp <;> omega))⟩ ?_
 rintro w0 ⟨bb, Xa, X2⟩
 replace Ra := Ra.out.below bb
 replace bb := Lib.hid bb; replace Xa := Lib.hid Xa; replace X2 := Lib.hid X2; replace Ra := Lib.hid Ra
 have hcs := Lib.hid (cmpI_small P 0)
 go_upto_region 7 with fail
 replace bb := bb.out; replace Xa := Xa.out; replace X2 := X2.out; replace Ra := Ra.out
 have bb := bb.drew; have Xa := Xa.drew; have X2 := X2.drew; have Ra := Ra.drew
 have sa0 := True.intro
 go_region_held3 (fun w' => w'.cell? ⟨w.heap.size, 0, none⟩ = some (.bool ab) ∧ w'.cell? ⟨w.heap.size, 1, none⟩ = some (.slice ap an ac) ∧ w'.cell? ⟨w.heap.size, 2, none⟩ = some (.slice aq am ae))
  (first | with_reducible exact ⟨Xa.c0, Xa.c1, Xa.c2⟩ | with_reducible exact ⟨(Xa.other3 (by omega) _ _ _).c0, (Xa.other3 (by omega) _ _ _).c1, (Xa.other3 (by omega) _ _ _).c2⟩ | go_keep)
  (first
  | (go_at_call 47; clear sa0; refine (of4_any 0 _ (by decide) (by decide)).mono ?_; rintro e w' ⟨ob, op, on, oc, oq, om, oe, rfl, O, hb⟩; have bb := below_then bb (Nat.le_refl _) hb; have Xa := Xa.later hb; have X2 := X2.later hb; have Ra := Ra.below hb; clear hb; have sa1 := True.intro)
  | (go_at_call 59; clear sa1; refine (rCmp4_any ab ap aq an ac am ae P Q ob op oq on oc om oe 0 1 _ Ra la.out O (low_one (Nat.lt_of_lt_of_le (show (0 : Int).natAbs < pw 1 by decide) (pw_le (by omega))))).mono ?_; rintro e w' ⟨rfl, hb⟩; have bb := below_then bb (Nat.le_refl _) hb; have Xa := Xa.later hb; have X2 := X2.later hb; have Ra := Ra.below hb; have O := O.below hb; clear hb; have sa2 := True.intro)
  | (go_at_call 47; clear sa2; refine (of4_any _ _ (by have := hcs.out; omega) (by have := hcs.out; omega)).mono ?_; rintro e w' ⟨db, dp, dn, dc, dq, dm, de, rfl, D, hb⟩; have bb := below_then bb (Nat.le_refl _) hb; have Xa := Xa.later hb; have X2 := X2.later hb; have Ra := Ra.below hb; have O := O.below hb; clear hb; have q0 := X2.c0; have q1 := X2.c1; have q2 := X2.c2; have q3 := X2.fr 0; have q4 := X2.fr 1; have q5 := X2.fr 2; have sa3 := True.intro))
 have zz := X2.set (.bool db) (.slice dp dn dc) (.slice dq dm de)
 have e0 := zz.c0; have e1 := zz.c1; have e2 := zz.c2
 have Y2 := Lib.hid X2; have bb' := Lib.hid bb
 clear zz X2 bb
 go_wp2_with fail
 refine bodyPost_ret (v := .tuple #[.agg #[.bool db, .slice dp dn dc, .slice dq dm de], .int .i64 (0)]) (by simp [results, Tryz.results18, go_sem, e0, e1, e2]) rfl ?_
 exact (ResPost.stored D Y2.out bb'.out (by omega))
theorem num10_div (ab : Bool) (ap aq : Option Addr) (an ac am ae : Nat) (P : Int) (Q : Nat) (w : World) (Ra : Rt w ab ap an ac aq am ae P Q) (la : Low P Q) :
  Calls Tryz.prog 18 #[.int .i64 247, .agg #[.bool ab, .slice ap an ac, .slice aq am ae]] w (ResPost (mkT ((1 : Int) * Q) (((1 : Nat) : Int) * P)) (mkB ((1 : Int) * Q) (((1 : Nat) : Int) * P)) (mkE ((1 : Int) * Q) (((1 : Nat) : Int) * P)) w) := by
 replace Ra := Lib.hid Ra; replace la := Lib.hid la
 go_enter Tryz.func18, Tryz.ntmps18
 go_upto_region 1 with fail
 refine gen_wp (fun w' => Below w.heap.size w w' ∧ Box3 w' w.heap.size (.bool ab) (.slice ap an ac) (.slice aq am ae) ∧ Box3 w' (w.heap.size + 1) (.bool false) (.slice none 0 0) (.slice none 0 0))
  ⟨(((Below.refl _ _).alloc (Nat.le_refl _) _).alloc (by simp <;> omega) _), ((Box3.new _ _ _ _ rfl).alloc _), (Box3.new _ _ _ _ (by simp <;> omega))⟩ ?_
 rintro w0 ⟨bb, Xa, X2⟩
 replace Ra := Ra.out.below bb
 replace bb := Lib.hid bb; replace Xa := Lib.hid Xa; replace X2 := Lib.hid X2; replace Ra := Lib.hid Ra
 go_upto_region 9 with fail
 replace bb := bb.out; replace Xa := Xa.out; replace X2 := X2.out; replace Ra := Ra.out
 have bb := bb.drew; have Xa := Xa.drew; have X2 := X2.drew; have Ra := Ra.drew
 have sb0 := True.intro
 go_region_held3 (fun w' => w'.cell? ⟨w.heap.size, 0, none⟩ = some (.bool ab) ∧ w'.cell? ⟨w.heap.size, 1, none⟩ = some (.slice ap an ac) ∧ w'.cell? ⟨w.heap.size, 2, none⟩ = some (.slice aq am ae))
  (first | with_reducible exact ⟨Xa.c0, Xa.c1, Xa.c2⟩ | with_reducible exact ⟨(Xa.other3 (by omega) _ _ _).c0, (Xa.other3 (by omega) _ _ _).c1, (Xa.other3 (by omega) _ _ _).c2⟩ | go_keep)
  (first
  | (go_at_call 47; clear sb0; refine (of4_any 1 _ (by decide) (by decide)).mono ?_; rintro e w' ⟨ob, op, on, oc, oq, om, oe, rfl, O, hb⟩; have bb := below_then bb (Nat.le_refl _) hb; have Xa := Xa.later hb; have X2 := X2.later hb; have Ra := Ra.below hb; clear hb; have sb1 := True.intro)
  | (go_at_call 60; clear sb1; refine (rDiv4_any ob op oq on oc om oe 1 1 ab ap aq an ac am ae P Q _ O (low_one (Nat.lt_of_lt_of_le (show (1 : Int).natAbs < pw 1 by decide) (pw_le (by omega)))) Ra la.out).mono ?_; rintro e w' ⟨db, dp, dn, dc, dq, dm, de, rfl, D, hb⟩; have bb := below_then bb (Nat.le_refl _) hb; have Xa := Xa.later hb; have X2 := X2.later hb; have Ra := Ra.below hb; have O := O.below hb; clear hb; have q0 := X2.c0; have q1 := X2.c1; have q2 := X2.c2; have q3 := X2.fr 0; have q4 := X2.fr 1; have q5 := X2.fr 2; have sb2 := True.intro))
 have zz := X2.set (.bool db) (.slice dp dn dc) (.slice dq dm de)
 have e0 := zz.c0; have e1 := zz.c1; have e2 := zz.c2
 have Y2 := Lib.hid X2; have bb' := Lib.hid bb
 clear zz X2 bb
 go_wp2_with fail
 refine bodyPost_ret (v := .tuple #[.agg #[.bool db, .slice dp dn dc, .slice dq dm de], .int .i64 (mkE ((1 : Int) * Q) (((1 : Nat) : Int) * P))]) (by simp [results, Tryz.results18, go_sem, e0, e1, e2]) rfl ?_
 exact (ResPost.stored D Y2.out bb'.out (by omega))
theorem num10_not (ab : Bool) (ap aq : Option Addr) (an ac am ae : Nat) (P : Int) (Q : Nat) (w : World) (Ra : Rt w ab ap an ac aq am ae P Q) (la : Low P Q) :
  Calls Tryz.prog 18 #[.int .i64 126, .agg #[.bool ab, .slice ap an ac, .slice aq am ae]] w (NumRes (notR P Q) w) := by
 replace Ra := Lib.hid Ra; replace la := Lib.hid la
 go_enter Tryz.func18, Tryz.ntmps18
 go_upto_region 1 with fail
 refine gen_wp (fun w' => Below w.heap.size w w' ∧ Box3 w' w.heap.size (.bool ab) (.slice ap an ac) (.slice aq am ae) ∧ Box3 w' (w.heap.size + 1) (.bool false) (.slice none 0 0) (.slice none 0 0))
  ⟨(((Below.refl _ _).alloc (Nat.le_refl _) _).alloc (by simp <;> omega) _), ((Box3.new _ _ _ _ rfl).alloc _), (Box3.new _ _ _ _ (by simp <;> omega))⟩ ?_
 rintro w0 ⟨bb, Xa, X2⟩
 replace Ra := Ra.out.below bb
 replace bb := Lib.hid bb; replace Xa := Lib.hid Xa; replace X2 := Lib.hid X2; replace Ra := Lib.hid Ra
 by_cases hP : P = 0 ∧ Q = 1
 ·have hP' := Lib.hid hP
  clear hP
  go_upto_region 19 with fail
  replace bb := bb.out; replace Xa := Xa.out; replace X2 := X2.out; replace Ra := Ra.out
  have bb := bb.drew; have Xa := Xa.drew; have X2 := X2.drew; have Ra := Ra.drew
  have sc0 := True.intro
  go_region_held3 (fun w' => w'.cell? ⟨w.heap.size, 0, none⟩ = some (.bool ab) ∧ w'.cell? ⟨w.heap.size, 1, none⟩ = some (.slice ap an ac) ∧ w'.cell? ⟨w.heap.size, 2, none⟩ = some (.slice aq am ae))
   (first | with_reducible exact ⟨Xa.c0, Xa.c1, Xa.c2⟩ | with_reducible exact ⟨(Xa.other3 (by omega) _ _ _).c0, (Xa.other3 (by omega) _ _ _).c1, (Xa.other3 (by omega) _ _ _).c2⟩ | go_keep)
   (first
   | (go_at_call 47; clear sc0; refine (of4_any 0 _ (by decide) (by decide)).mono ?_; rintro e w' ⟨ob, op, on, oc, oq, om, oe, rfl, O, hb⟩; have bb := below_then bb (Nat.le_refl _) hb; have Xa := Xa.later hb; have X2 := X2.later hb; have Ra := Ra.below hb; clear hb; have sc1 := True.intro)
   | (go_at_call 21; clear sc1; refine (same4_iff ab ap aq an ac am ae P Q ob op oq on oc om oe 0 1 _ Ra O true (decide_eq_true hP'.out).symm).mono ?_; rintro e w' ⟨rfl, hb⟩; have bb := below_then bb (Nat.le_refl _) hb; have Xa := Xa.later hb; have X2 := X2.later hb; have Ra := Ra.below hb; have O := O.below hb; clear hb; have sc2 := True.intro))
  replace bb := Lib.hid bb; replace Xa := Lib.hid Xa; replace X2 := Lib.hid X2; replace Ra := Lib.hid Ra
  clear O
  go_wp2_with fail
  refine (of4_any 1 _ (by decide) (by decide)).mono ?_
  rintro e v1 ⟨db, dp, dn, dc, dq, dm, de, rfl, D, hb⟩
  replace bb := Lib.hid (below_then bb.out (Nat.le_refl _) hb); replace Xa := Lib.hid (Xa.out.later hb); replace X2 := Lib.hid (X2.out.later hb); replace Ra := Lib.hid (Ra.out.below hb)
  replace D := Lib.hid D
  clear hb
  replace X2 := X2.out
  replace bb := bb.out
  have q0 := X2.c0; have q1 := X2.c1; have q2 := X2.c2; have q3 := X2.fr 0; have q4 := X2.fr 1; have q5 := X2.fr 2
  have zz := X2.set (.bool db) (.slice dp dn dc) (.slice dq dm de)
  have e0 := zz.c0; have e1 := zz.c1; have e2 := zz.c2
  have Y2 := Lib.hid X2; have bb' := Lib.hid bb
  clear zz X2 bb
  go_wp2_with fail
  refine bodyPost_ret (v := .tuple #[.agg #[.bool db, .slice dp dn dc, .slice dq dm de], .int .i64 (0)]) (by simp [results, Tryz.results18, go_sem, e0, e1, e2]) rfl ?_
  exact (notR_zero hP'.out.1 (ResPost.stored D.out Y2.out bb'.out (by omega)))
 ·have hPn := Lib.hid hP
  have hP0 := Lib.hid (show P ≠ 0 from fun e => hP ⟨e, by subst e; exact low_zero la.out⟩)
  clear hP
  go_upto_region 19 with fail
  replace bb := bb.out; replace Xa := Xa.out; replace X2 := X2.out; replace Ra := Ra.out
  have bb := bb.drew; have Xa := Xa.drew; have X2 := X2.drew; have Ra := Ra.drew
  have sd0 := True.intro
  go_region_held3 (fun w' => w'.cell? ⟨w.heap.size, 0, none⟩ = some (.bool ab) ∧ w'.cell? ⟨w.heap.size, 1, none⟩ = some (.slice ap an ac) ∧ w'.cell? ⟨w.heap.size, 2, none⟩ = some (.slice aq am ae))
   (first | with_reducible exact ⟨Xa.c0, Xa.c1, Xa.c2⟩ | with_reducible exact ⟨(Xa.other3 (by omega) _ _ _).c0, (Xa.other3 (by omega) _ _ _).c1, (Xa.other3 (by omega) _ _ _).c2⟩ | go_keep)
   (first
   | (go_at_call 47; clear sd0; refine (of4_any 0 _ (by decide) (by decide)).mono ?_; rintro e w' ⟨ob, op, on, oc, oq, om, oe, rfl, O, hb⟩; have bb := below_then bb (Nat.le_refl _) hb; have Xa := Xa.later hb; have X2 := X2.later hb; have Ra := Ra.below hb; clear hb; have sd1 := True.intro)
   | (go_at_call 21; clear sd1; refine (same4_iff ab ap aq an ac am ae P Q ob op oq on oc om oe 0 1 _ Ra O false (decide_eq_false hPn.out).symm).mono ?_; rintro e w' ⟨rfl, hb⟩; have bb := below_then bb (Nat.le_refl _) hb; have Xa := Xa.later hb; have X2 := X2.later hb; have Ra := Ra.below hb; have O := O.below hb; clear hb; have sd2 := True.intro))
  replace bb := Lib.hid bb; replace Xa := Lib.hid Xa; replace X2 := Lib.hid X2; replace Ra := Lib.hid Ra
  clear O
  by_cases hP : P = 1 ∧ Q = 1
  ·have hP' := Lib.hid hP
   clear hP
   go_upto_region 21 with fail
   replace bb := bb.out; replace Xa := Xa.out; replace X2 := X2.out; replace Ra := Ra.out
   have bb := bb.drew; have Xa := Xa.drew; have X2 := X2.drew; have Ra := Ra.drew
   have se0 := True.intro
   go_region_held3 (fun w' => w'.cell? ⟨w.heap.size, 0, none⟩ = some (.bool ab) ∧ w'.cell? ⟨w.heap.size, 1, none⟩ = some (.slice ap an ac) ∧ w'.cell? ⟨w.heap.size, 2, none⟩ = some (.slice aq am ae))
    (first | with_reducible exact ⟨Xa.c0, Xa.c1, Xa.c2⟩ | with_reducible exact ⟨(Xa.other3 (by omega) _ _ _).c0, (Xa.other3 (by omega) _ _ _).c1, (Xa.other3 (by omega) _ _ _).c2⟩ | go_keep)
    (first
    | (go_at_call 47; clear se0; refine (of4_any 1 _ (by decide) (by decide)).mono ?_; rintro e w' ⟨ob, op, on, oc, oq, om, oe, rfl, O, hb⟩; have bb := below_then bb (Nat.le_refl _) hb; have Xa := Xa.later hb; have X2 := X2.later hb; have Ra := Ra.below hb; clear hb; have se1 := True.intro)
    | (go_at_call 21; clear se1; refine (same4_iff ab ap aq an ac am ae P Q ob op oq on oc om oe 1 1 _ Ra O true (decide_eq_true hP'.out).symm).mono ?_; rintro e w' ⟨rfl, hb⟩; have bb := below_then bb (Nat.le_refl _) hb; have Xa := Xa.later hb; have X2 := X2.later hb; have Ra := Ra.below hb; have O := O.below hb; clear hb; have se2 := True.intro))
   replace bb := Lib.hid bb; replace Xa := Lib.hid Xa; replace X2 := Lib.hid X2; replace Ra := Lib.hid Ra
   clear O
   go_wp2_with fail
   refine (of4_any 0 _ (by decide) (by decide)).mono ?_
   rintro e v1 ⟨db, dp, dn, dc, dq, dm, de, rfl, D, hb⟩
   replace bb := Lib.hid (below_then bb.out (Nat.le_refl _) hb); replace Xa := Lib.hid (Xa.out.later hb); replace X2 := Lib.hid (X2.out.later hb); replace Ra := Lib.hid (Ra.out.below hb)
   replace D := Lib.hid D
   clear hb
   replace X2 := X2.out
   replace bb := bb.out
   have q0 := X2.c0; have q1 := X2.c1; have q2 := X2.c2; have q3 := X2.fr 0; have q4 := X2.fr 1; have q5 := X2.fr 2
   have zz := X2.set (.bool db) (.slice dp dn dc) (.slice dq dm de)
   have e0 := zz.c0; have e1 := zz.c1; have e2 := zz.c2
   have Y2 := Lib.hid X2; have bb' := Lib.hid bb
   clear zz X2 bb
   go_wp2_with fail
   refine bodyPost_ret (v := .tuple #[.agg #[.bool db, .slice dp dn dc, .slice dq dm de], .int .i64 (0)]) (by simp [results, Tryz.results18, go_sem, e0, e1, e2]) rfl ?_
   exact (notR_one hP'.out (ResPost.stored D.out Y2.out bb'.out (by omega)))
  ·have hP' := Lib.hid hP
   clear hP
   go_upto_region 21 with fail
   replace bb := bb.out; replace Xa := Xa.out; replace X2 := X2.out; replace Ra := Ra.out
   have bb := bb.drew; have Xa := Xa.drew; have X2 := X2.drew; have Ra := Ra.drew
   have sf0 := True.intro
   go_region_held3 (fun w' => w'.cell? ⟨w.heap.size, 0, none⟩ = some (.bool ab) ∧ w'.cell? ⟨w.heap.size, 1, none⟩ = some (.slice ap an ac) ∧ w'.cell? ⟨w.heap.size, 2, none⟩ = some (.slice aq am ae))
    (first | with_reducible exact ⟨Xa.c0, Xa.c1, Xa.c2⟩ | with_reducible exact ⟨(Xa.other3 (by omega) _ _ _).c0, (Xa.other3 (by omega) _ _ _).c1, (Xa.other3 (by omega) _ _ _).c2⟩ | go_keep)
    (first
    | (go_at_call 47; clear sf0; refine (of4_any 1 _ (by decide) (by decide)).mono ?_; rintro e w' ⟨ob, op, on, oc, oq, om, oe, rfl, O, hb⟩; have bb := below_then bb (Nat.le_refl _) hb; have Xa := Xa.later hb; have X2 := X2.later hb; have Ra := Ra.below hb; clear hb; have sf1 := True.intro)
    | (go_at_call 21; clear sf1; refine (same4_iff ab ap aq an ac am ae P Q ob op oq on oc om oe 1 1 _ Ra O false (decide_eq_false hP'.out).symm).mono ?_; rintro e w' ⟨rfl, hb⟩; have bb := below_then bb (Nat.le_refl _) hb; have Xa := Xa.later hb; have X2 := X2.later hb; have Ra := Ra.below hb; have O := O.below hb; clear hb; have sf2 := True.intro))
   replace bb := Lib.hid bb; replace Xa := Lib.hid Xa; replace X2 := Lib.hid X2; replace Ra := Lib.hid Ra
   clear O
   replace X2 := X2.out
   replace bb := bb.out
   have q0 := X2.c0; have q1 := X2.c1; have q2 := X2.c2; have q3 := X2.fr 0; have q4 := X2.fr 1; have q5 := X2.fr 2
   have zz := X2.set (.bool false) (.slice none 0 0) (.slice none 0 0)
   have e0 := zz.c0; have e1 := zz.c1; have e2 := zz.c2
   have Y2 := Lib.hid X2; have bb' := Lib.hid bb
   clear zz X2 bb
   go_wp2_with fail
   refine bodyPost_ret (v := .tuple #[.agg #[.bool false, .slice none 0 0, .slice none 0 0], .int .i64 (3)]) (by simp [results, Tryz.results18, go_sem, e0, e1, e2]) rfl ?_
   exact (notR_no hP0.out hP'.out (ResPost.stored (rt_zero _) Y2.out bb'.out (by omega)))
theorem num10_none (f : Int) (ab : Bool) (ap aq : Option Addr) (an ac am ae : Nat) (P : Int) (Q : Nat) (w : World) (Ra : Rt w ab ap an ac aq am ae P Q) (la : Low P Q) (h43 : f ≠ 43) (h45 : f ≠ 45) (h215 : f ≠ 215) (h247 : f ≠ 247) (h8968 : f ≠ 8968) (h8970 : f ≠ 8970) (h124 : f ≠ 124) (h126 : f ≠ 126) (h33 : f ≠ 33) :
  Calls Tryz.prog 18 #[.int .i64 f, .agg #[.bool ab, .slice ap an ac, .slice aq am ae]] w (ResPost 0 0 8 w) := by
 have g43 : (f == 43) = false := by rw [beq_eq_false_iff_ne]; exact h43
 have g45 : (f == 45) = false := by rw [beq_eq_false_iff_ne]; exact h45
 have g215 : (f == 215) = false := by rw [beq_eq_false_iff_ne]; exact h215
 have g247 : (f == 247) = false := by rw [beq_eq_false_iff_ne]; exact h247
 have g8968 : (f == 8968) = false := by rw [beq_eq_false_iff_ne]; exact h8968
 have g8970 : (f == 8970) = false := by rw [beq_eq_false_iff_ne]; exact h8970
 have g124 : (f == 124) = false := by rw [beq_eq_false_iff_ne]; exact h124
 have g126 : (f == 126) = false := by rw [beq_eq_false_iff_ne]; exact h126
 have g33 : (f == 33) = false := by rw [beq_eq_false_iff_ne]; exact h33
 clear h43 h45 h215 h247 h8968 h8970 h124 h126 h33
 replace Ra := Lib.hid Ra; replace la := Lib.hid la
 go_enter Tryz.func18, Tryz.ntmps18
 go_upto_region 1 with fail
 refine gen_wp (fun w' => Below w.heap.size w w' ∧ Box3 w' w.heap.size (.bool ab) (.slice ap an ac) (.slice aq am ae) ∧ Box3 w' (w.heap.size + 1) (.bool false) (.slice none 0 0) (.slice none 0 0))
  ⟨(((Below.refl _ _).alloc (Nat.le_refl _) _).alloc (by simp <;> omega) _), ((Box3.new _ _ _ _ rfl).alloc _), (Box3.new _ _ _ _ (by simp <;> omega))⟩ ?_
 rintro w0 ⟨bb, Xa, X2⟩
 replace Ra := Ra.out.below bb
 replace bb := Lib.hid bb; replace Xa := Lib.hid Xa; replace X2 := Lib.hid X2; replace Ra := Lib.hid Ra
 replace X2 := X2.out
 replace bb := bb.out
 have q0 := X2.c0; have q1 := X2.c1; have q2 := X2.c2; have q3 := X2.fr 0; have q4 := X2.fr 1; have q5 := X2.fr 2
 have zz := X2.set (.bool false) (.slice none 0 0) (.slice none 0 0)
 have e0 := zz.c0; have e1 := zz.c1; have e2 := zz.c2
 have Y2 := Lib.hid X2; have bb' := Lib.hid bb
 clear zz X2 bb
 go_wp2_with fail
 refine bodyPost_ret (v := .tuple #[.agg #[.bool false, .slice none 0 0, .slice none 0 0], .int .i64 (8)]) (by simp [results, Tryz.results18, go_sem, e0, e1, e2]) rfl ?_
 exact (ResPost.stored (rt_zero _) Y2.out bb'.out (by omega))
end Go.Proofs.YtaepelipkkmeaaaGreat
namespace Go.Proofs.YtaepelipkkmeaaaGreat
open Go.RowKit Num
attribute [local go_sem ↓] Go.wp_at_zero Go.wp_at_succ
theorem num2_max (ab : Bool) (ap aq : Option Addr) (an ac am ae : Nat) (P : Int) (Q : Nat) (cb : Bool) (cp cq : Option Addr) (cn cc cm ce : Nat) (R : Int) (S : Nat) (w : World) (Ra : Rt w ab ap an ac aq am ae P Q) (la : Low P Q) (Rb : Rt w cb cp cn cc cq cm ce R S) (lb : Low R S) :
  Calls Tryz.prog 20 #[.int .i64 8968, .agg #[.bool ab, .slice ap an ac, .slice aq am ae], .agg #[.bool cb, .slice cp cn cc, .slice cq cm ce]] w (NumRes (maxR (cmpI (P * S) (R * Q)) P Q R S) w) := by
 obtain ⟨c, hc⟩ : ∃ c, c = cmpI (P * S) (R * Q) := ⟨_, rfl⟩
 replace hc := Lib.hid hc
 replace Ra := Lib.hid Ra; replace la := Lib.hid la; replace Rb := Lib.hid Rb; replace lb := Lib.hid lb
 go_enter Tryz.func20, Tryz.ntmps20
 go_upto_region 1 with fail
 refine gen_wp (fun w' => Below w.heap.size w w' ∧ Box3 w' w.heap.size (.bool ab) (.slice ap an ac) (.slice aq am ae) ∧ Box3 w' (w.heap.size + 1) (.bool cb) (.slice cp cn cc) (.slice cq cm ce) ∧ Box3 w' (w.heap.size + 2) (.bool false) (.slice none 0 0) (.slice none 0 0))
  ⟨((((Below.refl _ _).alloc (Nat.le_refl _) _).alloc (by simp <;> omega) _).alloc (by simp <;> omega) _), (((Box3.new _ _ _ _ rfl).alloc _).alloc _), ((Box3.new _ _ _ _ (by simp <;> omega)).alloc _), (Box3.new _ _ _ _ (by simp <;> omega))⟩ ?_
 rintro w0 ⟨bb, Xa, Xb, X2⟩
 replace Ra := Ra.out.below bb; replace Rb := Rb.out.below bb
 replace bb := Lib.hid bb; replace Xa := Lib.hid Xa; replace Xb := Lib.hid Xb; replace X2 := Lib.hid X2; replace Ra := Lib.hid Ra; replace Rb := Lib.hid Rb
 have p00 := Xa.out.c0; have p01 := Xa.out.c1; have p02 := Xa.out.c2; have p10 := Xb.out.c0; have p11 := Xb.out.c1; have p12 := Xb.out.c2
 go_wp2_with fail
 clear p00 p01 p02 p10 p11 p12
 refine ((rCmp4_any ab ap aq an ac am ae P Q cb cp cq cn cc cm ce R S _ Ra.out la.out Rb.out lb.out).mono fun _ _ h => (show Says (.int .i64 c) _ _ _ by rw [hc.out]; exact h)).mono ?_
 rintro e v1 ⟨rfl, hb⟩
 replace bb := Lib.hid (below_then bb.out (Nat.le_refl _) hb); replace Xa := Lib.hid (Xa.out.later hb); replace Xb := Lib.hid (Xb.out.later hb); replace X2 := Lib.hid (X2.out.later hb); replace Ra := Lib.hid (Ra.out.below hb); replace Rb := Lib.hid (Rb.out.below hb)
 clear hb
 by_cases hlt : 0 < c
 ·have hlt' := Lib.hid (show 0 < c from hlt)
  have p00 := Xa.out.c0; have p01 := Xa.out.c1; have p02 := Xa.out.c2
  replace X2 := X2.out
  replace bb := bb.out
  have q0 := X2.c0; have q1 := X2.c1; have q2 := X2.c2; have q3 := X2.fr 0; have q4 := X2.fr 1; have q5 := X2.fr 2
  have zz := X2.set (.bool ab) (.slice ap an ac) (.slice aq am ae)
  have e0 := zz.c0; have e1 := zz.c1; have e2 := zz.c2
  have Y2 := Lib.hid X2; have bb' := Lib.hid bb
  clear zz X2 bb
  go_wp2_with fail
  refine bodyPost_ret (v := .tuple #[.agg #[.bool ab, .slice ap an ac, .slice aq am ae], .int .i64 (0)]) (by simp [results, Tryz.results20, go_sem, e0, e1, e2]) rfl ?_
  exact NumRes.of (ResPost.stored Ra.out Y2.out bb'.out (by omega)) (by rw [← hc.out]; exact if_pos hlt'.out)
 ·have hlt' := Lib.hid (show ¬ (0 < c) from hlt)
  have p00 := Xb.out.c0; have p01 := Xb.out.c1; have p02 := Xb.out.c2
  replace X2 := X2.out
  replace bb := bb.out
  have q0 := X2.c0; have q1 := X2.c1; have q2 := X2.c2; have q3 := X2.fr 0; have q4 := X2.fr 1; have q5 := X2.fr 2
  have zz := X2.set (.bool cb) (.slice cp cn cc) (.slice cq cm ce)
  have e0 := zz.c0; have e1 := zz.c1; have e2 := zz.c2
  have Y2 := Lib.hid X2; have bb' := Lib.hid bb
  clear zz X2 bb
  go_wp2_with fail
  refine bodyPost_ret (v := .tuple #[.agg #[.bool cb, .slice cp cn cc, .slice cq cm ce], .int .i64 (0)]) (by simp [results, Tryz.results20, go_sem, e0, e1, e2]) rfl ?_
  exact NumRes.of (ResPost.stored Rb.out Y2.out bb'.out (by omega)) (by rw [← hc.out]; exact if_neg (by have := hlt'.out; omega))
theorem num2_min (ab : Bool) (ap aq : Option Addr) (an ac am ae : Nat) (P : Int) (Q : Nat) (cb : Bool) (cp cq : Option Addr) (cn cc cm ce : Nat) (R : Int) (S : Nat) (w : World) (Ra : Rt w ab ap an ac aq am ae P Q) (la : Low P Q) (Rb : Rt w cb cp cn cc cq cm ce R S) (lb : Low R S) :
  Calls Tryz.prog 20 #[.int .i64 8970, .agg #[.bool ab, .slice ap an ac, .slice aq am ae], .agg #[.bool cb, .slice cp cn cc, .slice cq cm ce]] w (NumRes (minR (cmpI (P * S) (R * Q)) P Q R S) w) := by
 obtain ⟨c, hc⟩ : ∃ c, c = cmpI (P * S) (R * Q) := ⟨_, rfl⟩
 replace hc := Lib.hid hc
 replace Ra := Lib.hid Ra; replace la := Lib.hid la; replace Rb := Lib.hid Rb; replace lb := Lib.hid lb
 go_enter Tryz.func20, Tryz.ntmps20
 go_upto_region 1 with fail
 refine gen_wp (fun w' => Below w.heap.size w w' ∧ Box3 w' w.heap.size (.bool ab) (.slice ap an ac) (.slice aq am ae) ∧ Box3 w' (w.heap.size + 1) (.bool cb) (.slice cp cn cc) (.slice cq cm ce) ∧ Box3 w' (w.heap.size + 2) (.bool false) (.slice none 0 0) (.slice none 0 0))
  ⟨((((Below.refl _ _).alloc (Nat.le_refl _) _).alloc (by simp <;> omega) _).alloc (by simp <;> omega) _), (((Box3.new _ _ _ _ rfl).alloc _).alloc _), ((Box3.new _ _ _ _ (by simp <;> omega)).alloc _), (Box3.new _ _ _ _ (by simp <;> omega))⟩ ?_
 rintro w0 ⟨bb, Xa, Xb, X2⟩
 replace Ra := Ra.out.below bb; replace Rb := Rb.out.below bb
 replace bb := Lib.hid bb; replace Xa := Lib.hid Xa; replace Xb := Lib.hid Xb; replace X2 := Lib.hid X2; replace Ra := Lib.hid Ra; replace Rb := Lib.hid Rb
 have p00 := Xa.out.c0; have p01 := Xa.out.c1; have p02 := Xa.out.c2; have p10 := Xb.out.c0; have p11 := Xb.out.c1; have p12 := Xb.out.c2
 go_wp2_with fail
 clear p00 p01 p02 p10 p11 p12
 refine ((rCmp4_any ab ap aq an ac am ae P Q cb cp cq cn cc cm ce R S _ Ra.out la.out Rb.out lb.out).mono fun _ _ h => (show Says (.int .i64 c) _ _ _ by rw [hc.out]; exact h)).mono ?_
 rintro e v1 ⟨rfl, hb⟩
 replace bb := Lib.hid (below_then bb.out (Nat.le_refl _) hb); replace Xa := Lib.hid (Xa.out.later hb); replace Xb := Lib.hid (Xb.out.later hb); replace X2 := Lib.hid (X2.out.later hb); replace Ra := Lib.hid (Ra.out.below hb); replace Rb := Lib.hid (Rb.out.below hb)
 clear hb
 by_cases hlt : c < 0
 ·have hlt' := Lib.hid (show c < 0 from hlt)
  have p00 := Xa.out.c0; have p01 := Xa.out.c1; have p02 := Xa.out.c2
  replace X2 := X2.out
  replace bb := bb.out
  have q0 := X2.c0; have q1 := X2.c1; have q2 := X2.c2; have q3 := X2.fr 0; have q4 := X2.fr 1; have q5 := X2.fr 2
  have zz := X2.set (.bool ab) (.slice ap an ac) (.slice aq am ae)
  have e0 := zz.c0; have e1 := zz.c1; have e2 := zz.c2
  have Y2 := Lib.hid X2; have bb' := Lib.hid bb
  clear zz X2 bb
  go_wp2_with fail
  refine bodyPost_ret (v := .tuple #[.agg #[.bool ab, .slice ap an ac, .slice aq am ae], .int .i64 (0)]) (by simp [results, Tryz.results20, go_sem, e0, e1, e2]) rfl ?_
  exact NumRes.of (ResPost.stored Ra.out Y2.out bb'.out (by omega)) (by rw [← hc.out]; exact if_pos hlt'.out)
 ·have hlt' := Lib.hid (show ¬ (c < 0) from hlt)
  have p00 := Xb.out.c0; have p01 := Xb.out.c1; have p02 := Xb.out.c2
  replace X2 := X2.out
  replace bb := bb.out
  have q0 := X2.c0; have q1 := X2.c1; have q2 := X2.c2; have q3 := X2.fr 0; have q4 := X2.fr 1; have q5 := X2.fr 2
  have zz := X2.set (.bool cb) (.slice cp cn cc) (.slice cq cm ce)
  have e0 := zz.c0; have e1 := zz.c1; have e2 := zz.c2
  have Y2 := Lib.hid X2; have bb' := Lib.hid bb
  clear zz X2 bb
  go_wp2_with fail
  refine bodyPost_ret (v := .tuple #[.agg #[.bool cb, .slice cp cn cc, .slice cq cm ce], .int .i64 (0)]) (by simp [results, Tryz.results20, go_sem, e0, e1, e2]) rfl ?_
  exact NumRes.of (ResPost.stored Rb.out Y2.out bb'.out (by omega)) (by rw [← hc.out]; exact if_neg (by have := hlt'.out; omega))
theorem num2_none (f : Int) (ab : Bool) (ap aq : Option Addr) (an ac am ae : Nat) (P : Int) (Q : Nat) (cb : Bool) (cp cq : Option Addr) (cn cc cm ce : Nat) (R : Int) (S : Nat) (w : World) (Ra : Rt w ab ap an ac aq am ae P Q) (la : Low P Q) (Rb : Rt w cb cp cn cc cq cm ce R S) (lb : Low R S) (h43 : f ≠ 43) (h45 : f ≠ 45) (h215 : f ≠ 215) (h247 : f ≠ 247) (h8968 : f ≠ 8968) (h8970 : f ≠ 8970) (h124 : f ≠ 124) (h42 : f ≠ 42) (h60 : f ≠ 60) (h8804 : f ≠ 8804) (h61 : f ≠ 61) (h8805 : f ≠ 8805) (h62 : f ≠ 62) (h8800 : f ≠ 8800) (h8743 : f ≠ 8743) (h8744 : f ≠ 8744) :
  Calls Tryz.prog 20 #[.int .i64 f, .agg #[.bool ab, .slice ap an ac, .slice aq am ae], .agg #[.bool cb, .slice cp cn cc, .slice cq cm ce]] w (ResPost 0 0 8 w) := by
 have g43 : (f == 43) = false := by rw [beq_eq_false_iff_ne]; exact h43
 have g45 : (f == 45) = false := by rw [beq_eq_false_iff_ne]; exact h45
 have g215 : (f == 215) = false := by rw [beq_eq_false_iff_ne]; exact h215
 have g247 : (f == 247) = false := by rw [beq_eq_false_iff_ne]; exact h247
 have g8968 : (f == 8968) = false := by rw [beq_eq_false_iff_ne]; exact h8968
 have g8970 : (f == 8970) = false := by rw [beq_eq_false_iff_ne]; exact h8970
 have g124 : (f == 124) = false := by rw [beq_eq_false_iff_ne]; exact h124
 have g42 : (f == 42) = false := by rw [beq_eq_false_iff_ne]; exact h42
 have g60 : (f == 60) = false := by rw [beq_eq_false_iff_ne]; exact h60
 have g8804 : (f == 8804) = false := by rw [beq_eq_false_iff_ne]; exact h8804
 have g61 : (f == 61) = false := by rw [beq_eq_false_iff_ne]; exact h61
 have g8805 : (f == 8805) = false := by rw [beq_eq_false_iff_ne]; exact h8805
 have g62 : (f == 62) = false := by rw [beq_eq_false_iff_ne]; exact h62
 have g8800 : (f == 8800) = false := by rw [beq_eq_false_iff_ne]; exact h8800
 have g8743 : (f == 8743) = false := by rw [beq_eq_false_iff_ne]; exact h8743
 have g8744 : (f == 8744) = false := by rw [beq_eq_false_iff_ne]; exact h8744
 clear h43 h45 h215 h247 h8968 h8970 h124 h42 h60 h8804 h61 h8805 h62 h8800 h8743 h8744
 obtain ⟨c, hc⟩ : ∃ c, c = cmpI (P * S) (R * Q) := ⟨_, rfl⟩
 replace hc := Lib.hid hc
 replace Ra := Lib.hid Ra; replace la := Lib.hid la; replace Rb := Lib.hid Rb; replace lb := Lib.hid lb
 go_enter Tryz.func20, Tryz.ntmps20
 go_upto_region 1 with fail
 refine gen_wp (fun w' => Below w.heap.size w w' ∧ Box3 w' w.heap.size (.bool ab) (.slice ap an ac) (.slice aq am ae) ∧ Box3 w' (w.heap.size + 1) (.bool cb) (.slice cp cn cc) (.slice cq cm ce) ∧ Box3 w' (w.heap.size + 2) (.bool false) (.slice none 0 0) (.slice none 0 0))
  ⟨((((Below.refl _ _).alloc (Nat.le_refl _) _).alloc (by simp <;> omega) _).alloc (by simp <;> omega) _), (((Box3.new _ _ _ _ rfl).alloc _).alloc _), ((Box3.new _ _ _ _ (by simp <;> omega)).alloc _), (Box3.new _ _ _ _ (by simp <;> omega))⟩ ?_
 rintro w0 ⟨bb, Xa, Xb, X2⟩
 replace Ra := Ra.out.below bb; replace Rb := Rb.out.below bb
 replace bb := Lib.hid bb; replace Xa := Lib.hid Xa; replace Xb := Lib.hid Xb; replace X2 := Lib.hid X2; replace Ra := Lib.hid Ra; replace Rb := Lib.hid Rb
 have p00 := Xa.out.c0; have p01 := Xa.out.c1; have p02 := Xa.out.c2; have p10 := Xb.out.c0; have p11 := Xb.out.c1; have p12 := Xb.out.c2
 go_wp2_with fail
 clear p00 p01 p02 p10 p11 p12
 refine ((rCmp4_any ab ap aq an ac am ae P Q cb cp cq cn cc cm ce R S _ Ra.out la.out Rb.out lb.out).mono fun _ _ h => (show Says (.int .i64 c) _ _ _ by rw [hc.out]; exact h)).mono ?_
 rintro e v1 ⟨rfl, hb⟩
 replace bb := Lib.hid (below_then bb.out (Nat.le_refl _) hb); replace Xa := Lib.hid (Xa.out.later hb); replace Xb := Lib.hid (Xb.out.later hb); replace X2 := Lib.hid (X2.out.later hb); replace Ra := Lib.hid (Ra.out.below hb); replace Rb := Lib.hid (Rb.out.below hb)
 clear hb
 replace X2 := X2.out
 replace bb := bb.out
 have q0 := X2.c0; have q1 := X2.c1; have q2 := X2.c2; have q3 := X2.fr 0; have q4 := X2.fr 1; have q5 := X2.fr 2
 have zz := X2.set (.bool false) (.slice none 0 0) (.slice none 0 0)
 have e0 := zz.c0; have e1 := zz.c1; have e2 := zz.c2
 have Y2 := Lib.hid X2; have bb' := Lib.hid bb
 clear zz X2 bb
 go_wp2_with fail
 refine bodyPost_ret (v := .tuple #[.agg #[.bool false, .slice none 0 0, .slice none 0 0], .int .i64 (8)]) (by simp [results, Tryz.results20, go_sem, e0, e1, e2]) rfl ?_
 exact (ResPost.stored (rt_zero _) Y2.out bb'.out (by omega))
end Go.Proofs.YtaepelipkkmeaaaGreat
