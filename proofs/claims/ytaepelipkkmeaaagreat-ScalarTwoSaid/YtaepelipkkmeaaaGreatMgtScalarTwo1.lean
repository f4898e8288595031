/-
  scrimref02.Same of any limbs; scrimref04.Same, Right.
  scrimref03.Pow.
  ratio.Pow, scrimref04.Pow.
  scrimref10.truth, scrimref04.Small, scrimref10.Numbers: what it tells of two right numbers.
  scrimref10.Numbers: powers.
  scrimref10.Number and Numbers: each word in one.
  Lists of ints as they lie in memory; whether a number is in one; two that are the same (scrimref06.In, scrimref01.Ints).
  Shapes, plain: how many cells there are, or the error; which place is which cell. scrimref07.Ints, Count.
  Labels, as the document's answer has them (scrimref01): Bit, Has, Join, Flows.
  scrimref08.Simple, zero.
-/
import Derived.Test.YtaepelipkkmeaaaGreatMgtA
import Derived.Test.YtaepelipkkmeaaaGreatMgtB
import Derived.Test.YtaepelipkkmeaaaGreatMgtC
import Derived.Test.YtaepelipkkmeaaaGreatMgtD
import Derived.Test.YtaepelipkkmeaaaGreatMgtE
import Derived.Test.YtaepelipkkmeaaaGreatMgtF
import Derived.Deep.LoopGhost
import Derived.WalkKit
import Derived.Lib.BitFns
import Derived.Laws.CopyOwn
import Derived.Deep.RegionWith
import Derived.Deep.RegionHeld3
import Derived.Deep.DrawnRows
import Derived.Deep.CutRange
import Derived.Lib.Small
import Derived.Lib.Walk
import Derived.Deep.QuietTactic
import Derived.BigQuiet
import Derived.WalkSpells
import Derived.WalkLawsBesides
import Derived.Lib.Hide
import Derived.Test.YtaepelipkkmeaaaGreatChecked
import Derived.Laws.AppendOwn
import Derived.Laws.OwnMore
set_option maxRecDepth 20000
set_option maxHeartbeats 16000000
namespace Go.Proofs.YtaepelipkkmeaaaGreat
open Go.RowKit Num
attribute [local go_sem ↓] Go.wp_at_zero Go.wp_at_succ
theorem Right.len_le32 {w : World} {b : Bool} {ao : Option Addr} {n nc : Nat} {x : Int} (h : Right w b ao n nc x) (hx : x.natAbs < pw 32) : n ≤ 32 := h.le_len hx
end Go.Proofs.YtaepelipkkmeaaaGreat
namespace Go.Proofs.YtaepelipkkmeaaaGreat
open Go.RowKit Num
attribute [local go_sem ↓] Go.wp_at_zero Go.wp_at_succ
theorem rPow_any (b : Bool) (ao : Option Addr) (n nc : Nat) (x k : Int) (w : World) (A : Whole w b ao n nc x) (hx : x.natAbs < pw 64) (k0 : -9223372036854775808 ≤ k) (k1 : k ≤ 9223372036854775807) :
  Calls Tryz.prog 129 #[.agg #[.bool b, .slice ao n nc], .int .i64 k] w (PowPost k x w) := by
 have A' := Lib.hid A; have hx' := Lib.hid hx
 clear A hx
 by_cases hneg : k < 0
 ·have p1 : Hid (powE k x = 3) := Lib.hid (by simp [powE, hneg]); have p2 : Hid (powV k x = 0) := Lib.hid (by simp [powV, hneg])
  go_enter Tryz.func129, Tryz.ntmps129
  go_wp2_with fail
  refine bodyPost_ret (v := .tuple #[.agg #[.bool false, .slice none 0 0], .int .i64 3]) (by simp [results, Tryz.results129, go_sem]) rfl ?_
  refine ⟨false, none, 0, 0, ?_, ?_, ((Below.refl _ w).alloc (Nat.le_refl _) _).alloc (by simp) _⟩
  ·rw [p1.out]
  ·rw [p2.out]; exact zero_right _
 obtain ⟨m, rfl⟩ := Int.eq_ofNat_of_zero_le (Int.not_lt.1 hneg)
 go_enter Tryz.func129, Tryz.ntmps129
 go_upto_region 3 with fail
 refine gen_wp (fun w' => Below w.heap.size w w' ∧ Box w' w.heap.size (.bool b) (.slice ao n nc) ∧ Box w' (w.heap.size + 1) (.bool false) (.slice none 0 0))
  ⟨(((Below.refl _ w).alloc (Nat.le_refl _) _).alloc (by simp <;> omega) _), ((Box.new _ _ _ rfl).alloc _), (Box.new _ _ _ (by simp <;> omega))⟩ ?_
 rintro w0 ⟨hb0, x0, x1⟩
 go_cut [6, 7] from 11 to 13 (fun s t wx => ∃ P Q pb po pn pc sb so sn sc, s = .pointer (some ⟨P, 0, none⟩) ∧ t = .pointer (some ⟨Q, 0, none⟩) ∧ Box wx P (.bool pb) (.slice po pn pc) ∧ Box wx Q (.bool sb) (.slice so sn sc) ∧ Box wx (w.heap.size + 1) (.bool false) (.slice none 0 0) ∧
  w.heap.size + 1 < P ∧ w.heap.size + 1 < Q ∧ P ≠ Q ∧ Right wx pb po pn pc 1 ∧ Right wx sb so sn sc x ∧ Below w.heap.size w wx)
 case first =>
  have l0 := x0.lt; have l1 := x1.lt; have gs0 := hb0.size
  have gb0 := hb0; have A0 := A'.out.below hb0
  go_region_held3 (fun w' => w'.cell? ⟨w.heap.size, 0, none⟩ = some (.bool b) ∧ w'.cell? ⟨w.heap.size, 1, none⟩ = some (.slice ao n nc))
   (first | with_reducible exact ⟨x0.drew.c0, x0.drew.c1⟩ | with_reducible exact ⟨(x0.alloc _).drew.c0, (x0.alloc _).drew.c1⟩ | with_reducible exact ⟨((x0.alloc _).alloc _).drew.c0, ((x0.alloc _).alloc _).drew.c1⟩ | with_reducible exact ⟨y0.c0, y0.c1⟩ | with_reducible exact ⟨(y0.alloc _).c0, (y0.alloc _).c1⟩ | with_reducible exact ⟨((y0.alloc _).alloc _).c0, ((y0.alloc _).alloc _).c1⟩ | with_reducible exact ⟨z0.c0, z0.c1⟩ | with_reducible exact ⟨(z0.alloc _).c0, (z0.alloc _).c1⟩ | with_reducible exact ⟨((z0.alloc _).alloc _).c0, ((z0.alloc _).alloc _).c1⟩ | with_reducible exact ⟨(z0.other (by omega) _ _).c0, (z0.other (by omega) _ _).c1⟩ | with_reducible exact ⟨((z0.other (by omega) _ _).alloc _).c0, ((z0.other (by omega) _ _).alloc _).c1⟩ | with_reducible exact ⟨((z0.other (by omega) _ _).other (by omega) _ _).c0, ((z0.other (by omega) _ _).other (by omega) _ _).c1⟩ | go_keep)
   (first
   | (go_at_call 97; refine (rOf_any 1 _ (by decide) (by decide)).mono ?_; rintro e w1 ⟨pb, po, pn, pc, rfl, hR1, hb1⟩; have hc1 : Below w0.heap.size w0 w1 := (by (first | exact (Below.refl _ _).drew.trans hb1 | exact ((Below.refl _ _).alloc (by first | exact Nat.le_refl _ | (simp; done) | (simp; omega)) _).drew.trans (hb1.mono (by simp <;> omega)) | exact (((Below.refl _ _).alloc (by first | exact Nat.le_refl _ | (simp; done) | (simp; omega)) _).alloc (by first | exact Nat.le_refl _ | (simp; done) | (simp; omega)) _).drew.trans (hb1.mono (by simp <;> omega)))); have hz1 := hc1.size; have y0 := x0.later hc1; have ly0 := y0.lt; have y1 := x1.later hc1; have ly1 := y1.lt; have A1 := A0.below hc1; have gb1 := below_then gb0 (Nat.le_refl _) hc1; have gs1 := gb1.size; (first | (with_reducible have mm := made2' hb1; obtain ⟨m10, m11⟩ := mm) | (with_reducible have m10 := made1' hb1) | skip); (try have k10 := m10.lt); (try have k11 := m11.lt))
   | (go_at_call 95; refine (rNorm_any b ao n nc x _ ?_).mono ?_; (first | with_reducible exact A1 | with_reducible exact (A1.alloc _) | with_reducible exact ((A1.alloc _).alloc _)); rintro e w2 ⟨sb, so, sn, sc, rfl, hR2, hb2⟩; have hc2 : Below w1.heap.size w1 w2 := (by (first | with_reducible exact hb2 | exact ((Below.refl _ _).alloc (by first | exact Nat.le_refl _ | (simp; done) | (simp; omega)) _).trans (hb2.mono (by simp <;> omega)) | exact (((Below.refl _ _).alloc (by first | exact Nat.le_refl _ | (simp; done) | (simp; omega)) _).alloc (by first | exact Nat.le_refl _ | (simp; done) | (simp; omega)) _).trans (hb2.mono (by simp <;> omega)))); have hz2 := hc2.size; have z0 := y0.later hc2; have lz0 := z0.lt; have z1 := y1.later hc2; have lz1 := z1.lt; have hR1 := hR1.below hc2; have gb2 := below_then gb1 (Nat.le_refl _) hc2; have gs2 := gb2.size; (try have m10 := m10.later hc2); (try have m11 := m11.later hc2); (first | (with_reducible have mm := made2 hb2; obtain ⟨m20, m21⟩ := mm) | (with_reducible have m20 := made1 hb2) | skip); (try have k10 := m10.lt); (try have k11 := m11.lt); (try have k20 := m20.lt); (try have k21 := m21.lt); (try (have f100 := m10.c0; have f101 := m10.c1; have f102 := m10.fr 0; have f103 := m10.fr 1)); (try (have f110 := m11.c0; have f111 := m11.c1; have f112 := m11.fr 0; have f113 := m11.fr 1)); (try (have f200 := m20.c0; have f201 := m20.c1; have f202 := m20.fr 0; have f203 := m20.fr 1)); (try (have f210 := m21.c0; have f211 := m21.c1; have f212 := m21.fr 0; have f213 := m21.fr 1))))
  ·go_wp2_with fail; go_meet; exact ⟨_, _, _, _, _, _, _, _, _, _, rfl, rfl, ((Box.new _ _ _ (by first | rfl | (simp; done))).alloc _), (Box.new _ _ _ (by first | rfl | (simp; done))), ((z1.alloc _).alloc _), by first | omega | (simp; omega), by first | omega | (simp; omega), by first | omega | (simp; omega), ((hR1.alloc _).alloc _), ((hR2.alloc _).alloc _), (Below.alloc (Below.alloc gb2 (by first | omega | simp <;> omega) _) (by first | omega | simp <;> omega) _)⟩
  ·go_wp2_with fail; go_meet; exact ⟨_, _, _, _, _, _, _, _, _, _, rfl, rfl, (Box.new _ _ _ (by first | rfl | (simp; done))), ((Box.new _ _ _ (by first | rfl | (simp; done))).alloc _), ((z1.alloc _).alloc _), by first | omega | (simp; omega), by first | omega | (simp; omega), by first | omega | (simp; omega), ((hR1.alloc _).alloc _), ((hR2.alloc _).alloc _), (Below.alloc (Below.alloc gb2 (by first | omega | simp <;> omega) _) (by first | omega | simp <;> omega) _)⟩
  ·go_wp2_with fail; go_meet; exact ⟨_, _, _, _, _, _, _, _, _, _, rfl, rfl, ((m20.set _ _).alloc _), (Box.new _ _ _ (by first | rfl | (simp; done))), ((z1.other (by omega) _ _).alloc _), by first | omega | (simp; omega), by first | omega | (simp; omega), by first | omega | (simp; omega), ((hR1.box m20 _ _).alloc _), ((hR2.box m20 _ _).alloc _), (Below.alloc (below_set gb2 (by omega) _ _) (by first | omega | simp <;> omega) _)⟩
  ·go_wp2_with fail; go_meet; exact ⟨_, _, _, _, _, _, _, _, _, _, rfl, rfl, ((m20.set _ _).other (by omega) _ _), ((m21.other (by omega) _ _).set _ _), ((z1.other (by omega) _ _).other (by omega) _ _), by first | omega | (simp; omega), by first | omega | (simp; omega), by first | omega | (simp; omega), ((hR1.box m20 _ _).box (m21.other (by omega) _ _) _ _), ((hR2.box m20 _ _).box (m21.other (by omega) _ _) _ _), (below_set (below_set gb2 (by omega) _ _) (by omega) _ _)⟩
  ·go_wp2_with fail; go_meet; exact ⟨_, _, _, _, _, _, _, _, _, _, rfl, rfl, (Box.new _ _ _ (by first | rfl | (simp; done))), ((m20.set _ _).alloc _), ((z1.other (by omega) _ _).alloc _), by first | omega | (simp; omega), by first | omega | (simp; omega), by first | omega | (simp; omega), ((hR1.box m20 _ _).alloc _), ((hR2.box m20 _ _).alloc _), (Below.alloc (below_set gb2 (by omega) _ _) (by first | omega | simp <;> omega) _)⟩
  ·go_wp2_with fail; go_meet; exact ⟨_, _, _, _, _, _, _, _, _, _, rfl, rfl, ((m21.set _ _).other (by omega) _ _), ((m20.other (by omega) _ _).set _ _), ((z1.other (by omega) _ _).other (by omega) _ _), by first | omega | (simp; omega), by first | omega | (simp; omega), by first | omega | (simp; omega), ((hR1.box m21 _ _).box (m20.other (by omega) _ _) _ _), ((hR2.box m21 _ _).box (m20.other (by omega) _ _) _ _), (below_set (below_set gb2 (by omega) _ _) (by omega) _ _)⟩
  ·go_wp2_with fail; go_meet; exact ⟨_, _, _, _, _, _, _, _, _, _, rfl, rfl, ((m10.set _ _).alloc _), (Box.new _ _ _ (by first | rfl | (simp; done))), ((z1.other (by omega) _ _).alloc _), by first | omega | (simp; omega), by first | omega | (simp; omega), by first | omega | (simp; omega), ((hR1.box m10 _ _).alloc _), ((hR2.box m10 _ _).alloc _), (Below.alloc (below_set gb2 (by omega) _ _) (by first | omega | simp <;> omega) _)⟩
  ·go_wp2_with fail; go_meet; exact ⟨_, _, _, _, _, _, _, _, _, _, rfl, rfl, ((m10.set _ _).other (by omega) _ _), ((m20.other (by omega) _ _).set _ _), ((z1.other (by omega) _ _).other (by omega) _ _), by first | omega | (simp; omega), by first | omega | (simp; omega), by first | omega | (simp; omega), ((hR1.box m10 _ _).box (m20.other (by omega) _ _) _ _), ((hR2.box m10 _ _).box (m20.other (by omega) _ _) _ _), (below_set (below_set gb2 (by omega) _ _) (by omega) _ _)⟩
  ·go_wp2_with fail; go_meet; exact ⟨_, _, _, _, _, _, _, _, _, _, rfl, rfl, ((m10.set _ _).other (by omega) _ _), ((m11.other (by omega) _ _).set _ _), ((z1.other (by omega) _ _).other (by omega) _ _), by first | omega | (simp; omega), by first | omega | (simp; omega), by first | omega | (simp; omega), ((hR1.box m10 _ _).box (m11.other (by omega) _ _) _ _), ((hR2.box m10 _ _).box (m11.other (by omega) _ _) _ _), (below_set (below_set gb2 (by omega) _ _) (by omega) _ _)⟩
  ·go_wp2_with fail; go_meet; exact ⟨_, _, _, _, _, _, _, _, _, _, rfl, rfl, (Box.new _ _ _ (by first | rfl | (simp; done))), ((m10.set _ _).alloc _), ((z1.other (by omega) _ _).alloc _), by first | omega | (simp; omega), by first | omega | (simp; omega), by first | omega | (simp; omega), ((hR1.box m10 _ _).alloc _), ((hR2.box m10 _ _).alloc _), (Below.alloc (below_set gb2 (by omega) _ _) (by first | omega | simp <;> omega) _)⟩
  ·go_wp2_with fail; go_meet; exact ⟨_, _, _, _, _, _, _, _, _, _, rfl, rfl, ((m20.set _ _).other (by omega) _ _), ((m10.other (by omega) _ _).set _ _), ((z1.other (by omega) _ _).other (by omega) _ _), by first | omega | (simp; omega), by first | omega | (simp; omega), by first | omega | (simp; omega), ((hR1.box m20 _ _).box (m10.other (by omega) _ _) _ _), ((hR2.box m20 _ _).box (m10.other (by omega) _ _) _ _), (below_set (below_set gb2 (by omega) _ _) (by omega) _ _)⟩
  ·go_wp2_with fail; go_meet; exact ⟨_, _, _, _, _, _, _, _, _, _, rfl, rfl, ((m11.set _ _).other (by omega) _ _), ((m10.other (by omega) _ _).set _ _), ((z1.other (by omega) _ _).other (by omega) _ _), by first | omega | (simp; omega), by first | omega | (simp; omega), by first | omega | (simp; omega), ((hR1.box m11 _ _).box (m10.other (by omega) _ _) _ _), ((hR2.box m11 _ _).box (m10.other (by omega) _ _) _ _), (below_set (below_set gb2 (by omega) _ _) (by omega) _ _)⟩
 case rest =>
  obtain ⟨P, Q, pb, po, pn, pc, sb, so, sn, sc, rfl, rfl, bp, bs, b4, gP, gQ, hPQ, hP, hS, bb⟩ := hcut
  have n1 : w.heap.size + 1 ≠ P := by omega
  have n2 : w.heap.size + 1 ≠ Q := by omega
  have gP : w.heap.size ≤ P := by omega
  have gQ : w.heap.size ≤ Q := by omega
  clear x0 x1 hb0
  have one32 : Hid ((1 : Int).natAbs < pw 32) := Lib.hid (by have := pw_le (n := 1) (m := 32) (by omega); have e : pw 1 = 4294967296 := rfl; omega)
  have hm' := Lib.hid (show m ≤ 9223372036854775807 by omega)
  have c2 := bs.c0; have c3 := bs.c1
  by_cases hbig : 32 < sn ∧ 0 < m
  ·have hv : Hid (powR m 1 x = none) := Lib.hid (powR_great (by omega) (hS.len_ge hbig.1))
   have h32i : decide ((32 : Int) < (sn : Int)) = true := decide_eq_true (by omega)
   have hm0 : 0 < m := hbig.2
   have hm0i : (0 : Int) < (m : Int) := by omega
   clear hbig
   have z9 := b4.set (.bool false) (.slice none 0 0)
   have r1 := b4.c0; have r2 := b4.c1; have r3 := b4.fr 0; have r4 := b4.fr 1
   have e0 := z9.c0; have e1 := z9.c1
   have hbl := Lib.hid (below_set bb (Nat.le_succ _) (.bool false) (.slice none 0 0))
   clear z9
   go_wp2_with fail
   refine bodyPost_ret (v := .tuple #[.agg #[.bool false, .slice none 0 0], .int .i64 7]) (by simp [results, Tryz.results129, go_sem, e0, e1]) rfl ?_
   exact PowPost.none rfl hv.out hbl.out
  have hguard : (32 < sn ∧ m = 0) ∨ sn ≤ 32 := by omega
  have hs0 : Hid (m ≠ 0 → x.natAbs < pw 32) := Lib.hid (fun h => hS.len_lt (by omega))
  clear hbig
  rcases hguard with ⟨g1, rfl⟩ | g1
  ·have h32i : decide ((32 : Int) < (sn : Int)) = true := decide_eq_true (by omega)
   go_wp2_with fail
   go_loopw [1] (fun v wr => ∃ (m' : Nat) (pb : Bool) (po : Option Addr) (pn pc : Nat) (sb : Bool) (so : Option Addr) (sn sc : Nat) (p s : Int), v = .int .i64 m' ∧ m' ≤ 9223372036854775807 ∧ Box wr P (.bool pb) (.slice po pn pc) ∧ Box wr Q (.bool sb) (.slice so sn sc) ∧ Box wr (w.heap.size + 1) (.bool false) (.slice none 0 0) ∧
     Right wr pb po pn pc p ∧ Right wr sb so sn sc s ∧ Below w.heap.size w wr ∧ s.natAbs < pw 64 ∧ (m' ≠ 0 → s.natAbs < pw 32) ∧ p.natAbs < pw 32 ∧ powR m' p s = powR 0 1 x) (fun v _ => (intOf v).toNat)
   case atStart => exact ⟨0, _, _, _, _, _, _, _, _, 1, x, rfl, hm'.out, bp, bs, b4, hP, hS, bb, hx'.out, hs0.out, one32.out, rfl⟩
   case round =>
    clear bp bs b4 hP hS bb c2 c3
    obtain ⟨m', pb, po, pn, pc, sb, so, sn, sc, p, s, rfl, hmb, bp, bs, b4, hP, hS, bb, hs, hs32, hp, hrel⟩ := hrel
    have pn32 := Lib.hid (hP.le_len hp)
    have bp := Lib.hid bp; have bs := Lib.hid bs; have b4 := Lib.hid b4; have hP := Lib.hid hP; have hS := Lib.hid hS; have bb := Lib.hid bb; have hs64 := Lib.hid hs; have hp32 := Lib.hid hp; have hrl := Lib.hid hrel; have hs3 := Lib.hid hs32
    have hp64 := Lib.hid (Nat.lt_of_lt_of_le hp (pw_le (n := 32) (m := 64) (by omega)))
    clear hs hp hrel hs32
    by_cases h0 : m' = 0
    ·subst h0
     have hv : Hid (powR 0 1 x = some p) := Lib.hid (by rw [← hrl.out, powR_zero])
     have c0 := bp.out.c0; have c1 := bp.out.c1
     have z9 := b4.out.set (.bool pb) (.slice po pn pc)
     have q1 := b4.out.c0; have q2 := b4.out.c1; have q3 := b4.out.fr 0; have q4 := b4.out.fr 1
     have e0 := z9.c0; have e1 := z9.c1
     clear z9
     go_wp2_with fail
     refine bodyPost_ret (v := .tuple #[.agg #[.bool pb, .slice po pn pc], .int .i64 0]) (by simp [results, Tryz.results129, go_sem, e0, e1]) rfl ?_
     exact PowPost.some rfl hv.out (hP.out.box b4.out _ _) (below_set bb.out (Nat.le_succ _) _ _)
    ·have hm0 : 0 < m' := Nat.pos_of_ne_zero h0
     have hsl := Lib.hid (hs3.out h0)
     have sn32 := Lib.hid (hS.out.le_len hsl.out)
     have c0 := bp.out.c0; have c1 := bp.out.c1; have c2 := bs.out.c0; have c3 := bs.out.c1
     by_cases hodd : m' % 2 = 1
     ·have hoi : (m' : Int) % 2 = 1 := by omega
      go_wp2_with fail
      refine (rMul_any pb sb po so pn pc sn sc p s _ (hP.out.whole hp32.out (by omega)) (hS.out.whole hs64.out (by omega)) 64 (by omega) hp64.out hs64.out).mono ?_
      rintro e w3 ⟨tb, to_, tn, tc, rfl, hT, hb⟩
      have y6 := bp.out.later hb; have y7 := bs.out.later hb; have y4 := b4.out.later hb; have bb3 := below_then bb.out (Nat.le_refl _) hb
      have q1 := y6.c0; have q2 := y6.c1; have q3 := y6.fr 0; have q4 := y6.fr 1
      have z6 := y6.set (.bool tb) (.slice to_ tn tc); have z7 := y7.other (Ne.symm hPQ) (.bool tb) (.slice to_ tn tc); have z4 := y4.other n1 (.bool tb) (.slice to_ tn tc)
      have bb := Lib.hid (below_set bb3 gP (.bool tb) (.slice to_ tn tc))
      have hP := Lib.hid (hT.box y6 (.bool tb) (.slice to_ tn tc)); have hS := Lib.hid ((hS.out.below hb).box y6 (.bool tb) (.slice to_ tn tc))
      have bp := Lib.hid z6; have bs := Lib.hid z7; have b4 := Lib.hid z4
      clear c0 c1 c2 c3
      have c0 := z6.c0; have c1 := z6.c1; have c2 := z7.c0; have c3 := z7.c1
      clear hb y6 y7 y4 bb3 hT z6 z7 z4
      by_cases hlast : m' = 1
      ·subst hlast
       by_cases ht : 32 < tn
       ·have hv : Hid (powR 0 1 x = none) := Lib.hid (by rw [← hrl.out]; exact powR_odd_great h0 hodd (hP.out.len_ge ht))
        have hti : decide ((32 : Int) < (tn : Int)) = true := decide_eq_true (by omega)
        have z9 := b4.out.set (.bool false) (.slice none 0 0)
        have r1 := b4.out.c0; have r2 := b4.out.c1; have r3 := b4.out.fr 0; have r4 := b4.out.fr 1
        have e0 := z9.c0; have e1 := z9.c1
        have hbl := Lib.hid (below_set bb.out (Nat.le_succ _) (.bool false) (.slice none 0 0))
        clear z9
        go_wp2_with fail
        refine bodyPost_ret (v := .tuple #[.agg #[.bool false, .slice none 0 0], .int .i64 7]) (by simp [results, Tryz.results129, go_sem, e0, e1]) rfl ?_
        exact PowPost.none rfl hv.out hbl.out
       ·have htl := Lib.hid (hP.out.len_lt (Nat.le_of_not_lt ht))
        have hti : decide ((32 : Int) < (tn : Int)) = false := decide_eq_false (by omega)
        have hsi : decide ((32 : Int) < (sn : Int)) = false := decide_eq_false (by have := sn32.out; omega)
        have hst : Hid (powR 0 (p * s) s = powR 0 1 x) := Lib.hid (by rw [powR_zero, ← hrl.out, powR_odd h0 hodd hsl.out htl.out, show 1 / 2 = 0 from rfl, powR_zero])
        go_wp2_with fail
        go_roundw
        case rel => exact ⟨0, _, _, _, _, _, _, _, _, p * s, s, rfl, by omega, bp.out, bs.out, b4.out, hP.out, hS.out, bb.out, hs64.out, fun h => absurd rfl h, htl.out, hst.out⟩
        case measure => simp [intOf]
      ·have hm2 : 0 < m' / 2 := by omega
       have hm2i : (0 : Int) < (m' : Int) / 2 := by omega
       go_wp2_with fail
       refine gen_calls (fun w' => Box w' P (.bool tb) (.slice to_ tn tc) ∧ Box w' Q (.bool sb) (.slice so sn sc) ∧ Box w' (w.heap.size + 1) (.bool false) (.slice none 0 0) ∧ Right w' tb to_ tn tc (p * s) ∧ Right w' sb so sn sc s ∧ Below w.heap.size w w') ⟨bp.out, bs.out, b4.out, hP.out, hS.out, bb.out⟩ ?_
       clear bp bs b4 hP hS bb q1 q2 q3 q4 c0 c1 c2 c3
       rintro w4 ⟨bp, bs, b4, hP, hS, bb⟩
       have bp := Lib.hid bp; have bs := Lib.hid bs; have b4 := Lib.hid b4; have hP := Lib.hid hP; have hS := Lib.hid hS; have bb := Lib.hid bb
       refine (rMul_any sb sb so so sn sc sn sc s s _ (hS.out.whole hs64.out (by omega)) (hS.out.whole hs64.out (by omega)) 64 (by omega) hs64.out hs64.out).mono ?_
       rintro e w5 ⟨rb, ro, rn, rc, rfl, hU, hb⟩
       have v6 := Lib.hid (bp.out.later hb); have v7 := Lib.hid (bs.out.later hb); have v4 := Lib.hid (b4.out.later hb); have bb := Lib.hid (below_then bb.out (Nat.le_refl _) hb); have hP := Lib.hid (hP.out.below hb)
       have u1 := v7.out.c0; have u2 := v7.out.c1; have u3 := v7.out.fr 0; have u4 := v7.out.fr 1
       have z6 := v6.out.other hPQ (.bool rb) (.slice ro rn rc); have z7 := v7.out.set (.bool rb) (.slice ro rn rc); have z4 := Lib.hid (v4.out.other n2 (.bool rb) (.slice ro rn rc))
       have bbz := Lib.hid (below_set bb.out gQ (.bool rb) (.slice ro rn rc))
       have hPz := Lib.hid (hP.out.box v7.out (.bool rb) (.slice ro rn rc)); have hUz := Lib.hid (hU.box v7.out (.bool rb) (.slice ro rn rc))
       have d0 := z6.c0; have d1 := z6.c1; have d2 := z7.c0; have d3 := z7.c1
       have y6 := Lib.hid z6; have y7 := Lib.hid z7
       clear hb z6 z7 hU v6 v7 v4
       by_cases ht : 32 < tn
       ·have hv : Hid (powR 0 1 x = none) := Lib.hid (by rw [← hrl.out]; exact powR_odd_great h0 hodd (hPz.out.len_ge ht))
        have hti : decide ((32 : Int) < (tn : Int)) = true := decide_eq_true (by omega)
        have z9 := z4.out.set (.bool false) (.slice none 0 0)
        have r1 := z4.out.c0; have r2 := z4.out.c1; have r3 := z4.out.fr 0; have r4 := z4.out.fr 1
        have e0 := z9.c0; have e1 := z9.c1
        have hbl := Lib.hid (below_set bbz.out (Nat.le_succ _) (.bool false) (.slice none 0 0))
        clear z9
        go_wp2_with fail
        refine bodyPost_ret (v := .tuple #[.agg #[.bool false, .slice none 0 0], .int .i64 7]) (by simp [results, Tryz.results129, go_sem, e0, e1]) rfl ?_
        exact PowPost.none rfl hv.out hbl.out
       have htl := Lib.hid (hPz.out.len_lt (Nat.le_of_not_lt ht))
       have hti : decide ((32 : Int) < (tn : Int)) = false := decide_eq_false (by omega)
       have hst : Hid (powR (m' / 2) (p * s) (s * s) = powR 0 1 x) := Lib.hid (by rw [← powR_odd h0 hodd hsl.out htl.out]; exact hrl.out)
       by_cases hu : 32 < rn
       ·have hv : Hid (powR 0 1 x = none) := Lib.hid (by rw [← hst.out]; exact powR_great (by omega) (hUz.out.len_ge hu))
        have hui : decide ((32 : Int) < (rn : Int)) = true := decide_eq_true (by omega)
        have z9 := z4.out.set (.bool false) (.slice none 0 0)
        have r1 := z4.out.c0; have r2 := z4.out.c1; have r3 := z4.out.fr 0; have r4 := z4.out.fr 1
        have e0 := z9.c0; have e1 := z9.c1
        have hbl := Lib.hid (below_set bbz.out (Nat.le_succ _) (.bool false) (.slice none 0 0))
        clear z9
        go_wp2_with fail
        refine bodyPost_ret (v := .tuple #[.agg #[.bool false, .slice none 0 0], .int .i64 7]) (by simp [results, Tryz.results129, go_sem, e0, e1]) rfl ?_
        exact PowPost.none rfl hv.out hbl.out
       have hul := Lib.hid (hUz.out.len_lt (Nat.le_of_not_lt hu))
       have hui : decide ((32 : Int) < (rn : Int)) = false := decide_eq_false (by omega)
       go_wp2_with fail
       go_roundw
       case rel => exact ⟨m' / 2, _, _, _, _, _, _, _, _, p * s, s * s, int_eq (by omega), by omega, y6.out, y7.out, z4.out, hPz.out, hUz.out, bbz.out, mul_self_abs hsl.out, fun _ => hul.out, htl.out, hst.out⟩
       case measure => simp [intOf]; omega
     ·have hoi : ¬ ((m' : Int) % 2 = 1) := by omega
      have hm2 : 0 < m' / 2 := by omega
      have hm2i : (0 : Int) < (m' : Int) / 2 := by omega
      go_wp2_with fail
      refine (rMul_any sb sb so so sn sc sn sc s s _ (hS.out.whole hs64.out (by omega)) (hS.out.whole hs64.out (by omega)) 64 (by omega) hs64.out hs64.out).mono ?_
      rintro e w5 ⟨rb, ro, rn, rc, rfl, hU, hb⟩
      have v6 := Lib.hid (bp.out.later hb); have v7 := Lib.hid (bs.out.later hb); have v4 := Lib.hid (b4.out.later hb); have bb := Lib.hid (below_then bb.out (Nat.le_refl _) hb); have hP := Lib.hid (hP.out.below hb)
      have u1 := v7.out.c0; have u2 := v7.out.c1; have u3 := v7.out.fr 0; have u4 := v7.out.fr 1
      have z6 := v6.out.other hPQ (.bool rb) (.slice ro rn rc); have z7 := v7.out.set (.bool rb) (.slice ro rn rc); have z4 := Lib.hid (v4.out.other n2 (.bool rb) (.slice ro rn rc))
      have bbz := Lib.hid (below_set bb.out gQ (.bool rb) (.slice ro rn rc))
      have hPz := Lib.hid (hP.out.box v7.out (.bool rb) (.slice ro rn rc)); have hUz := Lib.hid (hU.box v7.out (.bool rb) (.slice ro rn rc))
      clear c0 c1 c2 c3
      have d0 := z6.c0; have d1 := z6.c1; have d2 := z7.c0; have d3 := z7.c1
      have y6 := Lib.hid z6; have y7 := Lib.hid z7
      clear hb z6 z7 hU v6 v7 v4
      have htl := Lib.hid hp32.out
      have hti : decide ((32 : Int) < (pn : Int)) = false := decide_eq_false (by have := pn32.out; omega)
      have hst : Hid (powR (m' / 2) (p) (s * s) = powR 0 1 x) := Lib.hid (by rw [← powR_even h0 hodd hsl.out htl.out]; exact hrl.out)
      by_cases hu : 32 < rn
      ·have hv : Hid (powR 0 1 x = none) := Lib.hid (by rw [← hst.out]; exact powR_great (by omega) (hUz.out.len_ge hu))
       have hui : decide ((32 : Int) < (rn : Int)) = true := decide_eq_true (by omega)
       have z9 := z4.out.set (.bool false) (.slice none 0 0)
       have r1 := z4.out.c0; have r2 := z4.out.c1; have r3 := z4.out.fr 0; have r4 := z4.out.fr 1
       have e0 := z9.c0; have e1 := z9.c1
       have hbl := Lib.hid (below_set bbz.out (Nat.le_succ _) (.bool false) (.slice none 0 0))
       clear z9
       go_wp2_with fail
       refine bodyPost_ret (v := .tuple #[.agg #[.bool false, .slice none 0 0], .int .i64 7]) (by simp [results, Tryz.results129, go_sem, e0, e1]) rfl ?_
       exact PowPost.none rfl hv.out hbl.out
      have hul := Lib.hid (hUz.out.len_lt (Nat.le_of_not_lt hu))
      have hui : decide ((32 : Int) < (rn : Int)) = false := decide_eq_false (by omega)
      go_wp2_with fail
      go_roundw
      case rel => exact ⟨m' / 2, _, _, _, _, _, _, _, _, p, s * s, int_eq (by omega), by omega, y6.out, y7.out, z4.out, hPz.out, hUz.out, bbz.out, mul_self_abs hsl.out, fun _ => hul.out, htl.out, hst.out⟩
      case measure => simp [intOf]; omega
  ·have h32i : decide ((32 : Int) < (sn : Int)) = false := decide_eq_false (by omega)
   go_wp2_with fail
   go_loopw [1] (fun v wr => ∃ (m' : Nat) (pb : Bool) (po : Option Addr) (pn pc : Nat) (sb : Bool) (so : Option Addr) (sn sc : Nat) (p s : Int), v = .int .i64 m' ∧ m' ≤ 9223372036854775807 ∧ Box wr P (.bool pb) (.slice po pn pc) ∧ Box wr Q (.bool sb) (.slice so sn sc) ∧ Box wr (w.heap.size + 1) (.bool false) (.slice none 0 0) ∧
     Right wr pb po pn pc p ∧ Right wr sb so sn sc s ∧ Below w.heap.size w wr ∧ s.natAbs < pw 64 ∧ (m' ≠ 0 → s.natAbs < pw 32) ∧ p.natAbs < pw 32 ∧ powR m' p s = powR m 1 x) (fun v _ => (intOf v).toNat)
   case atStart => exact ⟨m, _, _, _, _, _, _, _, _, 1, x, rfl, hm'.out, bp, bs, b4, hP, hS, bb, hx'.out, hs0.out, one32.out, rfl⟩
   case round =>
    clear bp bs b4 hP hS bb c2 c3
    obtain ⟨m', pb, po, pn, pc, sb, so, sn, sc, p, s, rfl, hmb, bp, bs, b4, hP, hS, bb, hs, hs32, hp, hrel⟩ := hrel
    have pn32 := Lib.hid (hP.le_len hp)
    have bp := Lib.hid bp; have bs := Lib.hid bs; have b4 := Lib.hid b4; have hP := Lib.hid hP; have hS := Lib.hid hS; have bb := Lib.hid bb; have hs64 := Lib.hid hs; have hp32 := Lib.hid hp; have hrl := Lib.hid hrel; have hs3 := Lib.hid hs32
    have hp64 := Lib.hid (Nat.lt_of_lt_of_le hp (pw_le (n := 32) (m := 64) (by omega)))
    clear hs hp hrel hs32
    by_cases h0 : m' = 0
    ·subst h0
     have hv : Hid (powR m 1 x = some p) := Lib.hid (by rw [← hrl.out, powR_zero])
     have c0 := bp.out.c0; have c1 := bp.out.c1
     have z9 := b4.out.set (.bool pb) (.slice po pn pc)
     have q1 := b4.out.c0; have q2 := b4.out.c1; have q3 := b4.out.fr 0; have q4 := b4.out.fr 1
     have e0 := z9.c0; have e1 := z9.c1
     clear z9
     go_wp2_with fail
     refine bodyPost_ret (v := .tuple #[.agg #[.bool pb, .slice po pn pc], .int .i64 0]) (by simp [results, Tryz.results129, go_sem, e0, e1]) rfl ?_
     exact PowPost.some rfl hv.out (hP.out.box b4.out _ _) (below_set bb.out (Nat.le_succ _) _ _)
    ·have hm0 : 0 < m' := Nat.pos_of_ne_zero h0
     have hsl := Lib.hid (hs3.out h0)
     have sn32 := Lib.hid (hS.out.le_len hsl.out)
     have c0 := bp.out.c0; have c1 := bp.out.c1; have c2 := bs.out.c0; have c3 := bs.out.c1
     by_cases hodd : m' % 2 = 1
     ·have hoi : (m' : Int) % 2 = 1 := by omega
      go_wp2_with fail
      refine (rMul_any pb sb po so pn pc sn sc p s _ (hP.out.whole hp32.out (by omega)) (hS.out.whole hs64.out (by omega)) 64 (by omega) hp64.out hs64.out).mono ?_
      rintro e w3 ⟨tb, to_, tn, tc, rfl, hT, hb⟩
      have y6 := bp.out.later hb; have y7 := bs.out.later hb; have y4 := b4.out.later hb; have bb3 := below_then bb.out (Nat.le_refl _) hb
      have q1 := y6.c0; have q2 := y6.c1; have q3 := y6.fr 0; have q4 := y6.fr 1
      have z6 := y6.set (.bool tb) (.slice to_ tn tc); have z7 := y7.other (Ne.symm hPQ) (.bool tb) (.slice to_ tn tc); have z4 := y4.other n1 (.bool tb) (.slice to_ tn tc)
      have bb := Lib.hid (below_set bb3 gP (.bool tb) (.slice to_ tn tc))
      have hP := Lib.hid (hT.box y6 (.bool tb) (.slice to_ tn tc)); have hS := Lib.hid ((hS.out.below hb).box y6 (.bool tb) (.slice to_ tn tc))
      have bp := Lib.hid z6; have bs := Lib.hid z7; have b4 := Lib.hid z4
      clear c0 c1 c2 c3
      have c0 := z6.c0; have c1 := z6.c1; have c2 := z7.c0; have c3 := z7.c1
      clear hb y6 y7 y4 bb3 hT z6 z7 z4
      by_cases hlast : m' = 1
      ·subst hlast
       by_cases ht : 32 < tn
       ·have hv : Hid (powR m 1 x = none) := Lib.hid (by rw [← hrl.out]; exact powR_odd_great h0 hodd (hP.out.len_ge ht))
        have hti : decide ((32 : Int) < (tn : Int)) = true := decide_eq_true (by omega)
        have z9 := b4.out.set (.bool false) (.slice none 0 0)
        have r1 := b4.out.c0; have r2 := b4.out.c1; have r3 := b4.out.fr 0; have r4 := b4.out.fr 1
        have e0 := z9.c0; have e1 := z9.c1
        have hbl := Lib.hid (below_set bb.out (Nat.le_succ _) (.bool false) (.slice none 0 0))
        clear z9
        go_wp2_with fail
        refine bodyPost_ret (v := .tuple #[.agg #[.bool false, .slice none 0 0], .int .i64 7]) (by simp [results, Tryz.results129, go_sem, e0, e1]) rfl ?_
        exact PowPost.none rfl hv.out hbl.out
       ·have htl := Lib.hid (hP.out.len_lt (Nat.le_of_not_lt ht))
        have hti : decide ((32 : Int) < (tn : Int)) = false := decide_eq_false (by omega)
        have hsi : decide ((32 : Int) < (sn : Int)) = false := decide_eq_false (by have := sn32.out; omega)
        have hst : Hid (powR 0 (p * s) s = powR m 1 x) := Lib.hid (by rw [powR_zero, ← hrl.out, powR_odd h0 hodd hsl.out htl.out, show 1 / 2 = 0 from rfl, powR_zero])
        go_wp2_with fail
        go_roundw
        case rel => exact ⟨0, _, _, _, _, _, _, _, _, p * s, s, rfl, by omega, bp.out, bs.out, b4.out, hP.out, hS.out, bb.out, hs64.out, fun h => absurd rfl h, htl.out, hst.out⟩
        case measure => simp [intOf]
      ·have hm2 : 0 < m' / 2 := by omega
       have hm2i : (0 : Int) < (m' : Int) / 2 := by omega
       go_wp2_with fail
       refine gen_calls (fun w' => Box w' P (.bool tb) (.slice to_ tn tc) ∧ Box w' Q (.bool sb) (.slice so sn sc) ∧ Box w' (w.heap.size + 1) (.bool false) (.slice none 0 0) ∧ Right w' tb to_ tn tc (p * s) ∧ Right w' sb so sn sc s ∧ Below w.heap.size w w') ⟨bp.out, bs.out, b4.out, hP.out, hS.out, bb.out⟩ ?_
       clear bp bs b4 hP hS bb q1 q2 q3 q4 c0 c1 c2 c3
       rintro w4 ⟨bp, bs, b4, hP, hS, bb⟩
       have bp := Lib.hid bp; have bs := Lib.hid bs; have b4 := Lib.hid b4; have hP := Lib.hid hP; have hS := Lib.hid hS; have bb := Lib.hid bb
       refine (rMul_any sb sb so so sn sc sn sc s s _ (hS.out.whole hs64.out (by omega)) (hS.out.whole hs64.out (by omega)) 64 (by omega) hs64.out hs64.out).mono ?_
       rintro e w5 ⟨rb, ro, rn, rc, rfl, hU, hb⟩
       have v6 := Lib.hid (bp.out.later hb); have v7 := Lib.hid (bs.out.later hb); have v4 := Lib.hid (b4.out.later hb); have bb := Lib.hid (below_then bb.out (Nat.le_refl _) hb); have hP := Lib.hid (hP.out.below hb)
       have u1 := v7.out.c0; have u2 := v7.out.c1; have u3 := v7.out.fr 0; have u4 := v7.out.fr 1
       have z6 := v6.out.other hPQ (.bool rb) (.slice ro rn rc); have z7 := v7.out.set (.bool rb) (.slice ro rn rc); have z4 := Lib.hid (v4.out.other n2 (.bool rb) (.slice ro rn rc))
       have bbz := Lib.hid (below_set bb.out gQ (.bool rb) (.slice ro rn rc))
       have hPz := Lib.hid (hP.out.box v7.out (.bool rb) (.slice ro rn rc)); have hUz := Lib.hid (hU.box v7.out (.bool rb) (.slice ro rn rc))
       have d0 := z6.c0; have d1 := z6.c1; have d2 := z7.c0; have d3 := z7.c1
       have y6 := Lib.hid z6; have y7 := Lib.hid z7
       clear hb z6 z7 hU v6 v7 v4
       by_cases ht : 32 < tn
       ·have hv : Hid (powR m 1 x = none) := Lib.hid (by rw [← hrl.out]; exact powR_odd_great h0 hodd (hPz.out.len_ge ht))
        have hti : decide ((32 : Int) < (tn : Int)) = true := decide_eq_true (by omega)
        have z9 := z4.out.set (.bool false) (.slice none 0 0)
        have r1 := z4.out.c0; have r2 := z4.out.c1; have r3 := z4.out.fr 0; have r4 := z4.out.fr 1
        have e0 := z9.c0; have e1 := z9.c1
        have hbl := Lib.hid (below_set bbz.out (Nat.le_succ _) (.bool false) (.slice none 0 0))
        clear z9
        go_wp2_with fail
        refine bodyPost_ret (v := .tuple #[.agg #[.bool false, .slice none 0 0], .int .i64 7]) (by simp [results, Tryz.results129, go_sem, e0, e1]) rfl ?_
        exact PowPost.none rfl hv.out hbl.out
       have htl := Lib.hid (hPz.out.len_lt (Nat.le_of_not_lt ht))
       have hti : decide ((32 : Int) < (tn : Int)) = false := decide_eq_false (by omega)
       have hst : Hid (powR (m' / 2) (p * s) (s * s) = powR m 1 x) := Lib.hid (by rw [← powR_odd h0 hodd hsl.out htl.out]; exact hrl.out)
       by_cases hu : 32 < rn
       ·have hv : Hid (powR m 1 x = none) := Lib.hid (by rw [← hst.out]; exact powR_great (by omega) (hUz.out.len_ge hu))
        have hui : decide ((32 : Int) < (rn : Int)) = true := decide_eq_true (by omega)
        have z9 := z4.out.set (.bool false) (.slice none 0 0)
        have r1 := z4.out.c0; have r2 := z4.out.c1; have r3 := z4.out.fr 0; have r4 := z4.out.fr 1
        have e0 := z9.c0; have e1 := z9.c1
        have hbl := Lib.hid (below_set bbz.out (Nat.le_succ _) (.bool false) (.slice none 0 0))
        clear z9
        go_wp2_with fail
        refine bodyPost_ret (v := .tuple #[.agg #[.bool false, .slice none 0 0], .int .i64 7]) (by simp [results, Tryz.results129, go_sem, e0, e1]) rfl ?_
        exact PowPost.none rfl hv.out hbl.out
       have hul := Lib.hid (hUz.out.len_lt (Nat.le_of_not_lt hu))
       have hui : decide ((32 : Int) < (rn : Int)) = false := decide_eq_false (by omega)
       go_wp2_with fail
       go_roundw
       case rel => exact ⟨m' / 2, _, _, _, _, _, _, _, _, p * s, s * s, int_eq (by omega), by omega, y6.out, y7.out, z4.out, hPz.out, hUz.out, bbz.out, mul_self_abs hsl.out, fun _ => hul.out, htl.out, hst.out⟩
       case measure => simp [intOf]; omega
     ·have hoi : ¬ ((m' : Int) % 2 = 1) := by omega
      have hm2 : 0 < m' / 2 := by omega
      have hm2i : (0 : Int) < (m' : Int) / 2 := by omega
      go_wp2_with fail
      refine (rMul_any sb sb so so sn sc sn sc s s _ (hS.out.whole hs64.out (by omega)) (hS.out.whole hs64.out (by omega)) 64 (by omega) hs64.out hs64.out).mono ?_
      rintro e w5 ⟨rb, ro, rn, rc, rfl, hU, hb⟩
      have v6 := Lib.hid (bp.out.later hb); have v7 := Lib.hid (bs.out.later hb); have v4 := Lib.hid (b4.out.later hb); have bb := Lib.hid (below_then bb.out (Nat.le_refl _) hb); have hP := Lib.hid (hP.out.below hb)
      have u1 := v7.out.c0; have u2 := v7.out.c1; have u3 := v7.out.fr 0; have u4 := v7.out.fr 1
      have z6 := v6.out.other hPQ (.bool rb) (.slice ro rn rc); have z7 := v7.out.set (.bool rb) (.slice ro rn rc); have z4 := Lib.hid (v4.out.other n2 (.bool rb) (.slice ro rn rc))
      have bbz := Lib.hid (below_set bb.out gQ (.bool rb) (.slice ro rn rc))
      have hPz := Lib.hid (hP.out.box v7.out (.bool rb) (.slice ro rn rc)); have hUz := Lib.hid (hU.box v7.out (.bool rb) (.slice ro rn rc))
      clear c0 c1 c2 c3
      have d0 := z6.c0; have d1 := z6.c1; have d2 := z7.c0; have d3 := z7.c1
      have y6 := Lib.hid z6; have y7 := Lib.hid z7
      clear hb z6 z7 hU v6 v7 v4
      have htl := Lib.hid hp32.out
      have hti : decide ((32 : Int) < (pn : Int)) = false := decide_eq_false (by have := pn32.out; omega)
      have hst : Hid (powR (m' / 2) (p) (s * s) = powR m 1 x) := Lib.hid (by rw [← powR_even h0 hodd hsl.out htl.out]; exact hrl.out)
      by_cases hu : 32 < rn
      ·have hv : Hid (powR m 1 x = none) := Lib.hid (by rw [← hst.out]; exact powR_great (by omega) (hUz.out.len_ge hu))
       have hui : decide ((32 : Int) < (rn : Int)) = true := decide_eq_true (by omega)
       have z9 := z4.out.set (.bool false) (.slice none 0 0)
       have r1 := z4.out.c0; have r2 := z4.out.c1; have r3 := z4.out.fr 0; have r4 := z4.out.fr 1
       have e0 := z9.c0; have e1 := z9.c1
       have hbl := Lib.hid (below_set bbz.out (Nat.le_succ _) (.bool false) (.slice none 0 0))
       clear z9
       go_wp2_with fail
       refine bodyPost_ret (v := .tuple #[.agg #[.bool false, .slice none 0 0], .int .i64 7]) (by simp [results, Tryz.results129, go_sem, e0, e1]) rfl ?_
       exact PowPost.none rfl hv.out hbl.out
      have hul := Lib.hid (hUz.out.len_lt (Nat.le_of_not_lt hu))
      have hui : decide ((32 : Int) < (rn : Int)) = false := decide_eq_false (by omega)
      go_wp2_with fail
      go_roundw
      case rel => exact ⟨m' / 2, _, _, _, _, _, _, _, _, p, s * s, int_eq (by omega), by omega, y6.out, y7.out, z4.out, hPz.out, hUz.out, bbz.out, mul_self_abs hsl.out, fun _ => hul.out, htl.out, hst.out⟩
      case measure => simp [intOf]; omega
end Go.Proofs.YtaepelipkkmeaaaGreat
namespace Go.Proofs.YtaepelipkkmeaaaGreat
open Go.RowKit Num
attribute [local go_sem ↓] Go.wp_at_zero Go.wp_at_succ
theorem rPow4_any (ab : Bool) (ap aq : Option Addr) (an ac am ae : Nat) (P : Int) (Q : Nat) (n : Int) (w : World) (Ra : Rt w ab ap an ac aq am ae P Q) (la : Low P Q) (n0 : -9223372036854775808 ≤ n) (n1 : n ≤ 9223372036854775807) :
  Calls Tryz.prog 75 #[.agg #[.bool ab, .slice ap an ac, .slice aq am ae], .int .i64 n] w (NumPowPost P Q n w) := by
 replace n0 := Lib.hid n0; replace n1 := Lib.hid n1
 replace Ra := Lib.hid Ra; replace la := Lib.hid la
 go_enter Tryz.func75, Tryz.ntmps75
 go_upto_region 1 with fail
 refine gen_wp (fun w' => Below w.heap.size w w' ∧ Box3 w' w.heap.size (.bool ab) (.slice ap an ac) (.slice aq am ae) ∧ Box3 w' (w.heap.size + 1) (.bool false) (.slice none 0 0) (.slice none 0 0))
  ⟨(((Below.refl _ _).alloc (Nat.le_refl _) _).alloc (by simp <;> omega) _), ((Box3.new _ _ _ _ rfl).alloc _), (Box3.new _ _ _ _ (by simp <;> omega))⟩ ?_
 rintro u0 ⟨bb, Xa, X2⟩
 replace Ra := Ra.out.below bb
 replace bb := Lib.hid bb; replace Xa := Lib.hid Xa; replace X2 := Lib.hid X2; replace Ra := Lib.hid Ra
 replace bb := bb.out; replace Xa := Xa.out; replace X2 := X2.out; replace Ra := Ra.out
 go_cut [6, 7] from 16 to 58 (fun s t wx => ∃ Y Z yb yo yn yc zb zo zn zc, s = .pointer (some ⟨Y, 0, none⟩) ∧ t = .pointer (some ⟨Z, 0, none⟩) ∧ Box wx Y (.bool yb) (.slice yo yn yc) ∧ Box wx Z (.bool zb) (.slice zo zn zc) ∧ Box3 wx w.heap.size (.bool ab) (.slice ap an ac) (.slice aq am ae) ∧ Box3 wx (w.heap.size + 1) (.bool false) (.slice none 0 0) (.slice none 0 0) ∧ Rt wx ab ap an ac aq am ae P Q ∧ Whole wx yb yo yn yc P ∧ Whole wx zb zo zn zc Q ∧ Below w.heap.size w wx ∧ w.heap.size + 1 < Y ∧ w.heap.size + 1 < Z ∧ Y ≠ Z)
 case first =>
  have lXa := Xa.lt
  have lX2 := X2.lt
  have bs := bb.size
  have sb0 := True.intro
  go_region_held3 (fun w' => w'.cell? ⟨w.heap.size, 0, none⟩ = some (.bool ab) ∧ w'.cell? ⟨w.heap.size, 1, none⟩ = some (.slice ap an ac) ∧ w'.cell? ⟨w.heap.size, 2, none⟩ = some (.slice aq am ae))
   (first | with_reducible exact ⟨(Xa.drew).c0, (Xa.drew).c1, (Xa.drew).c2⟩ | with_reducible exact ⟨((Xa.alloc _).drew).c0, ((Xa.alloc _).drew).c1, ((Xa.alloc _).drew).c2⟩ | with_reducible exact ⟨(((Xa.alloc _).alloc _).drew).c0, (((Xa.alloc _).alloc _).drew).c1, (((Xa.alloc _).alloc _).drew).c2⟩ | with_reducible exact ⟨Xa.c0, Xa.c1, Xa.c2⟩ | with_reducible exact ⟨(Xa.alloc _).c0, (Xa.alloc _).c1, (Xa.alloc _).c2⟩ | with_reducible exact ⟨((Xa.alloc _).alloc _).c0, ((Xa.alloc _).alloc _).c1, ((Xa.alloc _).alloc _).c2⟩ | with_reducible exact ⟨(Xa.other (by omega) _ _).c0, (Xa.other (by omega) _ _).c1, (Xa.other (by omega) _ _).c2⟩ | with_reducible exact ⟨((Xa.other (by omega) _ _).alloc _).c0, ((Xa.other (by omega) _ _).alloc _).c1, ((Xa.other (by omega) _ _).alloc _).c2⟩ | with_reducible exact ⟨((Xa.other (by omega) _ _).other (by omega) _ _).c0, ((Xa.other (by omega) _ _).other (by omega) _ _).c1, ((Xa.other (by omega) _ _).other (by omega) _ _).c2⟩ | go_keep)
   (first
   | (go_at_call 41; clear sb0; refine (rTop_any ab ap aq an ac am ae P _ ?_).mono ?_; (first | with_reducible exact ((Ra.drew)).upper la.out | with_reducible exact (((Ra.alloc _).drew)).upper la.out | with_reducible exact ((((Ra.alloc _).alloc _).drew)).upper la.out); rintro e u1 ⟨yb, yo, yn, yc, rfl, h1, hb⟩; have hc : Below u0.heap.size u0 u1 := (by first | exact (Below.refl _ _).drew.trans hb | exact ((Below.refl _ _).alloc (by first | exact Nat.le_refl _ | (simp; done) | (simp; omega)) _).drew.trans (hb.mono (by simp <;> omega)) | exact (((Below.refl _ _).alloc (by first | exact Nat.le_refl _ | (simp; done) | (simp; omega)) _).alloc (by first | exact Nat.le_refl _ | (simp; done) | (simp; omega)) _).drew.trans (hb.mono (by simp <;> omega))); have hz0 := hc.size; have Xa := Xa.later hc; have X2 := X2.later hc; have Ra := Ra.below hc; have bb := below_then bb (Nat.le_refl _) hc; (first | (with_reducible have mm := made2' hb; obtain ⟨m10, m11⟩ := mm) | (with_reducible have m10 := made1' hb) | skip); (try have k10 := m10.lt); (try have k11 := m11.lt); clear hb hc; have sb1 := True.intro)
   | (go_at_call 43; clear sb1; refine (rBot_any ab ap aq an ac am ae Q _ ?_).mono ?_; (first | with_reducible exact (Ra).lower la.out | with_reducible exact ((Ra.alloc _)).lower la.out | with_reducible exact (((Ra.alloc _).alloc _)).lower la.out); rintro e u2 ⟨zb, zo, zn, zc, rfl, h2, hb⟩; have hc : Below u1.heap.size u1 u2 := (by first | with_reducible exact hb | exact ((Below.refl _ _).alloc (by first | exact Nat.le_refl _ | (simp; done) | (simp; omega)) _).trans (hb.mono (by simp <;> omega)) | exact (((Below.refl _ _).alloc (by first | exact Nat.le_refl _ | (simp; done) | (simp; omega)) _).alloc (by first | exact Nat.le_refl _ | (simp; done) | (simp; omega)) _).trans (hb.mono (by simp <;> omega))); have hz1 := hc.size; have Xa := Xa.later hc; have X2 := X2.later hc; have Ra := Ra.below hc; have h1 := h1.below hc; have bb := below_then bb (Nat.le_refl _) hc; (try have m10 := m10.later hc); (try have m11 := m11.later hc); (first | (with_reducible have mm := made2 hb; obtain ⟨m20, m21⟩ := mm) | (with_reducible have m20 := made1 hb) | skip); (try have k10 := m10.lt); (try have k11 := m11.lt); (try have k20 := m20.lt); (try have k21 := m21.lt); (try (have f100 := m10.c0; have f101 := m10.c1; have f102 := m10.fr 0; have f103 := m10.fr 1)); (try (have f110 := m11.c0; have f111 := m11.c1; have f112 := m11.fr 0; have f113 := m11.fr 1)); (try (have f200 := m20.c0; have f201 := m20.c1; have f202 := m20.fr 0; have f203 := m20.fr 1)); (try (have f210 := m21.c0; have f211 := m21.c1; have f212 := m21.fr 0; have f213 := m21.fr 1)); clear hb hc; have sb2 := True.intro))
  ·go_wp2_with fail; go_meet; exact ⟨_, _, yb, yo, yn, yc, zb, zo, zn, zc, rfl, rfl, ((Box.new _ _ _ (by first | (simp; done) | rfl)).alloc _), (Box.new _ _ _ (by first | (simp; done) | rfl)), ((Xa.alloc _).alloc _), ((X2.alloc _).alloc _), ((Ra.alloc _).alloc _), (((h1.alloc _).alloc _)).whole32 la.out.abs_lt, (((h2.alloc _).alloc _)).whole32 la.out.bot_lt, (Below.alloc (Below.alloc bb (by first | omega | simp <;> omega) _) (by first | omega | simp <;> omega) _), (by first | omega | (simp; omega)), (by first | omega | (simp; omega)), (by first | omega | (simp; omega) | simp)⟩
  ·go_wp2_with fail; go_meet; exact ⟨_, _, yb, yo, yn, yc, zb, zo, zn, zc, rfl, rfl, (Box.new _ _ _ (by first | (simp; done) | rfl)), ((Box.new _ _ _ (by first | (simp; done) | rfl)).alloc _), ((Xa.alloc _).alloc _), ((X2.alloc _).alloc _), ((Ra.alloc _).alloc _), (((h1.alloc _).alloc _)).whole32 la.out.abs_lt, (((h2.alloc _).alloc _)).whole32 la.out.bot_lt, (Below.alloc (Below.alloc bb (by first | omega | simp <;> omega) _) (by first | omega | simp <;> omega) _), (by first | omega | (simp; omega)), (by first | omega | (simp; omega)), (by first | omega | (simp; omega) | simp)⟩
  ·go_wp2_with fail; go_meet; exact ⟨_, _, yb, yo, yn, yc, zb, zo, zn, zc, rfl, rfl, ((m20.set _ _).alloc _), (Box.new _ _ _ (by first | (simp; done) | rfl)), ((Xa.other (by omega) _ _).alloc _), ((X2.other (by omega) _ _).alloc _), ((Ra.box m20 _ _).alloc _), (((h1.box m20 _ _).alloc _)).whole32 la.out.abs_lt, (((h2.box m20 _ _).alloc _)).whole32 la.out.bot_lt, (Below.alloc (below_set bb (by omega) _ _) (by first | omega | simp <;> omega) _), (by first | omega | (simp; omega)), (by first | omega | (simp; omega)), (by first | omega | (simp; omega) | simp)⟩
  ·go_wp2_with fail; go_meet; exact ⟨_, _, yb, yo, yn, yc, zb, zo, zn, zc, rfl, rfl, ((m20.set _ _).other (by omega) _ _), ((m21.other (by omega) _ _).set _ _), ((Xa.other (by omega) _ _).other (by omega) _ _), ((X2.other (by omega) _ _).other (by omega) _ _), ((Ra.box m20 _ _).box (m21.other (by omega) _ _) _ _), (((h1.box m20 _ _).box (m21.other (by omega) _ _) _ _)).whole32 la.out.abs_lt, (((h2.box m20 _ _).box (m21.other (by omega) _ _) _ _)).whole32 la.out.bot_lt, (below_set (below_set bb (by omega) _ _) (by omega) _ _), (by first | omega | (simp; omega)), (by first | omega | (simp; omega)), (by first | omega | (simp; omega) | simp)⟩
  ·go_wp2_with fail; go_meet; exact ⟨_, _, yb, yo, yn, yc, zb, zo, zn, zc, rfl, rfl, (Box.new _ _ _ (by first | (simp; done) | rfl)), ((m20.set _ _).alloc _), ((Xa.other (by omega) _ _).alloc _), ((X2.other (by omega) _ _).alloc _), ((Ra.box m20 _ _).alloc _), (((h1.box m20 _ _).alloc _)).whole32 la.out.abs_lt, (((h2.box m20 _ _).alloc _)).whole32 la.out.bot_lt, (Below.alloc (below_set bb (by omega) _ _) (by first | omega | simp <;> omega) _), (by first | omega | (simp; omega)), (by first | omega | (simp; omega)), (by first | omega | (simp; omega) | simp)⟩
  ·go_wp2_with fail; go_meet; exact ⟨_, _, yb, yo, yn, yc, zb, zo, zn, zc, rfl, rfl, ((m21.set _ _).other (by omega) _ _), ((m20.other (by omega) _ _).set _ _), ((Xa.other (by omega) _ _).other (by omega) _ _), ((X2.other (by omega) _ _).other (by omega) _ _), ((Ra.box m21 _ _).box (m20.other (by omega) _ _) _ _), (((h1.box m21 _ _).box (m20.other (by omega) _ _) _ _)).whole32 la.out.abs_lt, (((h2.box m21 _ _).box (m20.other (by omega) _ _) _ _)).whole32 la.out.bot_lt, (below_set (below_set bb (by omega) _ _) (by omega) _ _), (by first | omega | (simp; omega)), (by first | omega | (simp; omega)), (by first | omega | (simp; omega) | simp)⟩
  ·go_wp2_with fail; go_meet; exact ⟨_, _, yb, yo, yn, yc, zb, zo, zn, zc, rfl, rfl, ((m10.set _ _).alloc _), (Box.new _ _ _ (by first | (simp; done) | rfl)), ((Xa.other (by omega) _ _).alloc _), ((X2.other (by omega) _ _).alloc _), ((Ra.box m10 _ _).alloc _), (((h1.box m10 _ _).alloc _)).whole32 la.out.abs_lt, (((h2.box m10 _ _).alloc _)).whole32 la.out.bot_lt, (Below.alloc (below_set bb (by omega) _ _) (by first | omega | simp <;> omega) _), (by first | omega | (simp; omega)), (by first | omega | (simp; omega)), (by first | omega | (simp; omega) | simp)⟩
  ·go_wp2_with fail; go_meet; exact ⟨_, _, yb, yo, yn, yc, zb, zo, zn, zc, rfl, rfl, ((m10.set _ _).other (by omega) _ _), ((m20.other (by omega) _ _).set _ _), ((Xa.other (by omega) _ _).other (by omega) _ _), ((X2.other (by omega) _ _).other (by omega) _ _), ((Ra.box m10 _ _).box (m20.other (by omega) _ _) _ _), (((h1.box m10 _ _).box (m20.other (by omega) _ _) _ _)).whole32 la.out.abs_lt, (((h2.box m10 _ _).box (m20.other (by omega) _ _) _ _)).whole32 la.out.bot_lt, (below_set (below_set bb (by omega) _ _) (by omega) _ _), (by first | omega | (simp; omega)), (by first | omega | (simp; omega)), (by first | omega | (simp; omega) | simp)⟩
  ·go_wp2_with fail; go_meet; exact ⟨_, _, yb, yo, yn, yc, zb, zo, zn, zc, rfl, rfl, ((m10.set _ _).other (by omega) _ _), ((m11.other (by omega) _ _).set _ _), ((Xa.other (by omega) _ _).other (by omega) _ _), ((X2.other (by omega) _ _).other (by omega) _ _), ((Ra.box m10 _ _).box (m11.other (by omega) _ _) _ _), (((h1.box m10 _ _).box (m11.other (by omega) _ _) _ _)).whole32 la.out.abs_lt, (((h2.box m10 _ _).box (m11.other (by omega) _ _) _ _)).whole32 la.out.bot_lt, (below_set (below_set bb (by omega) _ _) (by omega) _ _), (by first | omega | (simp; omega)), (by first | omega | (simp; omega)), (by first | omega | (simp; omega) | simp)⟩
  ·go_wp2_with fail; go_meet; exact ⟨_, _, yb, yo, yn, yc, zb, zo, zn, zc, rfl, rfl, (Box.new _ _ _ (by first | (simp; done) | rfl)), ((m10.set _ _).alloc _), ((Xa.other (by omega) _ _).alloc _), ((X2.other (by omega) _ _).alloc _), ((Ra.box m10 _ _).alloc _), (((h1.box m10 _ _).alloc _)).whole32 la.out.abs_lt, (((h2.box m10 _ _).alloc _)).whole32 la.out.bot_lt, (Below.alloc (below_set bb (by omega) _ _) (by first | omega | simp <;> omega) _), (by first | omega | (simp; omega)), (by first | omega | (simp; omega)), (by first | omega | (simp; omega) | simp)⟩
  ·go_wp2_with fail; go_meet; exact ⟨_, _, yb, yo, yn, yc, zb, zo, zn, zc, rfl, rfl, ((m20.set _ _).other (by omega) _ _), ((m10.other (by omega) _ _).set _ _), ((Xa.other (by omega) _ _).other (by omega) _ _), ((X2.other (by omega) _ _).other (by omega) _ _), ((Ra.box m20 _ _).box (m10.other (by omega) _ _) _ _), (((h1.box m20 _ _).box (m10.other (by omega) _ _) _ _)).whole32 la.out.abs_lt, (((h2.box m20 _ _).box (m10.other (by omega) _ _) _ _)).whole32 la.out.bot_lt, (below_set (below_set bb (by omega) _ _) (by omega) _ _), (by first | omega | (simp; omega)), (by first | omega | (simp; omega)), (by first | omega | (simp; omega) | simp)⟩
  ·go_wp2_with fail; go_meet; exact ⟨_, _, yb, yo, yn, yc, zb, zo, zn, zc, rfl, rfl, ((m11.set _ _).other (by omega) _ _), ((m10.other (by omega) _ _).set _ _), ((Xa.other (by omega) _ _).other (by omega) _ _), ((X2.other (by omega) _ _).other (by omega) _ _), ((Ra.box m11 _ _).box (m10.other (by omega) _ _) _ _), (((h1.box m11 _ _).box (m10.other (by omega) _ _) _ _)).whole32 la.out.abs_lt, (((h2.box m11 _ _).box (m10.other (by omega) _ _) _ _)).whole32 la.out.bot_lt, (below_set (below_set bb (by omega) _ _) (by omega) _ _), (by first | omega | (simp; omega)), (by first | omega | (simp; omega)), (by first | omega | (simp; omega) | simp)⟩
 case rest =>
  obtain ⟨Y, Z, yb, yo, yn, yc, zb, zo, zn, zc, rfl, rfl, XY, XZ, Xa, X2, Ra, WY, WZ, bb, hY, hZ, hYZ⟩ := hcut
  replace bb := Lib.hid bb; replace Xa := Lib.hid Xa; replace X2 := Lib.hid X2; replace XY := Lib.hid XY; replace XZ := Lib.hid XZ; replace Ra := Lib.hid Ra; replace WY := Lib.hid WY; replace WZ := Lib.hid WZ
  by_cases hn : n < 0
  ·have hd : decide (n < 0) = true := decide_eq_true hn
   replace hn := Lib.hid hn
   have gd : Hid (w.heap.size ≠ Y ∧ w.heap.size ≠ Z ∧ w.heap.size + 1 ≠ Y ∧ w.heap.size + 1 ≠ Z ∧ Y ≠ Z ∧ Z ≠ Y ∧ w.heap.size ≤ Y ∧ w.heap.size ≤ Z) := Lib.hid (by omega)
   by_cases h0 : an = 0
   ·have hPn : Hid (P = 0 ∨ n = -9223372036854775808) := Lib.hid (.inl (Ra.out.top.len_zero.1 h0))
    subst h0
    have px := Xa.out.c1
    clear hYZ hY hZ Xa XY XZ Ra WY WZ
    replace X2 := X2.out
    replace bb := bb.out
    have q0 := X2.c0; have q1 := X2.c1; have q2 := X2.c2; have q3 := X2.fr 0; have q4 := X2.fr 1; have q5 := X2.fr 2
    have zz := X2.set (.bool false) (.slice none 0 0) (.slice none 0 0)
    have e0 := zz.c0; have e1 := zz.c1; have e2 := zz.c2
    have Y2 := Lib.hid X2; have bb' := Lib.hid bb
    clear zz X2 bb
    go_wp2_with fail
    refine bodyPost_ret (v := .tuple #[.agg #[.bool false, .slice none 0 0, .slice none 0 0], .int .i64 (3)]) (by simp [results, Tryz.results75, go_sem, e0, e1, e2]) rfl ?_
    exact pow_bad hn.out hPn.out (ResPost.stored (rt_zero _) Y2.out bb'.out (by omega))
   have hP : Hid (P ≠ 0) := Lib.hid (fun e => h0 (Ra.out.top.len_zero.2 e))
   have hd0 : ((an : Int) == 0) = false := by rw [beq_eq_false_iff_ne]; omega
   clear h0
   by_cases hm : n < -9223372036854775807
   ·have hPn : Hid (P = 0 ∨ n = -9223372036854775808) := Lib.hid (.inr (by have := n0.out; omega))
    have hm2 : decide (n < -9223372036854775807) = true := decide_eq_true hm
    have px := Xa.out.c1
    clear hm hYZ hY hZ Xa XY XZ Ra WY WZ
    replace X2 := X2.out
    replace bb := bb.out
    have q0 := X2.c0; have q1 := X2.c1; have q2 := X2.c2; have q3 := X2.fr 0; have q4 := X2.fr 1; have q5 := X2.fr 2
    have zz := X2.set (.bool false) (.slice none 0 0) (.slice none 0 0)
    have e0 := zz.c0; have e1 := zz.c1; have e2 := zz.c2
    have Y2 := Lib.hid X2; have bb' := Lib.hid bb
    clear zz X2 bb
    go_wp2_with fail
    refine bodyPost_ret (v := .tuple #[.agg #[.bool false, .slice none 0 0, .slice none 0 0], .int .i64 (3)]) (by simp [results, Tryz.results75, go_sem, e0, e1, e2]) rfl ?_
    exact pow_bad hn.out hPn.out (ResPost.stored (rt_zero _) Y2.out bb'.out (by omega))
   have hPn : Hid (¬ (P = 0 ∨ n = -9223372036854775808)) := Lib.hid (fun h => h.elim hP.out (fun e => by omega))
   have hm2 : decide (n < -9223372036854775807) = false := decide_eq_false hm
   have hk1 : Hid (-n ≤ 9223372036854775807) := Lib.hid (by omega)
   have hk0 : Hid (-9223372036854775808 ≤ -n) := Lib.hid (by have := n1.out; omega)
   have hw2 : IntKind.i64.wrap (-n) = -n := by have := hn.out; have := hk1.out; simp [IntKind.wrap, IntKind.bits, IntKind.signed]; omega
   have hw1 : wrap64 (-n) = -n := by rw [wrap_is]; exact hw2
   have hw3 : IntKind.i64.wrap (0 - n) = -n := by rw [Int.zero_sub]; exact hw2
   have hw4 : wrap64 (0 - n) = -n := by rw [Int.zero_sub]; exact hw1
   clear hm
   have px := Xa.out.c1
   go_upto_region 5 with fail
   clear px hd0 hm2
   have p00 := Xa.out.c0; have p01 := Xa.out.c1; have p02 := Xa.out.c2
   go_wp2_with fail
   clear p00 p01 p02
   refine (rBot_any ab ap aq an ac am ae Q _ (Ra.out.lower la.out)).mono ?_
   rintro e v21 ⟨fb, fo, fn, fc, rfl, FY, hb⟩
   replace bb := Lib.hid (below_then bb.out (Nat.le_refl _) hb); replace Xa := Lib.hid (Xa.out.later hb); replace X2 := Lib.hid (X2.out.later hb); replace XY := Lib.hid (XY.out.later hb); replace XZ := Lib.hid (XZ.out.later hb); replace Ra := Lib.hid (Ra.out.below hb); replace WY := Lib.hid (WY.out.below hb); replace WZ := Lib.hid (WZ.out.below hb)
   replace FY := Lib.hid FY
   clear hb
   have fY0 := XY.out.fr 0; have fY1 := XY.out.fr 1; have qY0 := XY.out.c0; have qY1 := XY.out.c1
   go_upto_region 6 with fail
   clear fY0 fY1 qY0 qY1
   refine gen_wp (fun w' => Below w.heap.size w w' ∧ Box3 w' w.heap.size (.bool ab) (.slice ap an ac) (.slice aq am ae) ∧ Box3 w' (w.heap.size + 1) (.bool false) (.slice none 0 0) (.slice none 0 0) ∧ Box w' Y (.bool fb) (.slice fo fn fc) ∧ Box w' Z (.bool zb) (.slice zo zn zc) ∧ Rt w' ab ap an ac aq am ae P Q ∧ Whole w' fb fo fn fc Q)
    ⟨below_set bb.out gd.out.2.2.2.2.2.2.1 _ _, Xa.out.other gd.out.1 _ _, X2.out.other gd.out.2.2.1 _ _, XY.out.set _ _, XZ.out.other gd.out.2.2.2.2.2.1 _ _, Ra.out.box XY.out _ _, (FY.out.whole32 la.out.bot_lt).box XY.out _ _⟩ ?_
   clear FY bb Xa X2 XY XZ Ra WY WZ
   rintro x30 ⟨bb, Xa, X2, XY, XZ, Ra, WY⟩
   replace bb := Lib.hid bb; replace Xa := Lib.hid Xa; replace X2 := Lib.hid X2; replace XY := Lib.hid XY; replace XZ := Lib.hid XZ; replace Ra := Lib.hid Ra; replace WY := Lib.hid WY
   have p00 := Xa.out.c0; have p01 := Xa.out.c1; have p02 := Xa.out.c2
   go_wp2_with fail
   clear p00 p01 p02
   refine (rTop_any ab ap aq an ac am ae P _ (Ra.out.upper la.out)).mono ?_
   rintro e v22 ⟨gb, go, gn, gc, rfl, FZ, hb⟩
   replace bb := Lib.hid (below_then bb.out (Nat.le_refl _) hb); replace Xa := Lib.hid (Xa.out.later hb); replace X2 := Lib.hid (X2.out.later hb); replace XY := Lib.hid (XY.out.later hb); replace XZ := Lib.hid (XZ.out.later hb); replace Ra := Lib.hid (Ra.out.below hb); replace WY := Lib.hid (WY.out.below hb)
   replace FZ := Lib.hid FZ
   clear hb
   have fY0 := XZ.out.fr 0; have fY1 := XZ.out.fr 1; have qY0 := XZ.out.c0; have qY1 := XZ.out.c1
   go_upto_region 7 with fail
   clear fY0 fY1 qY0 qY1
   refine gen_wp (fun w' => Below w.heap.size w w' ∧ Box3 w' w.heap.size (.bool ab) (.slice ap an ac) (.slice aq am ae) ∧ Box3 w' (w.heap.size + 1) (.bool false) (.slice none 0 0) (.slice none 0 0) ∧ Box w' Y (.bool fb) (.slice fo fn fc) ∧ Box w' Z (.bool gb) (.slice go gn gc) ∧ Rt w' ab ap an ac aq am ae P Q ∧ Whole w' fb fo fn fc Q ∧ Whole w' gb go gn gc P)
    ⟨below_set bb.out gd.out.2.2.2.2.2.2.2 _ _, Xa.out.other gd.out.2.1 _ _, X2.out.other gd.out.2.2.2.1 _ _, XY.out.other gd.out.2.2.2.2.1 _ _, XZ.out.set _ _, Ra.out.box XZ.out _ _, WY.out.box XZ.out _ _, (FZ.out.whole32 la.out.abs_lt).box XZ.out _ _⟩ ?_
   clear FZ bb Xa X2 XY XZ Ra WY
   rintro x31 ⟨bb, Xa, X2, XY, XZ, Ra, WY, WZ⟩
   replace bb := Lib.hid bb; replace Xa := Lib.hid Xa; replace X2 := Lib.hid X2; replace XY := Lib.hid XY; replace XZ := Lib.hid XZ; replace Ra := Lib.hid Ra; replace WY := Lib.hid WY; replace WZ := Lib.hid WZ
   go_upto_region 8 with fail
   clear hd
   obtain ⟨E1, hE1⟩ : ∃ E1, Hid (powE (-n) ((Q : Int)) = E1) := ⟨_, Lib.hid rfl⟩
   obtain ⟨E2, hE2⟩ : ∃ E2, Hid (powE (-n) (P) = E2) := ⟨_, Lib.hid rfl⟩
   have p00 := XY.out.c0; have p01 := XY.out.c1
   go_wp2_with fail
   clear p00 p01
   refine ((rPow_any fb fo fn fc ((Q : Int)) (-n) _ WY.out (grow_64 la.out.bot_lt) hk0.out hk1.out).mono fun _ _ => pow_split hE1.out).mono ?_
   rintro e v23 ⟨db, do_, dn, dc, rfl, D, hb⟩
   replace bb := Lib.hid (below_then bb.out (Nat.le_refl _) hb); replace Xa := Lib.hid (Xa.out.later hb); replace X2 := Lib.hid (X2.out.later hb); replace XY := Lib.hid (XY.out.later hb); replace XZ := Lib.hid (XZ.out.later hb); replace Ra := Lib.hid (Ra.out.below hb); replace WY := Lib.hid (WY.out.below hb); replace WZ := Lib.hid (WZ.out.below hb)
   by_cases h1 : E1 = 0
   ·subst h1
    replace D := Lib.hid D
    clear hb
    go_upto_region 9 with fail
    refine gen_wp (fun w' => Below w.heap.size w w' ∧ Box3 w' w.heap.size (.bool ab) (.slice ap an ac) (.slice aq am ae) ∧ Box3 w' (w.heap.size + 1) (.bool false) (.slice none 0 0) (.slice none 0 0) ∧ Box w' Y (.bool fb) (.slice fo fn fc) ∧ Box w' Z (.bool gb) (.slice go gn gc) ∧ Box w' v23.heap.size (.bool db) (.slice do_ dn dc) ∧ Rt w' ab ap an ac aq am ae P Q ∧ Whole w' fb fo fn fc Q ∧ Whole w' gb go gn gc P ∧ Right w' db do_ dn dc (powV (-n) ((Q : Int))))
     ⟨bb.out.alloc bb.out.size _, Xa.out.alloc _, X2.out.alloc _, XY.out.alloc _, XZ.out.alloc _, Box.new _ _ _ rfl, Ra.out.alloc _, WY.out.alloc _, WZ.out.alloc _, D.out.alloc _⟩ ?_
    clear bb Xa X2 XY XZ Ra WY WZ D
    rintro x23 ⟨bb, Xa, X2, XY, XZ, Xd, Ra, WY, WZ, D⟩
    replace bb := Lib.hid bb; replace Xa := Lib.hid Xa; replace X2 := Lib.hid X2; replace XY := Lib.hid XY; replace XZ := Lib.hid XZ; replace Xd := Lib.hid Xd; replace Ra := Lib.hid Ra; replace WY := Lib.hid WY; replace WZ := Lib.hid WZ; replace D := Lib.hid D
    go_upto_region 11 with fail
    have p00 := XZ.out.c0; have p01 := XZ.out.c1
    go_wp2_with fail
    clear p00 p01
    refine ((rPow_any gb go gn gc (P) (-n) _ WZ.out (grow_64 la.out.abs_lt) hk0.out hk1.out).mono fun _ _ => pow_split hE2.out).mono ?_
    rintro e v24 ⟨eb, eo, en, ec, rfl, E, hb⟩
    replace bb := Lib.hid (below_then bb.out (Nat.le_refl _) hb); replace Xa := Lib.hid (Xa.out.later hb); replace X2 := Lib.hid (X2.out.later hb); replace XY := Lib.hid (XY.out.later hb); replace XZ := Lib.hid (XZ.out.later hb); replace Xd := Lib.hid (Xd.out.later hb); replace Ra := Lib.hid (Ra.out.below hb); replace WY := Lib.hid (WY.out.below hb); replace WZ := Lib.hid (WZ.out.below hb); replace D := Lib.hid (D.out.below hb)
    by_cases h2 : E2 = 0
    ·subst h2
     replace E := Lib.hid E
     clear hb
     go_upto_region 12 with fail
     refine gen_wp (fun w' => Below w.heap.size w w' ∧ Box3 w' w.heap.size (.bool ab) (.slice ap an ac) (.slice aq am ae) ∧ Box3 w' (w.heap.size + 1) (.bool false) (.slice none 0 0) (.slice none 0 0) ∧ Box w' Y (.bool fb) (.slice fo fn fc) ∧ Box w' Z (.bool gb) (.slice go gn gc) ∧ Box w' v23.heap.size (.bool db) (.slice do_ dn dc) ∧ Box w' v24.heap.size (.bool eb) (.slice eo en ec) ∧ Rt w' ab ap an ac aq am ae P Q ∧ Whole w' fb fo fn fc Q ∧ Whole w' gb go gn gc P ∧ Right w' db do_ dn dc (powV (-n) ((Q : Int))) ∧ Right w' eb eo en ec (powV (-n) (P)))
      ⟨bb.out.alloc bb.out.size _, Xa.out.alloc _, X2.out.alloc _, XY.out.alloc _, XZ.out.alloc _, Xd.out.alloc _, Box.new _ _ _ rfl, Ra.out.alloc _, WY.out.alloc _, WZ.out.alloc _, D.out.alloc _, E.out.alloc _⟩ ?_
     clear bb Xa X2 XY XZ Xd Ra WY WZ D E
     rintro x24 ⟨bb, Xa, X2, XY, XZ, Xd, Xe, Ra, WY, WZ, D, E⟩
     replace bb := Lib.hid bb; replace Xa := Lib.hid Xa; replace X2 := Lib.hid X2; replace XY := Lib.hid XY; replace XZ := Lib.hid XZ; replace Xd := Lib.hid Xd; replace Xe := Lib.hid Xe; replace Ra := Lib.hid Ra; replace WY := Lib.hid WY; replace WZ := Lib.hid WZ; replace D := Lib.hid D; replace E := Lib.hid E
     go_upto_region 14 with fail
     have p00 := Xd.out.c0; have p01 := Xd.out.c1; have p10 := Xe.out.c0; have p11 := Xe.out.c1
     go_wp2_with fail
     clear p00 p01 p10 p11
     refine (rMake_any db eb do_ eo dn dc en ec (powV (-n) ((Q : Int))) (powV (-n) (P)) _ (D.out.whole32 (powV_lt (-n) ((Q : Int)))) (E.out.whole32 (powV_lt (-n) (P))) 32 (by omega) (powV_lt (-n) ((Q : Int))) (powV_lt (-n) (P))).mono ?_
     rintro e v25 ⟨zb, zp, zn, zc, zq, zm, ze, rfl, N, hb⟩
     replace bb := Lib.hid (below_then bb.out (Nat.le_refl _) hb); replace Xa := Lib.hid (Xa.out.later hb); replace X2 := Lib.hid (X2.out.later hb); replace XY := Lib.hid (XY.out.later hb); replace XZ := Lib.hid (XZ.out.later hb); replace Xd := Lib.hid (Xd.out.later hb); replace Xe := Lib.hid (Xe.out.later hb); replace Ra := Lib.hid (Ra.out.below hb); replace WY := Lib.hid (WY.out.below hb); replace WZ := Lib.hid (WZ.out.below hb); replace D := Lib.hid (D.out.below hb); replace E := Lib.hid (E.out.below hb)
     replace N := Lib.hid N
     clear hb Xa XY XZ Xd Xe Ra WY WZ D E
     replace X2 := X2.out
     replace bb := bb.out
     have q0 := X2.c0; have q1 := X2.c1; have q2 := X2.c2; have q3 := X2.fr 0; have q4 := X2.fr 1; have q5 := X2.fr 2
     have zz := X2.set (.bool zb) (.slice zp zn zc) (.slice zq zm ze)
     have e0 := zz.c0; have e1 := zz.c1; have e2 := zz.c2
     have Y2 := Lib.hid X2; have bb' := Lib.hid bb
     clear zz X2 bb
     go_wp2_with fail
     refine bodyPost_ret (v := .tuple #[.agg #[.bool zb, .slice zp zn zc, .slice zq zm ze], .int .i64 (mkE (powV (-n) ((Q : Int))) (powV (-n) (P)))]) (by simp [results, Tryz.results75, go_sem, e0, e1, e2]) rfl ?_
     exact pow_neg hn.out hPn.out (pw_ok hE1.out hE2.out (ResPost.stored N.out Y2.out bb'.out (by omega)))
    ·replace h2 := Lib.hid h2
     replace E := Lib.hid E
     clear hb
     go_upto_region 12 with fail
     refine gen_wp (fun w' => Below w.heap.size w w' ∧ Box3 w' w.heap.size (.bool ab) (.slice ap an ac) (.slice aq am ae) ∧ Box3 w' (w.heap.size + 1) (.bool false) (.slice none 0 0) (.slice none 0 0) ∧ Box w' Y (.bool fb) (.slice fo fn fc) ∧ Box w' Z (.bool gb) (.slice go gn gc) ∧ Box w' v23.heap.size (.bool db) (.slice do_ dn dc) ∧ Box w' v24.heap.size (.bool eb) (.slice eo en ec) ∧ Rt w' ab ap an ac aq am ae P Q ∧ Whole w' fb fo fn fc Q ∧ Whole w' gb go gn gc P ∧ Right w' db do_ dn dc (powV (-n) ((Q : Int))) ∧ Right w' eb eo en ec (powV (-n) (P)))
      ⟨bb.out.alloc bb.out.size _, Xa.out.alloc _, X2.out.alloc _, XY.out.alloc _, XZ.out.alloc _, Xd.out.alloc _, Box.new _ _ _ rfl, Ra.out.alloc _, WY.out.alloc _, WZ.out.alloc _, D.out.alloc _, E.out.alloc _⟩ ?_
     clear bb Xa X2 XY XZ Xd Ra WY WZ D E
     rintro x24 ⟨bb, Xa, X2, XY, XZ, Xd, Xe, Ra, WY, WZ, D, E⟩
     replace bb := Lib.hid bb; replace Xa := Lib.hid Xa; replace X2 := Lib.hid X2; replace XY := Lib.hid XY; replace XZ := Lib.hid XZ; replace Xd := Lib.hid Xd; replace Xe := Lib.hid Xe; replace Ra := Lib.hid Ra; replace WY := Lib.hid WY; replace WZ := Lib.hid WZ; replace D := Lib.hid D; replace E := Lib.hid E
     have hz := h2.out
     clear Xa XY XZ Xd Xe Ra WY WZ D E
     replace X2 := X2.out
     replace bb := bb.out
     have q0 := X2.c0; have q1 := X2.c1; have q2 := X2.c2; have q3 := X2.fr 0; have q4 := X2.fr 1; have q5 := X2.fr 2
     have zz := X2.set (.bool false) (.slice none 0 0) (.slice none 0 0)
     have e0 := zz.c0; have e1 := zz.c1; have e2 := zz.c2
     have Y2 := Lib.hid X2; have bb' := Lib.hid bb
     clear zz X2 bb
     go_wp2_with fail
     refine bodyPost_ret (v := .tuple #[.agg #[.bool false, .slice none 0 0, .slice none 0 0], .int .i64 (E2)]) (by simp [results, Tryz.results75, go_sem, e0, e1, e2]) rfl ?_
     exact pow_neg hn.out hPn.out (pw_two hE1.out hE2.out h2.out (ResPost.stored (rt_zero _) Y2.out bb'.out (by omega)))
   ·replace h1 := Lib.hid h1
    replace D := Lib.hid D
    clear hb
    go_upto_region 9 with fail
    refine gen_wp (fun w' => Below w.heap.size w w' ∧ Box3 w' w.heap.size (.bool ab) (.slice ap an ac) (.slice aq am ae) ∧ Box3 w' (w.heap.size + 1) (.bool false) (.slice none 0 0) (.slice none 0 0) ∧ Box w' Y (.bool fb) (.slice fo fn fc) ∧ Box w' Z (.bool gb) (.slice go gn gc) ∧ Box w' v23.heap.size (.bool db) (.slice do_ dn dc) ∧ Rt w' ab ap an ac aq am ae P Q ∧ Whole w' fb fo fn fc Q ∧ Whole w' gb go gn gc P ∧ Right w' db do_ dn dc (powV (-n) ((Q : Int))))
     ⟨bb.out.alloc bb.out.size _, Xa.out.alloc _, X2.out.alloc _, XY.out.alloc _, XZ.out.alloc _, Box.new _ _ _ rfl, Ra.out.alloc _, WY.out.alloc _, WZ.out.alloc _, D.out.alloc _⟩ ?_
    clear bb Xa X2 XY XZ Ra WY WZ D
    rintro x23 ⟨bb, Xa, X2, XY, XZ, Xd, Ra, WY, WZ, D⟩
    replace bb := Lib.hid bb; replace Xa := Lib.hid Xa; replace X2 := Lib.hid X2; replace XY := Lib.hid XY; replace XZ := Lib.hid XZ; replace Xd := Lib.hid Xd; replace Ra := Lib.hid Ra; replace WY := Lib.hid WY; replace WZ := Lib.hid WZ; replace D := Lib.hid D
    have hz := h1.out
    clear Xa XY XZ Xd Ra WY WZ D
    replace X2 := X2.out
    replace bb := bb.out
    have q0 := X2.c0; have q1 := X2.c1; have q2 := X2.c2; have q3 := X2.fr 0; have q4 := X2.fr 1; have q5 := X2.fr 2
    have zz := X2.set (.bool false) (.slice none 0 0) (.slice none 0 0)
    have e0 := zz.c0; have e1 := zz.c1; have e2 := zz.c2
    have Y2 := Lib.hid X2; have bb' := Lib.hid bb
    clear zz X2 bb
    go_wp2_with fail
    refine bodyPost_ret (v := .tuple #[.agg #[.bool false, .slice none 0 0, .slice none 0 0], .int .i64 (E1)]) (by simp [results, Tryz.results75, go_sem, e0, e1, e2]) rfl ?_
    exact pow_neg hn.out hPn.out (pw_one hE1.out h1.out (ResPost.stored (rt_zero _) Y2.out bb'.out (by omega)))
  ·have hd : decide (n < 0) = false := decide_eq_false hn
   replace hn := Lib.hid hn
   go_upto_region 8 with fail
   clear hd
   obtain ⟨E1, hE1⟩ : ∃ E1, Hid (powE (n) (P) = E1) := ⟨_, Lib.hid rfl⟩
   obtain ⟨E2, hE2⟩ : ∃ E2, Hid (powE (n) ((Q : Int)) = E2) := ⟨_, Lib.hid rfl⟩
   have p00 := XY.out.c0; have p01 := XY.out.c1
   go_wp2_with fail
   clear p00 p01
   refine ((rPow_any yb yo yn yc (P) (n) _ WY.out (grow_64 la.out.abs_lt) n0.out n1.out).mono fun _ _ => pow_split hE1.out).mono ?_
   rintro e v21 ⟨db, do_, dn, dc, rfl, D, hb⟩
   replace bb := Lib.hid (below_then bb.out (Nat.le_refl _) hb); replace Xa := Lib.hid (Xa.out.later hb); replace X2 := Lib.hid (X2.out.later hb); replace XY := Lib.hid (XY.out.later hb); replace XZ := Lib.hid (XZ.out.later hb); replace Ra := Lib.hid (Ra.out.below hb); replace WY := Lib.hid (WY.out.below hb); replace WZ := Lib.hid (WZ.out.below hb)
   by_cases h1 : E1 = 0
   ·subst h1
    replace D := Lib.hid D
    clear hb
    go_upto_region 9 with fail
    refine gen_wp (fun w' => Below w.heap.size w w' ∧ Box3 w' w.heap.size (.bool ab) (.slice ap an ac) (.slice aq am ae) ∧ Box3 w' (w.heap.size + 1) (.bool false) (.slice none 0 0) (.slice none 0 0) ∧ Box w' Y (.bool yb) (.slice yo yn yc) ∧ Box w' Z (.bool zb) (.slice zo zn zc) ∧ Box w' v21.heap.size (.bool db) (.slice do_ dn dc) ∧ Rt w' ab ap an ac aq am ae P Q ∧ Whole w' yb yo yn yc P ∧ Whole w' zb zo zn zc Q ∧ Right w' db do_ dn dc (powV (n) (P)))
     ⟨bb.out.alloc bb.out.size _, Xa.out.alloc _, X2.out.alloc _, XY.out.alloc _, XZ.out.alloc _, Box.new _ _ _ rfl, Ra.out.alloc _, WY.out.alloc _, WZ.out.alloc _, D.out.alloc _⟩ ?_
    clear bb Xa X2 XY XZ Ra WY WZ D
    rintro x21 ⟨bb, Xa, X2, XY, XZ, Xd, Ra, WY, WZ, D⟩
    replace bb := Lib.hid bb; replace Xa := Lib.hid Xa; replace X2 := Lib.hid X2; replace XY := Lib.hid XY; replace XZ := Lib.hid XZ; replace Xd := Lib.hid Xd; replace Ra := Lib.hid Ra; replace WY := Lib.hid WY; replace WZ := Lib.hid WZ; replace D := Lib.hid D
    go_upto_region 11 with fail
    have p00 := XZ.out.c0; have p01 := XZ.out.c1
    go_wp2_with fail
    clear p00 p01
    refine ((rPow_any zb zo zn zc ((Q : Int)) (n) _ WZ.out (grow_64 la.out.bot_lt) n0.out n1.out).mono fun _ _ => pow_split hE2.out).mono ?_
    rintro e v22 ⟨eb, eo, en, ec, rfl, E, hb⟩
    replace bb := Lib.hid (below_then bb.out (Nat.le_refl _) hb); replace Xa := Lib.hid (Xa.out.later hb); replace X2 := Lib.hid (X2.out.later hb); replace XY := Lib.hid (XY.out.later hb); replace XZ := Lib.hid (XZ.out.later hb); replace Xd := Lib.hid (Xd.out.later hb); replace Ra := Lib.hid (Ra.out.below hb); replace WY := Lib.hid (WY.out.below hb); replace WZ := Lib.hid (WZ.out.below hb); replace D := Lib.hid (D.out.below hb)
    by_cases h2 : E2 = 0
    ·subst h2
     replace E := Lib.hid E
     clear hb
     go_upto_region 12 with fail
     refine gen_wp (fun w' => Below w.heap.size w w' ∧ Box3 w' w.heap.size (.bool ab) (.slice ap an ac) (.slice aq am ae) ∧ Box3 w' (w.heap.size + 1) (.bool false) (.slice none 0 0) (.slice none 0 0) ∧ Box w' Y (.bool yb) (.slice yo yn yc) ∧ Box w' Z (.bool zb) (.slice zo zn zc) ∧ Box w' v21.heap.size (.bool db) (.slice do_ dn dc) ∧ Box w' v22.heap.size (.bool eb) (.slice eo en ec) ∧ Rt w' ab ap an ac aq am ae P Q ∧ Whole w' yb yo yn yc P ∧ Whole w' zb zo zn zc Q ∧ Right w' db do_ dn dc (powV (n) (P)) ∧ Right w' eb eo en ec (powV (n) ((Q : Int))))
      ⟨bb.out.alloc bb.out.size _, Xa.out.alloc _, X2.out.alloc _, XY.out.alloc _, XZ.out.alloc _, Xd.out.alloc _, Box.new _ _ _ rfl, Ra.out.alloc _, WY.out.alloc _, WZ.out.alloc _, D.out.alloc _, E.out.alloc _⟩ ?_
     clear bb Xa X2 XY XZ Xd Ra WY WZ D E
     rintro x22 ⟨bb, Xa, X2, XY, XZ, Xd, Xe, Ra, WY, WZ, D, E⟩
     replace bb := Lib.hid bb; replace Xa := Lib.hid Xa; replace X2 := Lib.hid X2; replace XY := Lib.hid XY; replace XZ := Lib.hid XZ; replace Xd := Lib.hid Xd; replace Xe := Lib.hid Xe; replace Ra := Lib.hid Ra; replace WY := Lib.hid WY; replace WZ := Lib.hid WZ; replace D := Lib.hid D; replace E := Lib.hid E
     go_upto_region 14 with fail
     have p00 := Xd.out.c0; have p01 := Xd.out.c1; have p10 := Xe.out.c0; have p11 := Xe.out.c1
     go_wp2_with fail
     clear p00 p01 p10 p11
     refine (rMake_any db eb do_ eo dn dc en ec (powV (n) (P)) (powV (n) ((Q : Int))) _ (D.out.whole32 (powV_lt (n) (P))) (E.out.whole32 (powV_lt (n) ((Q : Int)))) 32 (by omega) (powV_lt (n) (P)) (powV_lt (n) ((Q : Int)))).mono ?_
     rintro e v23 ⟨zb, zp, zn, zc, zq, zm, ze, rfl, N, hb⟩
     replace bb := Lib.hid (below_then bb.out (Nat.le_refl _) hb); replace Xa := Lib.hid (Xa.out.later hb); replace X2 := Lib.hid (X2.out.later hb); replace XY := Lib.hid (XY.out.later hb); replace XZ := Lib.hid (XZ.out.later hb); replace Xd := Lib.hid (Xd.out.later hb); replace Xe := Lib.hid (Xe.out.later hb); replace Ra := Lib.hid (Ra.out.below hb); replace WY := Lib.hid (WY.out.below hb); replace WZ := Lib.hid (WZ.out.below hb); replace D := Lib.hid (D.out.below hb); replace E := Lib.hid (E.out.below hb)
     replace N := Lib.hid N
     clear hb Xa XY XZ Xd Xe Ra WY WZ D E
     replace X2 := X2.out
     replace bb := bb.out
     have q0 := X2.c0; have q1 := X2.c1; have q2 := X2.c2; have q3 := X2.fr 0; have q4 := X2.fr 1; have q5 := X2.fr 2
     have zz := X2.set (.bool zb) (.slice zp zn zc) (.slice zq zm ze)
     have e0 := zz.c0; have e1 := zz.c1; have e2 := zz.c2
     have Y2 := Lib.hid X2; have bb' := Lib.hid bb
     clear zz X2 bb
     go_wp2_with fail
     refine bodyPost_ret (v := .tuple #[.agg #[.bool zb, .slice zp zn zc, .slice zq zm ze], .int .i64 (mkE (powV (n) (P)) (powV (n) ((Q : Int))))]) (by simp [results, Tryz.results75, go_sem, e0, e1, e2]) rfl ?_
     exact pow_pos (by have := hn.out; omega) (pw_ok hE1.out hE2.out (ResPost.stored N.out Y2.out bb'.out (by omega)))
    ·replace h2 := Lib.hid h2
     replace E := Lib.hid E
     clear hb
     go_upto_region 12 with fail
     refine gen_wp (fun w' => Below w.heap.size w w' ∧ Box3 w' w.heap.size (.bool ab) (.slice ap an ac) (.slice aq am ae) ∧ Box3 w' (w.heap.size + 1) (.bool false) (.slice none 0 0) (.slice none 0 0) ∧ Box w' Y (.bool yb) (.slice yo yn yc) ∧ Box w' Z (.bool zb) (.slice zo zn zc) ∧ Box w' v21.heap.size (.bool db) (.slice do_ dn dc) ∧ Box w' v22.heap.size (.bool eb) (.slice eo en ec) ∧ Rt w' ab ap an ac aq am ae P Q ∧ Whole w' yb yo yn yc P ∧ Whole w' zb zo zn zc Q ∧ Right w' db do_ dn dc (powV (n) (P)) ∧ Right w' eb eo en ec (powV (n) ((Q : Int))))
      ⟨bb.out.alloc bb.out.size _, Xa.out.alloc _, X2.out.alloc _, XY.out.alloc _, XZ.out.alloc _, Xd.out.alloc _, Box.new _ _ _ rfl, Ra.out.alloc _, WY.out.alloc _, WZ.out.alloc _, D.out.alloc _, E.out.alloc _⟩ ?_
     clear bb Xa X2 XY XZ Xd Ra WY WZ D E
     rintro x22 ⟨bb, Xa, X2, XY, XZ, Xd, Xe, Ra, WY, WZ, D, E⟩
     replace bb := Lib.hid bb; replace Xa := Lib.hid Xa; replace X2 := Lib.hid X2; replace XY := Lib.hid XY; replace XZ := Lib.hid XZ; replace Xd := Lib.hid Xd; replace Xe := Lib.hid Xe; replace Ra := Lib.hid Ra; replace WY := Lib.hid WY; replace WZ := Lib.hid WZ; replace D := Lib.hid D; replace E := Lib.hid E
     have hz := h2.out
     clear Xa XY XZ Xd Xe Ra WY WZ D E
     replace X2 := X2.out
     replace bb := bb.out
     have q0 := X2.c0; have q1 := X2.c1; have q2 := X2.c2; have q3 := X2.fr 0; have q4 := X2.fr 1; have q5 := X2.fr 2
     have zz := X2.set (.bool false) (.slice none 0 0) (.slice none 0 0)
     have e0 := zz.c0; have e1 := zz.c1; have e2 := zz.c2
     have Y2 := Lib.hid X2; have bb' := Lib.hid bb
     clear zz X2 bb
     go_wp2_with fail
     refine bodyPost_ret (v := .tuple #[.agg #[.bool false, .slice none 0 0, .slice none 0 0], .int .i64 (E2)]) (by simp [results, Tryz.results75, go_sem, e0, e1, e2]) rfl ?_
     exact pow_pos (by have := hn.out; omega) (pw_two hE1.out hE2.out h2.out (ResPost.stored (rt_zero _) Y2.out bb'.out (by omega)))
   ·replace h1 := Lib.hid h1
    replace D := Lib.hid D
    clear hb
    go_upto_region 9 with fail
    refine gen_wp (fun w' => Below w.heap.size w w' ∧ Box3 w' w.heap.size (.bool ab) (.slice ap an ac) (.slice aq am ae) ∧ Box3 w' (w.heap.size + 1) (.bool false) (.slice none 0 0) (.slice none 0 0) ∧ Box w' Y (.bool yb) (.slice yo yn yc) ∧ Box w' Z (.bool zb) (.slice zo zn zc) ∧ Box w' v21.heap.size (.bool db) (.slice do_ dn dc) ∧ Rt w' ab ap an ac aq am ae P Q ∧ Whole w' yb yo yn yc P ∧ Whole w' zb zo zn zc Q ∧ Right w' db do_ dn dc (powV (n) (P)))
     ⟨bb.out.alloc bb.out.size _, Xa.out.alloc _, X2.out.alloc _, XY.out.alloc _, XZ.out.alloc _, Box.new _ _ _ rfl, Ra.out.alloc _, WY.out.alloc _, WZ.out.alloc _, D.out.alloc _⟩ ?_
    clear bb Xa X2 XY XZ Ra WY WZ D
    rintro x21 ⟨bb, Xa, X2, XY, XZ, Xd, Ra, WY, WZ, D⟩
    replace bb := Lib.hid bb; replace Xa := Lib.hid Xa; replace X2 := Lib.hid X2; replace XY := Lib.hid XY; replace XZ := Lib.hid XZ; replace Xd := Lib.hid Xd; replace Ra := Lib.hid Ra; replace WY := Lib.hid WY; replace WZ := Lib.hid WZ; replace D := Lib.hid D
    have hz := h1.out
    clear Xa XY XZ Xd Ra WY WZ D
    replace X2 := X2.out
    replace bb := bb.out
    have q0 := X2.c0; have q1 := X2.c1; have q2 := X2.c2; have q3 := X2.fr 0; have q4 := X2.fr 1; have q5 := X2.fr 2
    have zz := X2.set (.bool false) (.slice none 0 0) (.slice none 0 0)
    have e0 := zz.c0; have e1 := zz.c1; have e2 := zz.c2
    have Y2 := Lib.hid X2; have bb' := Lib.hid bb
    clear zz X2 bb
    go_wp2_with fail
    refine bodyPost_ret (v := .tuple #[.agg #[.bool false, .slice none 0 0, .slice none 0 0], .int .i64 (E1)]) (by simp [results, Tryz.results75, go_sem, e0, e1, e2]) rfl ?_
    exact pow_pos (by have := hn.out; omega) (pw_one hE1.out h1.out (ResPost.stored (rt_zero _) Y2.out bb'.out (by omega)))
end Go.Proofs.YtaepelipkkmeaaaGreat
namespace Go.Proofs.YtaepelipkkmeaaaGreat
open Go.RowKit Num
attribute [local go_sem ↓] Go.wp_at_zero Go.wp_at_succ
theorem num2_max (ab : Bool) (ap aq : Option Addr) (an ac am ae : Nat) (P : Int) (Q : Nat) (cb : Bool) (cp cq : Option Addr) (cn cc cm ce : Nat) (R : Int) (S : Nat) (w : World) (Ra : Rt w ab ap an ac aq am ae P Q) (la : Low P Q) (Rb : Rt w cb cp cn cc cq cm ce R S) (lb : Low R S) :
  Calls Tryz.prog 20 #[.int .i64 8968, .agg #[.bool ab, .slice ap an ac, .slice aq am ae], .agg #[.bool cb, .slice cp cn cc, .slice cq cm ce]] w (NumRes (maxR (cmpI (P * S) (R * Q)) P Q R S) w) := by
 obtain ⟨c, hc⟩ : ∃ c, c = cmpI (P * S) (R * Q) := ⟨_, rfl⟩
 replace hc := Lib.hid hc
 replace Ra := Lib.hid Ra; replace la := Lib.hid la; replace Rb := Lib.hid Rb; replace lb := Lib.hid lb
 go_enter Tryz.func20, Tryz.ntmps20
 go_upto_region 1 with fail
 refine gen_wp (fun w' => Below w.heap.size w w' ∧ Box3 w' w.heap.size (.bool ab) (.slice ap an ac) (.slice aq am ae) ∧ Box3 w' (w.heap.size + 1) (.bool cb) (.slice cp cn cc) (.slice cq cm ce) ∧ Box3 w' (w.heap.size + 2) (.bool false) (.slice none 0 0) (.slice none 0 0))
  ⟨((((Below.refl _ _).alloc (Nat.le_refl _) _).alloc (by simp <;> omega) _).alloc (by simp <;> omega) _), (((Box3.new _ _ _ _ rfl).alloc _).alloc _), ((Box3.new _ _ _ _ (by simp <;> omega)).alloc _), (Box3.new _ _ _ _ (by simp <;> omega))⟩ ?_
 rintro w0 ⟨bb, Xa, Xb, X2⟩
 replace Ra := Ra.out.below bb; replace Rb := Rb.out.below bb
 replace bb := Lib.hid bb; replace Xa := Lib.hid Xa; replace Xb := Lib.hid Xb; replace X2 := Lib.hid X2; replace Ra := Lib.hid Ra; replace Rb := Lib.hid Rb
 have p00 := Xa.out.c0; have p01 := Xa.out.c1; have p02 := Xa.out.c2; have p10 := Xb.out.c0; have p11 := Xb.out.c1; have p12 := Xb.out.c2
 go_wp2_with fail
 clear p00 p01 p02 p10 p11 p12
 refine ((rCmp4_any ab ap aq an ac am ae P Q cb cp cq cn cc cm ce R S _ Ra.out la.out Rb.out lb.out).mono fun _ _ h => (show Says (.int .i64 c) _ _ _ by rw [hc.out]; exact h)).mono ?_
 rintro e v1 ⟨rfl, hb⟩
 replace bb := Lib.hid (below_then bb.out (Nat.le_refl _) hb); replace Xa := Lib.hid (Xa.out.later hb); replace Xb := Lib.hid (Xb.out.later hb); replace X2 := Lib.hid (X2.out.later hb); replace Ra := Lib.hid (Ra.out.below hb); replace Rb := Lib.hid (Rb.out.below hb)
 clear hb
 by_cases hlt : 0 < c
 ·have hlt' := Lib.hid (show 0 < c from hlt)
  have p00 := Xa.out.c0; have p01 := Xa.out.c1; have p02 := Xa.out.c2
  replace X2 := X2.out
  replace bb := bb.out
  have q0 := X2.c0; have q1 := X2.c1; have q2 := X2.c2; have q3 := X2.fr 0; have q4 := X2.fr 1; have q5 := X2.fr 2
  have zz := X2.set (.bool ab) (.slice ap an ac) (.slice aq am ae)
  have e0 := zz.c0; have e1 := zz.c1; have e2 := zz.c2
  have Y2 := Lib.hid X2; have bb' := Lib.hid bb
  clear zz X2 bb
  go_wp2_with fail
  refine bodyPost_ret (v := .tuple #[.agg #[.bool ab, .slice ap an ac, .slice aq am ae], .int .i64 (0)]) (by simp [results, Tryz.results20, go_sem, e0, e1, e2]) rfl ?_
  exact NumRes.of (ResPost.stored Ra.out Y2.out bb'.out (by omega)) (by rw [← hc.out]; exact if_pos hlt'.out)
 ·have hlt' := Lib.hid (show ¬ (0 < c) from hlt)
  have p00 := Xb.out.c0; have p01 := Xb.out.c1; have p02 := Xb.out.c2
  replace X2 := X2.out
  replace bb := bb.out
  have q0 := X2.c0; have q1 := X2.c1; have q2 := X2.c2; have q3 := X2.fr 0; have q4 := X2.fr 1; have q5 := X2.fr 2
  have zz := X2.set (.bool cb) (.slice cp cn cc) (.slice cq cm ce)
  have e0 := zz.c0; have e1 := zz.c1; have e2 := zz.c2
  have Y2 := Lib.hid X2; have bb' := Lib.hid bb
  clear zz X2 bb
  go_wp2_with fail
  refine bodyPost_ret (v := .tuple #[.agg #[.bool cb, .slice cp cn cc, .slice cq cm ce], .int .i64 (0)]) (by simp [results, Tryz.results20, go_sem, e0, e1, e2]) rfl ?_
  exact NumRes.of (ResPost.stored Rb.out Y2.out bb'.out (by omega)) (by rw [← hc.out]; exact if_neg (by have := hlt'.out; omega))
theorem num2_min (ab : Bool) (ap aq : Option Addr) (an ac am ae : Nat) (P : Int) (Q : Nat) (cb : Bool) (cp cq : Option Addr) (cn cc cm ce : Nat) (R : Int) (S : Nat) (w : World) (Ra : Rt w ab ap an ac aq am ae P Q) (la : Low P Q) (Rb : Rt w cb cp cn cc cq cm ce R S) (lb : Low R S) :
  Calls Tryz.prog 20 #[.int .i64 8970, .agg #[.bool ab, .slice ap an ac, .slice aq am ae], .agg #[.bool cb, .slice cp cn cc, .slice cq cm ce]] w (NumRes (minR (cmpI (P * S) (R * Q)) P Q R S) w) := by
 obtain ⟨c, hc⟩ : ∃ c, c = cmpI (P * S) (R * Q) := ⟨_, rfl⟩
 replace hc := Lib.hid hc
 replace Ra := Lib.hid Ra; replace la := Lib.hid la; replace Rb := Lib.hid Rb; replace lb := Lib.hid lb
 go_enter Tryz.func20, Tryz.ntmps20
 go_upto_region 1 with fail
 refine gen_wp (fun w' => Below w.heap.size w w' ∧ Box3 w' w.heap.size (.bool ab) (.slice ap an ac) (.slice aq am ae) ∧ Box3 w' (w.heap.size + 1) (.bool cb) (.slice cp cn cc) (.slice cq cm ce) ∧ Box3 w' (w.heap.size + 2) (.bool false) (.slice none 0 0) (.slice none 0 0))
  ⟨((((Below.refl _ _).alloc (Nat.le_refl _) _).alloc (by simp <;> omega) _).alloc (by simp <;> omega) _), (((Box3.new _ _ _ _ rfl).alloc _).alloc _), ((Box3.new _ _ _ _ (by simp <;> omega)).alloc _), (Box3.new _ _ _ _ (by simp <;> omega))⟩ ?_
 rintro w0 ⟨bb, Xa, Xb, X2⟩
 replace Ra := Ra.out.below bb; replace Rb := Rb.out.below bb
 replace bb := Lib.hid bb; replace Xa := Lib.hid Xa; replace Xb := Lib.hid Xb; replace X2 := Lib.hid X2; replace Ra := Lib.hid Ra; replace Rb := Lib.hid Rb
 have p00 := Xa.out.c0; have p01 := Xa.out.c1; have p02 := Xa.out.c2; have p10 := Xb.out.c0; have p11 := Xb.out.c1; have p12 := Xb.out.c2
 go_wp2_with fail
 clear p00 p01 p02 p10 p11 p12
 refine ((rCmp4_any ab ap aq an ac am ae P Q cb cp cq cn cc cm ce R S _ Ra.out la.out Rb.out lb.out).mono fun _ _ h => (show Says (.int .i64 c) _ _ _ by rw [hc.out]; exact h)).mono ?_
 rintro e v1 ⟨rfl, hb⟩
 replace bb := Lib.hid (below_then bb.out (Nat.le_refl _) hb); replace Xa := Lib.hid (Xa.out.later hb); replace Xb := Lib.hid (Xb.out.later hb); replace X2 := Lib.hid (X2.out.later hb); replace Ra := Lib.hid (Ra.out.below hb); replace Rb := Lib.hid (Rb.out.below hb)
 clear hb
 by_cases hlt : c < 0
 ·have hlt' := Lib.hid (show c < 0 from hlt)
  have p00 := Xa.out.c0; have p01 := Xa.out.c1; have p02 := Xa.out.c2
  replace X2 := X2.out
  replace bb := bb.out
  have q0 := X2.c0; have q1 := X2.c1; have q2 := X2.c2; have q3 := X2.fr 0; have q4 := X2.fr 1; have q5 := X2.fr 2
  have zz := X2.set (.bool ab) (.slice ap an ac) (.slice aq am ae)
  have e0 := zz.c0; have e1 := zz.c1; have e2 := zz.c2
  have Y2 := Lib.hid X2; have bb' := Lib.hid bb
  clear zz X2 bb
  go_wp2_with fail
  refine bodyPost_ret (v := .tuple #[.agg #[.bool ab, .slice ap an ac, .slice aq am ae], .int .i64 (0)]) (by simp [results, Tryz.results20, go_sem, e0, e1, e2]) rfl ?_
  exact NumRes.of (ResPost.stored Ra.out Y2.out bb'.out (by omega)) (by rw [← hc.out]; exact if_pos hlt'.out)
 ·have hlt' := Lib.hid (show ¬ (c < 0) from hlt)
  have p00 := Xb.out.c0; have p01 := Xb.out.c1; have p02 := Xb.out.c2
  replace X2 := X2.out
  replace bb := bb.out
  have q0 := X2.c0; have q1 := X2.c1; have q2 := X2.c2; have q3 := X2.fr 0; have q4 := X2.fr 1; have q5 := X2.fr 2
  have zz := X2.set (.bool cb) (.slice cp cn cc) (.slice cq cm ce)
  have e0 := zz.c0; have e1 := zz.c1; have e2 := zz.c2
  have Y2 := Lib.hid X2; have bb' := Lib.hid bb
  clear zz X2 bb
  go_wp2_with fail
  refine bodyPost_ret (v := .tuple #[.agg #[.bool cb, .slice cp cn cc, .slice cq cm ce], .int .i64 (0)]) (by simp [results, Tryz.results20, go_sem, e0, e1, e2]) rfl ?_
  exact NumRes.of (ResPost.stored Rb.out Y2.out bb'.out (by omega)) (by rw [← hc.out]; exact if_neg (by have := hlt'.out; omega))
theorem num2_none (f : Int) (ab : Bool) (ap aq : Option Addr) (an ac am ae : Nat) (P : Int) (Q : Nat) (cb : Bool) (cp cq : Option Addr) (cn cc cm ce : Nat) (R : Int) (S : Nat) (w : World) (Ra : Rt w ab ap an ac aq am ae P Q) (la : Low P Q) (Rb : Rt w cb cp cn cc cq cm ce R S) (lb : Low R S) (h43 : f ≠ 43) (h45 : f ≠ 45) (h215 : f ≠ 215) (h247 : f ≠ 247) (h8968 : f ≠ 8968) (h8970 : f ≠ 8970) (h124 : f ≠ 124) (h42 : f ≠ 42) (h60 : f ≠ 60) (h8804 : f ≠ 8804) (h61 : f ≠ 61) (h8805 : f ≠ 8805) (h62 : f ≠ 62) (h8800 : f ≠ 8800) (h8743 : f ≠ 8743) (h8744 : f ≠ 8744) :
  Calls Tryz.prog 20 #[.int .i64 f, .agg #[.bool ab, .slice ap an ac, .slice aq am ae], .agg #[.bool cb, .slice cp cn cc, .slice cq cm ce]] w (ResPost 0 0 8 w) := by
 have g43 : (f == 43) = false := by rw [beq_eq_false_iff_ne]; exact h43
 have g45 : (f == 45) = false := by rw [beq_eq_false_iff_ne]; exact h45
 have g215 : (f == 215) = false := by rw [beq_eq_false_iff_ne]; exact h215
 have g247 : (f == 247) = false := by rw [beq_eq_false_iff_ne]; exact h247
 have g8968 : (f == 8968) = false := by rw [beq_eq_false_iff_ne]; exact h8968
 have g8970 : (f == 8970) = false := by rw [beq_eq_false_iff_ne]; exact h8970
 have g124 : (f == 124) = false := by rw [beq_eq_false_iff_ne]; exact h124
 have g42 : (f == 42) = false := by rw [beq_eq_false_iff_ne]; exact h42
 have g60 : (f == 60) = false := by rw [beq_eq_false_iff_ne]; exact h60
 have g8804 : (f == 8804) = false := by rw [beq_eq_false_iff_ne]; exact h8804
 have g61 : (f == 61) = false := by rw [beq_eq_false_iff_ne]; exact h61
 have g8805 : (f == 8805) = false := by rw [beq_eq_false_iff_ne]; exact h8805
 have g62 : (f == 62) = false := by rw [beq_eq_false_iff_ne]; exact h62
 have g8800 : (f == 8800) = false := by rw [beq_eq_false_iff_ne]; exact h8800
 have g8743 : (f == 8743) = false := by rw [beq_eq_false_iff_ne]; exact h8743
 have g8744 : (f == 8744) = false := by rw [beq_eq_false_iff_ne]; exact h8744
 clear h43 h45 h215 h247 h8968 h8970 h124 h42 h60 h8804 h61 h8805 h62 h8800 h8743 h8744
 obtain ⟨c, hc⟩ : ∃ c, c = cmpI (P * S) (R * Q) := ⟨_, rfl⟩
 replace hc := Lib.hid hc
 replace Ra := Lib.hid Ra; replace la := Lib.hid la; replace Rb := Lib.hid Rb; replace lb := Lib.hid lb
 go_enter Tryz.func20, Tryz.ntmps20
 go_upto_region 1 with fail
 refine gen_wp (fun w' => Below w.heap.size w w' ∧ Box3 w' w.heap.size (.bool ab) (.slice ap an ac) (.slice aq am ae) ∧ Box3 w' (w.heap.size + 1) (.bool cb) (.slice cp cn cc) (.slice cq cm ce) ∧ Box3 w' (w.heap.size + 2) (.bool false) (.slice none 0 0) (.slice none 0 0))
  ⟨((((Below.refl _ _).alloc (Nat.le_refl _) _).alloc (by simp <;> omega) _).alloc (by simp <;> omega) _), (((Box3.new _ _ _ _ rfl).alloc _).alloc _), ((Box3.new _ _ _ _ (by simp <;> omega)).alloc _), (Box3.new _ _ _ _ (by simp <;> omega))⟩ ?_
 rintro w0 ⟨bb, Xa, Xb, X2⟩
 replace Ra := Ra.out.below bb; replace Rb := Rb.out.below bb
 replace bb := Lib.hid bb; replace Xa := Lib.hid Xa; replace Xb := Lib.hid Xb; replace X2 := Lib.hid X2; replace Ra := Lib.hid Ra; replace Rb := Lib.hid Rb
 have p00 := Xa.out.c0; have p01 := Xa.out.c1; have p02 := Xa.out.c2; have p10 := Xb.out.c0; have p11 := Xb.out.c1; have p12 := Xb.out.c2
 go_wp2_with fail
 clear p00 p01 p02 p10 p11 p12
 refine ((rCmp4_any ab ap aq an ac am ae P Q cb cp cq cn cc cm ce R S _ Ra.out la.out Rb.out lb.out).mono fun _ _ h => (show Says (.int .i64 c) _ _ _ by rw [hc.out]; exact h)).mono ?_
 rintro e v1 ⟨rfl, hb⟩
 replace bb := Lib.hid (below_then bb.out (Nat.le_refl _) hb); replace Xa := Lib.hid (Xa.out.later hb); replace Xb := Lib.hid (Xb.out.later hb); replace X2 := Lib.hid (X2.out.later hb); replace Ra := Lib.hid (Ra.out.below hb); replace Rb := Lib.hid (Rb.out.below hb)
 clear hb
 replace X2 := X2.out
 replace bb := bb.out
 have q0 := X2.c0; have q1 := X2.c1; have q2 := X2.c2; have q3 := X2.fr 0; have q4 := X2.fr 1; have q5 := X2.fr 2
 have zz := X2.set (.bool false) (.slice none 0 0) (.slice none 0 0)
 have e0 := zz.c0; have e1 := zz.c1; have e2 := zz.c2
 have Y2 := Lib.hid X2; have bb' := Lib.hid bb
 clear zz X2 bb
 go_wp2_with fail
 refine bodyPost_ret (v := .tuple #[.agg #[.bool false, .slice none 0 0, .slice none 0 0], .int .i64 (8)]) (by simp [results, Tryz.results20, go_sem, e0, e1, e2]) rfl ?_
 exact (ResPost.stored (rt_zero _) Y2.out bb'.out (by omega))
end Go.Proofs.YtaepelipkkmeaaaGreat
namespace Go.Proofs.YtaepelipkkmeaaaGreat
open Go.RowKit Num
attribute [local go_sem ↓] Go.wp_at_zero Go.wp_at_succ
theorem num2_pow (ab : Bool) (ap aq : Option Addr) (an ac am ae : Nat) (P : Int) (Q : Nat) (cb : Bool) (cp cq : Option Addr) (cn cc cm ce : Nat) (R : Int) (S : Nat) (w : World) (Ra : Rt w ab ap an ac aq am ae P Q) (la : Low P Q) (Rb : Rt w cb cp cn cc cq cm ce R S) (lb : Low R S) :
  Calls Tryz.prog 20 #[.int .i64 42, .agg #[.bool ab, .slice ap an ac, .slice aq am ae], .agg #[.bool cb, .slice cp cn cc, .slice cq cm ce]] w (NumRes (powN P Q R S) w) := by
 obtain ⟨c, hc⟩ : ∃ c, c = cmpI (P * S) (R * Q) := ⟨_, rfl⟩
 replace hc := Lib.hid hc
 replace Ra := Lib.hid Ra; replace la := Lib.hid la; replace Rb := Lib.hid Rb; replace lb := Lib.hid lb
 go_enter Tryz.func20, Tryz.ntmps20
 go_upto_region 1 with fail
 refine gen_wp (fun w' => Below w.heap.size w w' ∧ Box3 w' w.heap.size (.bool ab) (.slice ap an ac) (.slice aq am ae) ∧ Box3 w' (w.heap.size + 1) (.bool cb) (.slice cp cn cc) (.slice cq cm ce) ∧ Box3 w' (w.heap.size + 2) (.bool false) (.slice none 0 0) (.slice none 0 0))
  ⟨((((Below.refl _ _).alloc (Nat.le_refl _) _).alloc (by simp <;> omega) _).alloc (by simp <;> omega) _), (((Box3.new _ _ _ _ rfl).alloc _).alloc _), ((Box3.new _ _ _ _ (by simp <;> omega)).alloc _), (Box3.new _ _ _ _ (by simp <;> omega))⟩ ?_
 rintro w0 ⟨bb, Xa, Xb, X2⟩
 replace Ra := Ra.out.below bb; replace Rb := Rb.out.below bb
 replace bb := Lib.hid bb; replace Xa := Lib.hid Xa; replace Xb := Lib.hid Xb; replace X2 := Lib.hid X2; replace Ra := Lib.hid Ra; replace Rb := Lib.hid Rb
 have p00 := Xa.out.c0; have p01 := Xa.out.c1; have p02 := Xa.out.c2; have p10 := Xb.out.c0; have p11 := Xb.out.c1; have p12 := Xb.out.c2
 go_wp2_with fail
 clear p00 p01 p02 p10 p11 p12
 refine ((rCmp4_any ab ap aq an ac am ae P Q cb cp cq cn cc cm ce R S _ Ra.out la.out Rb.out lb.out).mono fun _ _ h => (show Says (.int .i64 c) _ _ _ by rw [hc.out]; exact h)).mono ?_
 rintro e v1 ⟨rfl, hb⟩
 replace bb := Lib.hid (below_then bb.out (Nat.le_refl _) hb); replace Xa := Lib.hid (Xa.out.later hb); replace Xb := Lib.hid (Xb.out.later hb); replace X2 := Lib.hid (X2.out.later hb); replace Ra := Lib.hid (Ra.out.below hb); replace Rb := Lib.hid (Rb.out.below hb)
 clear hb
 have p00 := Xb.out.c0; have p01 := Xb.out.c1; have p02 := Xb.out.c2
 go_wp2_with fail
 clear p00 p01 p02
 refine ((small4_any cb cp cq cn cc cm ce R S _ Rb.out lb.out).mono fun _ _ h => (show Says (.tuple #[.int .i64 (smallP R S), .bool (smallQ R S)]) _ _ _ from h)).mono ?_
 rintro e v2 ⟨rfl, hb⟩
 replace bb := Lib.hid (below_then bb.out (Nat.le_refl _) hb); replace Xa := Lib.hid (Xa.out.later hb); replace Xb := Lib.hid (Xb.out.later hb); replace X2 := Lib.hid (X2.out.later hb); replace Ra := Lib.hid (Ra.out.below hb); replace Rb := Lib.hid (Rb.out.below hb)
 clear hb
 have hsb := Lib.hid (small_bounds (P := R) (Q := S))
 obtain ⟨n, hn⟩ : ∃ n, n = smallP R S := ⟨_, rfl⟩
 rw [← hn] at hsb ⊢
 replace hn := Lib.hid hn
 cases hq : smallQ R S
 ·have hq' := Lib.hid hq
  clear hq
  replace X2 := X2.out
  replace bb := bb.out
  have q0 := X2.c0; have q1 := X2.c1; have q2 := X2.c2; have q3 := X2.fr 0; have q4 := X2.fr 1; have q5 := X2.fr 2
  have zz := X2.set (.bool false) (.slice none 0 0) (.slice none 0 0)
  have e0 := zz.c0; have e1 := zz.c1; have e2 := zz.c2
  have Y2 := Lib.hid X2; have bb' := Lib.hid bb
  clear zz X2 bb
  go_wp2_with fail
  refine bodyPost_ret (v := .tuple #[.agg #[.bool false, .slice none 0 0, .slice none 0 0], .int .i64 (8)]) (by simp [results, Tryz.results20, go_sem, e0, e1, e2]) rfl ?_
  exact NumRes.of (ResPost.stored (rt_zero _) Y2.out bb'.out (by omega)) (if_neg (by rw [hq'.out]; decide))
 ·have hq' := Lib.hid hq
  clear hq
  have p00 := Xa.out.c0; have p01 := Xa.out.c1; have p02 := Xa.out.c2
  go_wp2_with fail
  clear p00 p01 p02
  refine (rPow4_any ab ap aq an ac am ae P Q n _ Ra.out la.out hsb.out.1 hsb.out.2).mono ?_
  rintro e v3 ⟨db, dp, dn, dc, dq, dm, de, rfl, D, hb⟩
  replace bb := Lib.hid (below_then bb.out (Nat.le_refl _) hb); replace Xa := Lib.hid (Xa.out.later hb); replace Xb := Lib.hid (Xb.out.later hb); replace X2 := Lib.hid (X2.out.later hb); replace Ra := Lib.hid (Ra.out.below hb); replace Rb := Lib.hid (Rb.out.below hb)
  replace D := Lib.hid D
  clear hb
  replace X2 := X2.out
  replace bb := bb.out
  have q0 := X2.c0; have q1 := X2.c1; have q2 := X2.c2; have q3 := X2.fr 0; have q4 := X2.fr 1; have q5 := X2.fr 2
  have zz := X2.set (.bool db) (.slice dp dn dc) (.slice dq dm de)
  have e0 := zz.c0; have e1 := zz.c1; have e2 := zz.c2
  have Y2 := Lib.hid X2; have bb' := Lib.hid bb
  clear zz X2 bb
  go_wp2_with fail
  refine bodyPost_ret (v := .tuple #[.agg #[.bool db, .slice dp dn dc, .slice dq dm de], .int .i64 ((powRes P Q n).2.2)]) (by simp [results, Tryz.results20, go_sem, e0, e1, e2]) rfl ?_
  exact NumRes.of (ResPost.stored D.out Y2.out bb'.out (by omega)) (by unfold powN; rw [if_pos hq'.out, ← hn.out])
end Go.Proofs.YtaepelipkkmeaaaGreat
namespace Go.Proofs.YtaepelipkkmeaaaGreat
open Go.RowKit Num
attribute [local go_sem ↓] Go.wp_at_zero Go.wp_at_succ
theorem numbers10_any (f : Int) (ab : Bool) (ap aq : Option Addr) (an ac am ae : Nat) (P : Int) (Q : Nat) (cb : Bool) (cp cq : Option Addr) (cn cc cm ce : Nat) (R : Int) (S : Nat) (w : World) (Ra : Rt w ab ap an ac aq am ae P Q) (la : Low P Q) (Rb : Rt w cb cp cn cc cq cm ce R S) (lb : Low R S) :
  Calls Tryz.prog 20 #[.int .i64 f, .agg #[.bool ab, .slice ap an ac, .slice aq am ae], .agg #[.bool cb, .slice cp cn cc, .slice cq cm ce]] w (NumRes (num2R f P Q R S) w) := by
 by_cases h43 : f = 43
 ·subst h43; exact num2_call 43 _ ab ap aq an ac am ae P Q cb cp cq cn cc cm ce R S w Ra la Rb lb ((.inl ⟨rfl, (by unfold num2R; rw [if_pos rfl])⟩))
 by_cases h45 : f = 45
 ·subst h45; exact num2_call 45 _ ab ap aq an ac am ae P Q cb cp cq cn cc cm ce R S w Ra la Rb lb (.inr ((.inl ⟨rfl, (by unfold num2R; rw [if_neg (by decide), if_pos rfl])⟩)))
 by_cases h215 : f = 215
 ·subst h215; exact num2_call 215 _ ab ap aq an ac am ae P Q cb cp cq cn cc cm ce R S w Ra la Rb lb (.inr (.inr ((.inl ⟨rfl, (by unfold num2R; rw [if_neg (by decide), if_neg (by decide), if_pos rfl])⟩))))
 by_cases h247 : f = 247
 ·subst h247; exact num2_call 247 _ ab ap aq an ac am ae P Q cb cp cq cn cc cm ce R S w Ra la Rb lb (.inr (.inr (.inr ((.inl ⟨rfl, (by unfold num2R; rw [if_neg (by decide), if_neg (by decide), if_neg (by decide), if_pos rfl])⟩)))))
 by_cases h8968 : f = 8968
 ·subst h8968; exact (num2_max ab ap aq an ac am ae P Q cb cp cq cn cc cm ce R S w Ra la Rb lb).mono fun _ _ h => (show NumRes (num2R 8968 P Q R S) w _ _ from by rw [show num2R 8968 P Q R S = _ from (by unfold num2R; rw [if_neg (by decide), if_neg (by decide), if_neg (by decide), if_neg (by decide), if_pos rfl])]; exact h)
 by_cases h8970 : f = 8970
 ·subst h8970; exact (num2_min ab ap aq an ac am ae P Q cb cp cq cn cc cm ce R S w Ra la Rb lb).mono fun _ _ h => (show NumRes (num2R 8970 P Q R S) w _ _ from by rw [show num2R 8970 P Q R S = _ from (by unfold num2R; rw [if_neg (by decide), if_neg (by decide), if_neg (by decide), if_neg (by decide), if_neg (by decide), if_pos rfl])]; exact h)
 by_cases h124 : f = 124
 ·subst h124; exact num2_call 124 _ ab ap aq an ac am ae P Q cb cp cq cn cc cm ce R S w Ra la Rb lb (.inr (.inr (.inr (.inr ((.inl ⟨rfl, (by unfold num2R; rw [if_neg (by decide), if_neg (by decide), if_neg (by decide), if_neg (by decide), if_neg (by decide), if_neg (by decide), if_pos rfl])⟩))))))
 by_cases h42 : f = 42
 ·subst h42; exact (num2_pow ab ap aq an ac am ae P Q cb cp cq cn cc cm ce R S w Ra la Rb lb).mono fun _ _ h => (show NumRes (num2R 42 P Q R S) w _ _ from by rw [show num2R 42 P Q R S = _ from (by unfold num2R; rw [if_neg (by decide), if_neg (by decide), if_neg (by decide), if_neg (by decide), if_neg (by decide), if_neg (by decide), if_neg (by decide), if_pos rfl])]; exact h)
 by_cases h60 : f = 60
 ·subst h60; exact num2_truth 60 _ ab ap aq an ac am ae P Q cb cp cq cn cc cm ce R S w Ra la Rb lb ((.inl ⟨rfl, (by unfold num2R; rw [if_neg (by decide), if_neg (by decide), if_neg (by decide), if_neg (by decide), if_neg (by decide), if_neg (by decide), if_neg (by decide), if_neg (by decide), if_pos rfl])⟩))
 by_cases h8804 : f = 8804
 ·subst h8804; exact num2_truth 8804 _ ab ap aq an ac am ae P Q cb cp cq cn cc cm ce R S w Ra la Rb lb (.inr ((.inl ⟨rfl, (by unfold num2R; rw [if_neg (by decide), if_neg (by decide), if_neg (by decide), if_neg (by decide), if_neg (by decide), if_neg (by decide), if_neg (by decide), if_neg (by decide), if_neg (by decide), if_pos rfl])⟩)))
 by_cases h61 : f = 61
 ·subst h61; exact num2_truth 61 _ ab ap aq an ac am ae P Q cb cp cq cn cc cm ce R S w Ra la Rb lb (.inr (.inr ((.inl ⟨rfl, (by unfold num2R; rw [if_neg (by decide), if_neg (by decide), if_neg (by decide), if_neg (by decide), if_neg (by decide), if_neg (by decide), if_neg (by decide), if_neg (by decide), if_neg (by decide), if_neg (by decide), if_pos rfl])⟩))))
 by_cases h8805 : f = 8805
 ·subst h8805; exact num2_truth 8805 _ ab ap aq an ac am ae P Q cb cp cq cn cc cm ce R S w Ra la Rb lb (.inr (.inr (.inr ((.inl ⟨rfl, (by unfold num2R; rw [if_neg (by decide), if_neg (by decide), if_neg (by decide), if_neg (by decide), if_neg (by decide), if_neg (by decide), if_neg (by decide), if_neg (by decide), if_neg (by decide), if_neg (by decide), if_neg (by decide), if_pos rfl])⟩)))))
 by_cases h62 : f = 62
 ·subst h62; exact num2_truth 62 _ ab ap aq an ac am ae P Q cb cp cq cn cc cm ce R S w Ra la Rb lb (.inr (.inr (.inr (.inr ((.inl ⟨rfl, (by unfold num2R; rw [if_neg (by decide), if_neg (by decide), if_neg (by decide), if_neg (by decide), if_neg (by decide), if_neg (by decide), if_neg (by decide), if_neg (by decide), if_neg (by decide), if_neg (by decide), if_neg (by decide), if_neg (by decide), if_pos rfl])⟩))))))
 by_cases h8800 : f = 8800
 ·subst h8800; exact num2_truth 8800 _ ab ap aq an ac am ae P Q cb cp cq cn cc cm ce R S w Ra la Rb lb (.inr (.inr (.inr (.inr (.inr (⟨rfl, (by unfold num2R; rw [if_neg (by decide), if_neg (by decide), if_neg (by decide), if_neg (by decide), if_neg (by decide), if_neg (by decide), if_neg (by decide), if_neg (by decide), if_neg (by decide), if_neg (by decide), if_neg (by decide), if_neg (by decide), if_neg (by decide), if_pos rfl])⟩))))))
 by_cases h8743 : f = 8743
 ·subst h8743; exact num2_call 8743 _ ab ap aq an ac am ae P Q cb cp cq cn cc cm ce R S w Ra la Rb lb (.inr (.inr (.inr (.inr (.inr ((.inl ⟨rfl, (by unfold num2R; rw [if_neg (by decide), if_neg (by decide), if_neg (by decide), if_neg (by decide), if_neg (by decide), if_neg (by decide), if_neg (by decide), if_neg (by decide), if_neg (by decide), if_neg (by decide), if_neg (by decide), if_neg (by decide), if_neg (by decide), if_neg (by decide), if_pos rfl])⟩)))))))
 by_cases h8744 : f = 8744
 ·subst h8744; exact num2_call 8744 _ ab ap aq an ac am ae P Q cb cp cq cn cc cm ce R S w Ra la Rb lb (.inr (.inr (.inr (.inr (.inr (.inr (⟨rfl, (by unfold num2R; rw [if_neg (by decide), if_neg (by decide), if_neg (by decide), if_neg (by decide), if_neg (by decide), if_neg (by decide), if_neg (by decide), if_neg (by decide), if_neg (by decide), if_neg (by decide), if_neg (by decide), if_neg (by decide), if_neg (by decide), if_neg (by decide), if_neg (by decide), if_pos rfl])⟩)))))))
 exact (num2_none f ab ap aq an ac am ae P Q cb cp cq cn cc cm ce R S w Ra la Rb lb h43 h45 h215 h247 h8968 h8970 h124 h42 h60 h8804 h61 h8805 h62 h8800 h8743 h8744).mono fun _ _ h => (show NumRes (num2R f P Q R S) w _ _ from by rw [show num2R f P Q R S = (0, 0, 8) from by unfold num2R; rw [if_neg h43, if_neg h45, if_neg h215, if_neg h247, if_neg h8968, if_neg h8970, if_neg h124, if_neg h42, if_neg h60, if_neg h8804, if_neg h61, if_neg h8805, if_neg h62, if_neg h8800, if_neg h8743, if_neg h8744]]; exact h)
end Go.Proofs.YtaepelipkkmeaaaGreat
namespace Go.Proofs.YtaepelipkkmeaaaGreat
open Go.RowKit
def SameZ (n m : Nat) (f g : Nat → Int) : Prop := n = m ∧ ∀ j, j < n → f j = g j
end Go.Proofs.YtaepelipkkmeaaaGreat
namespace Go.Proofs.YtaepelipkkmeaaaGreat
open Go.RowKit
theorem prodZ_mono {f : Nat → Int} {m : Nat} : ∀ n, (∀ j, j < n → 1 ≤ f j) → m ≤ n → prodZ f m ≤ prodZ f n
 | 0, _, h => by
  obtain rfl : m = 0 := by omega
  exact Int.le_refl _
 | n + 1, h, hm => by
  by_cases e : m = n + 1
  ·subst e; exact Int.le_refl _
  ·have a := prodZ_mono (m := m) n (fun j hj => h j (by omega)) (by omega)
   have p := prodZ_pos n fun j hj => h j (by omega)
   have b := h n (by omega)
   show prodZ f m ≤ prodZ f n * f n
   have := Int.mul_le_mul_of_nonneg_left b (show 0 ≤ prodZ f n by omega)
   omega
theorem prodZ_zero {f : Nat → Int} {j : Nat} (hj : f j = 0) : ∀ n, j < n → prodZ f n = 0
 | 0, h => by omega
 | n + 1, h => by
  show prodZ f n * f n = 0
  by_cases e : j = n
  ·rw [← e, hj, Int.mul_zero]
  ·rw [prodZ_zero hj n (by omega), Int.zero_mul]
def CountIs (f : Nat → Int) (n : Nat) (N e : Int) : Prop :=
 (6 < n ∧ N = 0 ∧ e = 7) ∨ (n ≤ 6 ∧ (((∃ j, j < n ∧ f j < 0) ∧ N = 0 ∧ e = 3) ∨ ((∀ j, j < n → 0 ≤ f j) ∧
  (((∃ j, j < n ∧ 2048 < f j) ∧ N = 0 ∧ e = 7) ∨ ((∀ j, j < n → f j ≤ 2048) ∧ ((2048 < prodZ f n ∧ N = 0 ∧ e = 7) ∨ (prodZ f n ≤ 2048 ∧ N = prodZ f n ∧ e = 0)))))))
theorem CountIs.uniq {f g : Nat → Int} {n : Nat} {N M e d : Int} (a : CountIs f n N e) (h : ∀ j, j < n → f j = g j) (b : CountIs g n M d) : N = M ∧ e = d := by
 have hp := prodZ_congr n h
 rcases a with ⟨a1, a2, a3⟩ | ⟨a1, ⟨⟨j, hj, a2⟩, a3, a4⟩ | ⟨a2, ⟨⟨j, hj, a3⟩, a4, a5⟩ | ⟨a3, ⟨a4, a5, a6⟩ | ⟨a4, a5, a6⟩⟩⟩⟩ <;>
 rcases b with ⟨b1, b2, b3⟩ | ⟨b1, ⟨⟨k, hk, b2⟩, b3, b4⟩ | ⟨b2, ⟨⟨k, hk, b3⟩, b4, b5⟩ | ⟨b3, ⟨b4, b5, b6⟩ | ⟨b4, b5, b6⟩⟩⟩⟩ <;>
 first
 | omega
 | (have := b2 j hj; have := h j hj; omega)
 | (have := a2 k hk; have := h k hk; omega)
 | (have := b3 j hj; have := h j hj; omega)
 | (have := a3 k hk; have := h k hk; omega)
theorem CountIs.shape {f : Nat → Int} {n : Nat} {N e : Int} (a : CountIs f n N e) (h : e = 0) : Shape f n N := by
 rcases a with ⟨a1, a2, a3⟩ | ⟨a1, ⟨⟨j, hj, a2⟩, a3, a4⟩ | ⟨a2, ⟨⟨j, hj, a3⟩, a4, a5⟩ | ⟨a3, ⟨a4, a5, a6⟩ | ⟨a4, a5, a6⟩⟩⟩⟩
 any_goals omega
 exact ⟨a1, a2, a3, a5, by omega⟩
theorem CountIs.none {f : Nat → Int} {n : Nat} {N e : Int} (a : CountIs f n N e) (h : e ≠ 0) : N = 0 ∧ (e = 3 ∨ e = 7) ∧ ∀ M, ¬ Shape f n M := by
 rcases a with ⟨a1, a2, a3⟩ | ⟨a1, ⟨⟨j, hj, a2⟩, a3, a4⟩ | ⟨a2, ⟨⟨j, hj, a3⟩, a4, a5⟩ | ⟨a3, ⟨a4, a5, a6⟩ | ⟨a4, a5, a6⟩⟩⟩⟩
 ·exact ⟨a2, .inr a3, fun M k => by have := k.rank; omega⟩
 ·exact ⟨a3, .inl a4, fun M k => by have := k.low j hj; omega⟩
 ·exact ⟨a4, .inr a5, fun M k => by have := k.high j hj; omega⟩
 ·exact ⟨a5, .inr a6, fun M k => by have := k.all; have := k.most; omega⟩
 ·exact absurd a6 h
theorem Shape.countIs {f : Nat → Int} {n : Nat} {N : Int} (a : Shape f n N) : CountIs f n N 0 :=
 .inr ⟨a.rank, .inr ⟨a.low, .inr ⟨a.high, .inr ⟨by have := a.all; have := a.most; omega, a.all, rfl⟩⟩⟩⟩
theorem ints7_any (ao bo : Option Addr) (n nc m mc : Nat) (f g : Nat → Int) (w : World) (hn : n ≤ 9223372036854775807) (hf : SlZ w ao n f) (hg : SlZ w bo m g) :
  Calls Tryz.prog 33 #[.slice ao n nc, .slice bo m mc] w fun e w' => (e = .returned (.bool true) ∧ SameZ n m f g ∨ e = .returned (.bool false) ∧ ¬ SameZ n m f g) ∧ Below w.heap.size w w' := by
 by_cases hnm : n = m
 ·subst hnm
  go_enter Tryz.func33, Tryz.ntmps33
  go_wp2_with fail
  go_loopw [5] (fun i wr => ∃ j : Nat, j ≤ n ∧ i = .int .i64 j ∧ Hid (∀ t, t < j → f t = g t) ∧ ∃ q, wr = w.drewN q) (fun i _ => n - (intOfZ i).toNat)
  case atStart => exact ⟨0, Nat.zero_le _, rfl, Lib.hid fun t h => by omega, 0, rfl⟩
  case round =>
   obtain ⟨j, hj, rfl, hd, q, rfl⟩ := hrel
   by_cases hlt : j < n
   ·rcases hf with h | ⟨b, off, rfl, hc⟩
    ·omega
    rcases hg with h | ⟨b', off', rfl, hc'⟩
    ·omega
    have c1 := hc j hlt
    have c2 := hc' j hlt
    clear hc hc'
    have i0 : (0 : Int) ≤ (j : Int) := by omega
    have i1 : (j : Int) < (n : Int) := by omega
    by_cases he : f j = g j
    ·have heb : (f j != g j) = false := by rw [bne_eq_false_iff_eq]; exact he
     have he' := Lib.hid he
     clear he
     go_wp2_with fail
     go_quiet (fail)
     go_wp2_with fail
     go_roundw
     case rel =>
      refine ⟨j + 1, by omega, by go_num, Lib.hid fun t ht => ?_, _, rfl⟩
      by_cases e : t = j
      ·rw [e]; exact he'.out
      ·exact hd.out t (by omega)
     case measure => simp [intOfZ]; omega
    ·have heb : (f j != g j) = true := by rw [bne_iff_ne]; exact he
     have he' := Lib.hid he
     clear he
     go_wp2_with fail
     go_quiet (fail)
     go_wp2_with fail
     go_ret
     exact ⟨.inr ⟨rfl, fun ⟨_, h⟩ => he'.out (h j hlt)⟩, below_drewN (below_drewN (Below.refl _ _) _) _⟩
   ·obtain rfl : j = n := by omega
    go_wp2_with fail
    go_ret
    exact ⟨.inl ⟨rfl, rfl, hd.out⟩, below_drewN (Below.refl _ _) _⟩
 ·have hnb : ((n : Int) != (m : Int)) = true := by rw [bne_iff_ne]; omega
  have hnm' := Lib.hid hnm
  have hnp : ¬ ((n : Int) = (m : Int)) := by omega
  clear hnm
  go_enter Tryz.func33, Tryz.ntmps33
  go_wp2_with fail
  go_ret
  exact ⟨.inr ⟨rfl, fun ⟨h, _⟩ => hnm'.out h⟩, Below.refl _ _⟩
theorem count7_any (ao : Option Addr) (n nc : Nat) (f : Nat → Int) (w : World) (hn : n ≤ 9223372036854775807) (hf : SlZ w ao n f) :
  Calls Tryz.prog 83 #[.slice ao n nc] w fun e w' => (∃ N E : Int, e = .returned (.tuple #[.int .i64 N, .int .i64 E]) ∧ CountIs f n N E) ∧ w = w' := by
 by_cases h6 : 6 < n
 ·have h6' : (6 : Int) < (n : Int) := by omega
  go_enter Tryz.func83, Tryz.ntmps83
  go_wp2_with fail
  go_ret2
  exact ⟨⟨0, 7, rfl, .inl ⟨h6, rfl, rfl⟩⟩, rfl⟩
 ·have h6' : ¬ (6 : Int) < (n : Int) := by omega
  have h6n : n ≤ 6 := by omega
  clear h6
  go_enter Tryz.func83, Tryz.ntmps83
  go_wp2_with fail
  go_loopw [4, 5, 6] (fun b z i wr => ∃ (j : Nat) (B Z : Bool), j ≤ n ∧ i = .int .i64 j ∧ b = .bool B ∧ z = .bool Z ∧ Hid (∀ t, t < j → 0 ≤ f t) ∧ Hid (B = true ↔ ∃ t, t < j ∧ 2048 < f t) ∧ Hid (Z = true ↔ ∃ t, t < j ∧ f t = 0) ∧ wr = w) (fun _ _ i _ => n - (intOfZ i).toNat)
  case atStart => exact ⟨0, false, false, Nat.zero_le _, rfl, rfl, rfl, Lib.hid fun t h => by omega, Lib.hid ⟨fun h => (Bool.false_ne_true h).elim, fun ⟨t, h, _⟩ => by omega⟩, Lib.hid ⟨fun h => (Bool.false_ne_true h).elim, fun ⟨t, h, _⟩ => by omega⟩, rfl⟩
  case round =>
   obtain ⟨j, B, Z, hj, rfl, rfl, rfl, hd, hB, hZ, rfl⟩ := hrel
   by_cases hlt : j < n
   ·rcases hf with h | ⟨b, off, rfl, hc⟩
    ·omega
    have c1 := hc j hlt
    clear hc
    by_cases hneg : f j < 0
    ·have hneg' := Lib.hid hneg
     go_wp2_with fail
     go_ret2
     exact ⟨⟨0, 3, rfl, .inr ⟨h6n, .inl ⟨⟨j, hlt, hneg'.out⟩, rfl, rfl⟩⟩⟩, rfl⟩
    ·have hd2 := Lib.hid (show ∀ t, t < j + 1 → 0 ≤ f t from fun t ht => by
      by_cases e : t = j
      ·rw [e]; omega
      ·exact hd.out t (by omega))
     have hB2 := Lib.hid (show (B || decide (2048 < f j)) = true ↔ ∃ t, t < j + 1 ∧ 2048 < f t from by
      rw [Bool.or_eq_true, hB.out, decide_eq_true_eq]
      constructor
      ·rintro (⟨t, h1, h2⟩ | h)
       ·exact ⟨t, by omega, h2⟩
       ·exact ⟨j, by omega, h⟩
      ·rintro ⟨t, h1, h2⟩
       by_cases e : t = j
       ·rw [e] at h2; exact .inr h2
       ·exact .inl ⟨t, by omega, h2⟩)
     have hZ2 := Lib.hid (show (Z || decide (f j = 0)) = true ↔ ∃ t, t < j + 1 ∧ f t = 0 from by
      rw [Bool.or_eq_true, hZ.out, decide_eq_true_eq]
      constructor
      ·rintro (⟨t, h1, h2⟩ | h)
       ·exact ⟨t, by omega, h2⟩
       ·exact ⟨j, by omega, h⟩
      ·rintro ⟨t, h1, h2⟩
       by_cases e : t = j
       ·rw [e] at h2; exact .inr h2
       ·exact .inl ⟨t, by omega, h2⟩)
     have hnn : ¬ f j < 0 := hneg
     clear hneg hd hB hZ
     cases B <;> cases Z <;>
     ·go_wp2_with fail
      go_roundw
      case rel => exact ⟨j + 1, _, _, by omega, by go_num, rfl, rfl, hd2, hB2, hZ2, by trivial⟩
      case measure => simp [intOfZ]; omega
   ·obtain rfl : j = n := by omega
    by_cases hBt : ∃ t, t < j ∧ 2048 < f t
    ·obtain rfl : B = true := hB.out.2 hBt
     have hBt' := Lib.hid hBt
     clear hBt
     go_wp2_with fail
     go_ret2
     exact ⟨⟨0, 7, rfl, .inr ⟨h6n, .inr ⟨hd.out, .inl ⟨hBt'.out, rfl, rfl⟩⟩⟩⟩, rfl⟩
    ·obtain rfl : B = false := by
      rcases Bool.eq_false_or_eq_true B with h | h
      ·exact absurd (hB.out.1 h) hBt
      ·exact h
     have hhi := Lib.hid (show ∀ t, t < j → f t ≤ 2048 from fun t ht => Int.not_lt.1 fun h => hBt ⟨t, ht, h⟩)
     clear hBt
     by_cases hZt : ∃ t, t < j ∧ f t = 0
     ·obtain rfl : Z = true := hZ.out.2 hZt
      have hp := Lib.hid (show prodZ f j = 0 by obtain ⟨t, h1, h2⟩ := hZt; exact prodZ_zero h2 j h1)
      clear hZt
      go_wp2_with fail
      go_ret2
      exact ⟨⟨0, 0, rfl, .inr ⟨h6n, .inr ⟨hd.out, .inr ⟨hhi.out, .inr ⟨by rw [hp.out]; decide, hp.out.symm, rfl⟩⟩⟩⟩⟩, rfl⟩
     ·obtain rfl : Z = false := by
       rcases Bool.eq_false_or_eq_true Z with h | h
       ·exact absurd (hZ.out.1 h) hZt
       ·exact h
      have hlo := Lib.hid (show ∀ t, t < j → 1 ≤ f t from fun t ht => by
       have := hd.out t ht
       have : f t ≠ 0 := fun h => hZt ⟨t, ht, h⟩
       omega)
      clear hZt hB hZ
      go_wp2_with fail
      go_loopw [7, 8] (fun p i wr' => ∃ k : Nat, k ≤ j ∧ i = .int .i64 k ∧ p = .int .i64 (prodZ f k) ∧ prodZ f k ≤ 2048 ∧ wr' = wr) (fun _ i _ => j - (intOfZ i).toNat)
      case atStart => exact ⟨0, Nat.zero_le _, rfl, rfl, by show (1 : Int) ≤ 2048; decide, rfl⟩
      case round =>
       obtain ⟨k, hk, rfl, rfl, hpk, rfl⟩ := hrel
       have p1 := prodZ_pos k fun t ht => hlo.out t (by omega)
       by_cases hlt2 : k < j
       ·rcases hf with h | ⟨b, off, rfl, hc⟩
        ·omega
        have c1 := hc k hlt2
        have k1 := hlo.out k hlt2
        have k2 := hhi.out k hlt2
        clear hc
        obtain ⟨x, hx⟩ : ∃ x, x = prodZ f k := ⟨_, rfl⟩
        obtain ⟨y, hy⟩ : ∃ y, y = f k := ⟨_, rfl⟩
        obtain ⟨z, hz⟩ : ∃ z, z = x * y := ⟨_, rfl⟩
        have hz1 : z ≤ 4194304 := by rw [hz]; rw [← hx] at hpk p1; rw [← hy] at k1 k2; exact Int.mul_le_mul hpk k2 (by omega) (by decide)
        have hz0 : 0 ≤ z := by rw [hz]; rw [← hx] at hpk p1; rw [← hy] at k1 k2; exact Int.mul_nonneg (by omega) (by omega)
        have hzn := Lib.hid (show prodZ f (k + 1) = z by rw [hz, hx, hy]; rfl)
        have hzm := Lib.hid (show prodZ f (k + 1) ≤ prodZ f j from prodZ_mono j hlo.out hlt2)
        rw [← hy] at c1
        rw [← hx]
        have hw : IntKind.i64.wrap (x * y) = z := by rw [← hz]; simp [IntKind.wrap, IntKind.bits, IntKind.signed]; omega
        clear hz hx hy hpk p1 k1 k2
        by_cases hbig : 2048 < z
        ·have hbig' := Lib.hid hbig
         go_wp2_with fail
         go_ret2
         exact ⟨⟨0, 7, rfl, .inr ⟨h6n, .inr ⟨hd.out, .inr ⟨hhi.out, .inl ⟨by have := hzn.out; have := hzm.out; have := hbig'.out; omega, rfl, rfl⟩⟩⟩⟩⟩, rfl⟩
        ·have hsm := Lib.hid (show prodZ f (k + 1) ≤ 2048 by rw [hzn.out]; omega)
         go_wp2_with fail
         go_roundw
         case rel => exact ⟨k + 1, by omega, by go_num, by rw [hzn.out], hsm.out, by trivial⟩
         case measure => simp [intOfZ]; omega
       ·obtain rfl : k = j := by omega
        go_wp2_with fail
        go_ret2
        exact ⟨⟨_, 0, rfl, .inr ⟨h6n, .inr ⟨hd.out, .inr ⟨hhi.out, .inr ⟨hpk, rfl, rfl⟩⟩⟩⟩⟩, rfl⟩
end Go.Proofs.YtaepelipkkmeaaaGreat
namespace Go.Proofs.YtaepelipkkmeaaaGreat
open Go.RowKit
theorem bit01_any (i : Nat) (hi : i < 64) (w : World) : Calls Tryz.prog 138 #[.int .i64 i] w fun e w' => e = .returned (.int .u64 ((2 ^ i : Nat) : Int)) ∧ w = w' := by
 go_enter Tryz.func138, Tryz.ntmps138
 go_wp2_with fail
 go_loopw [3, 4] (fun m j wr => ∃ k : Nat, k ≤ i ∧ j = .int .i64 k ∧ m = .int .u64 ((2 ^ k : Nat) : Int) ∧ wr = w) (fun _ j _ => i - (intOfZ j).toNat)
 case atStart => exact ⟨0, Nat.zero_le _, rfl, rfl, rfl⟩
 case round =>
  obtain ⟨k, hk, rfl, rfl, rfl⟩ := hrel
  obtain ⟨x, hx⟩ : ∃ x, x = 2 ^ k := ⟨_, rfl⟩
  by_cases hlt : k < i
  ·have hx2 : x ≤ 2 ^ 62 := by rw [hx]; exact Nat.pow_le_pow_right (by decide) (by omega)
   have hx3 : x ≤ 4611686018427387904 := hx2
   have hn := Lib.hid (show 2 ^ (k + 1) = x * 2 by rw [Nat.pow_succ, hx])
   rw [← hx]
   clear hx hx2
   go_wp2_with fail
   go_roundw
   case rel => exact ⟨k + 1, by omega, by go_num, by rw [hn.out]; go_num, by trivial⟩
   case measure => simp [intOfZ]; omega
  ·obtain rfl : k = i := by omega
   go_wp2_with fail
   go_ret
   exact ⟨rfl, rfl⟩
def hasL (l i : Nat) : Bool := l / 2 ^ i % 2 == 1
theorem has01_any (l i : Nat) (hl : IsL l) (hi : i < 64) (w : World) : Calls Tryz.prog 137 #[.int .u64 l, .int .i64 i] w fun e w' => e = .returned (.bool (hasL l i)) ∧ w = w' := by
 have hl' : l < 18446744073709551616 := hl
 go_enter Tryz.func137, Tryz.ntmps137
 go_wp2_with fail
 go_loopw [0, 5] (fun m j wr => ∃ k : Nat, k ≤ i ∧ j = .int .i64 k ∧ m = .int .u64 ((l / 2 ^ k : Nat) : Int) ∧ wr = w) (fun _ j _ => i - (intOfZ j).toNat)
 case atStart => exact ⟨0, Nat.zero_le _, rfl, by rw [Nat.pow_zero, Nat.div_one], rfl⟩
 case round =>
  obtain ⟨k, hk, rfl, rfl, rfl⟩ := hrel
  have hx2 : l / 2 ^ k ≤ l := Nat.div_le_self _ _
  obtain ⟨x, hx⟩ : ∃ x, x = l / 2 ^ k := ⟨_, rfl⟩
  have hn := Lib.hid (show l / 2 ^ (k + 1) = x / 2 by rw [Nat.pow_succ, ← Nat.div_div_eq_div_mul, hx])
  have hx' := Lib.hid hx
  rw [← hx] at hx2 ⊢
  clear hx
  by_cases hlt : k < i
  ·go_wp2_with fail
   go_roundw
   case rel => exact ⟨k + 1, by omega, by go_num, by rw [hn.out]; go_num, by trivial⟩
   case measure => simp [intOfZ]; omega
  ·obtain rfl : k = i := by omega
   have he := Lib.hid (show hasL l k = (x % 2 == 1) by unfold hasL; rw [← hx'.out])
   go_wp2_with fail
   go_ret
   refine ⟨congrArg (fun b => Ending.returned (.bool b)) ?_, rfl⟩
   rw [he.out, Bool.eq_iff_iff, beq_iff_eq, beq_iff_eq]
   omega
theorem hasL_bit (l i : Nat) : hasL l i = l.testBit i := by
 unfold hasL
 rw [Nat.testBit_eq_decide_div_mod_eq, Bool.eq_iff_iff, beq_iff_eq, decide_eq_true_eq]
theorem hasL_or (a b i : Nat) : hasL (orL a b) i = (hasL a i || hasL b i) := by
 rw [hasL_bit, hasL_bit, hasL_bit]
 exact Nat.testBit_or ..
theorem orL_step (x j : Nat) : x % 2 ^ (j + 1) = x % 2 ^ j + if hasL x j then 2 ^ j else 0 := by
 rw [Nat.mod_pow_succ]
 congr 1
 unfold hasL
 have : x / 2 ^ j % 2 = 0 ∨ x / 2 ^ j % 2 = 1 := by omega
 rcases this with h | h
 ·rw [h]; simp
 ·rw [h]; simp
theorem join01_any (a b : Nat) (ha : IsL a) (hb : IsL b) (w : World) : Calls Tryz.prog 89 #[.int .u64 a, .int .u64 b] w fun e w' => e = .returned (.int .u64 (orL a b : Nat)) ∧ w = w' := by
 obtain ⟨x, hx⟩ : ∃ x, x = orL a b := ⟨_, rfl⟩
 have hxl : x < 18446744073709551616 := by rw [hx]; exact orL_is ha hb
 have hx' := Lib.hid hx
 rw [← hx]
 clear hx
 go_enter Tryz.func89, Tryz.ntmps89
 go_wp2_with fail
 go_loopw [5, 6] (fun m j wr => ∃ k : Nat, k ≤ 64 ∧ j = .int .i64 k ∧ m = .int .u64 ((x % 2 ^ k : Nat) : Int) ∧ wr = w) (fun _ j _ => 64 - (intOfZ j).toNat)
 case atStart => exact ⟨0, Nat.zero_le _, rfl, by rw [Nat.pow_zero, Nat.mod_one]; rfl, rfl⟩
 case round =>
  obtain ⟨k, hk, rfl, rfl, rfl⟩ := hrel
  by_cases hlt : k < 64
  ·have hst := orL_step x k
   have hor := hasL_or a b k
   rw [← hx'.out] at hor
   have hle : x % 2 ^ (k + 1) ≤ x := Nat.mod_le _ _
   obtain ⟨y, hy⟩ : ∃ y, y = x % 2 ^ k := ⟨_, rfl⟩
   obtain ⟨p, hp⟩ : ∃ p, p = 2 ^ k := ⟨_, rfl⟩
   have hbit := Lib.hid (fun w => bit01_any k hlt w)
   rw [← hy] at hst ⊢
   rw [← hp] at hst hbit
   have hy' := Lib.hid hy
   clear hy hp
   by_cases h1 : hasL a k = true
   ·rw [h1, Bool.true_or] at hor
    rw [if_pos hor] at hst
    have hst' := Lib.hid hst
    have hsm : y + p < 18446744073709551616 := by omega
    clear hst hor hle
    go_wp2_with fail
    refine (has01_any a k ha hlt _).mono ?_
    rintro e w' ⟨rfl, rfl⟩
    rw [h1]
    go_wp2_with fail
    refine (hbit.out _).mono ?_
    rintro e w' ⟨rfl, rfl⟩
    go_wp2_with fail
    go_roundw
    case rel => exact ⟨k + 1, by omega, by go_num, by rw [hst'.out]; go_num, by trivial⟩
    case measure => simp [intOfZ]; omega
   ·have h1f : hasL a k = false := by simpa using h1
    by_cases h2 : hasL b k = true
    ·rw [h1f, h2, Bool.false_or] at hor
     rw [if_pos hor] at hst
     have hst' := Lib.hid hst
     have hsm : y + p < 18446744073709551616 := by omega
     clear hst hor hle h1
     go_wp2_with fail
     refine (has01_any a k ha hlt _).mono ?_
     rintro e w' ⟨rfl, rfl⟩
     rw [h1f]
     go_wp2_with fail
     refine (has01_any b k hb hlt _).mono ?_
     rintro e w' ⟨rfl, rfl⟩
     rw [h2]
     go_wp2_with fail
     refine (hbit.out _).mono ?_
     rintro e w' ⟨rfl, rfl⟩
     go_wp2_with fail
     go_roundw
     case rel => exact ⟨k + 1, by omega, by go_num, by rw [hst'.out]; go_num, by trivial⟩
     case measure => simp [intOfZ]; omega
    ·have h2f : hasL b k = false := by simpa using h2
     rw [h1f, h2f, Bool.false_or] at hor
     rw [if_neg (by rw [hor]; decide), Nat.add_zero] at hst
     have hst' := Lib.hid hst
     clear hst hor hle h1 h2
     go_wp2_with fail
     refine (has01_any a k ha hlt _).mono ?_
     rintro e w' ⟨rfl, rfl⟩
     rw [h1f]
     go_wp2_with fail
     refine (has01_any b k hb hlt _).mono ?_
     rintro e w' ⟨rfl, rfl⟩
     rw [h2f]
     go_wp2_with fail
     go_roundw
     case rel => exact ⟨k + 1, by omega, by go_num, by rw [hst'.out]; rfl, by trivial⟩
     case measure => simp [intOfZ]; omega
  ·obtain rfl : k = 64 := by omega
   have hm := Lib.hid (show x % 2 ^ 64 = x from Nat.mod_eq_of_lt hxl)
   go_wp2_with fail
   go_ret
   refine ⟨congrArg (fun b => Ending.returned (.int .u64 b)) ?_, rfl⟩
   exact congrArg (fun n : Nat => (n : Int)) hm.out
end Go.Proofs.YtaepelipkkmeaaaGreat
namespace Go.Proofs.YtaepelipkkmeaaaGreat
open Go.RowKit
theorem simple8_any (A : Tree) (c0 c1 c2 : Value) (w : World) (h : ArrP w A c0 c1 c2) :
  Calls Tryz.prog 135 #[.agg #[c0, c1, c2]] w (Tell (.bool (simpleT A)) w) := by
 obtain _ | ⟨S, n, sh, m, L, K, C, N, k, sub⟩ := A
 ·exact (ArrP.leaf h).elim
 obtain ⟨rfl, _, ⟨ao, nc, rfl, hn, _⟩, co, mc, rfl, hm, hc⟩ := h
 have hnn := hn.1; have hnc := hn.2.1; have hmm := hm.1; have hmc := hm.2.1
 have hb := Lib.hid ((Below.refl w.heap.size w).alloc (Nat.le_refl _) (.cells #[.int .u64 S, .slice ao n nc, .slice co m mc] 45))
 by_cases h1 : n = 0
 ·subst h1
  by_cases h2 : m = 1
  ·subst h2
   rcases hc with hc | ⟨b, o, rfl, hc⟩
   ·omega
   ·obtain ⟨e, he, hcell⟩ := hc 0 (by decide)
    have c1 := he 1 (by decide)
    rw [hcell.2.2.1, Nat.zero_mul, Nat.add_zero] at c1
    have c2 := cell_below c1 hb.out
    obtain ⟨x, hx⟩ : ∃ x, x = K 0 := ⟨_, rfl⟩
    have hs : simpleT (.arr S 0 sh 1 L K C N k sub) = !decide (x = 2) := by rw [hx]; rfl
    rw [hs]
    rw [← hx] at c1 c2
    clear hs hx hc he hcell
    go_enter Tryz.func135, Tryz.ntmps135
    go_wp2_with fail
    go_ret
    refine ⟨congrArg (fun b => Ending.returned (.bool b)) ?_, hb.out⟩
    by_cases hx2 : x = 2
    ·simp [hx2]
    ·simp [hx2]
  ·have hs : simpleT (.arr S 0 sh m L K C N k sub) = false := by
    unfold simpleT
    simp [h2]
   rw [hs]
   have h2' : ((m : Int) == 1) = false := by rw [beq_eq_false_iff_ne]; omega
   clear hs hc
   go_enter Tryz.func135, Tryz.ntmps135
   go_wp2_with fail
   go_ret
   exact ⟨rfl, hb.out⟩
 ·have hs : simpleT (.arr S n sh m L K C N k sub) = false := by
   unfold simpleT
   simp [h1]
  rw [hs]
  have h2' : ((n : Int) == 0) = false := by rw [beq_eq_false_iff_ne]; omega
  clear hs hc
  go_enter Tryz.func135, Tryz.ntmps135
  go_wp2_with fail
  go_ret
  exact ⟨rfl, hb.out⟩
theorem zero8_any (N : NumF) (c0 c1 c2 : Value) (w : World) (h : NumP w N c0 c1 c2) :
  Calls Tryz.prog 133 #[.agg #[c0, c1, c2]] w (Tell (.bool (zeroF N)) w) := by
 obtain ⟨neg, an, fa, am, ga⟩ := N
 obtain ⟨rfl, ⟨ao, ac, rfl, hn, _⟩, ⟨bo, bc, rfl, hm, _⟩⟩ := h
 have hnn := hn.1; have hnc := hn.2.1; have hmm := hm.1; have hmc := hm.2.1
 have hb := Lib.hid ((Below.refl w.heap.size w).alloc (Nat.le_refl _) (.cells #[.bool neg, .slice ao an ac, .slice bo am bc] 24))
 have hz : zeroF ⟨neg, an, fa, am, ga⟩ = (!neg && decide (an = 0) && decide (am = 0)) := rfl
 rw [hz]
 clear hz
 go_enter Tryz.func133, Tryz.ntmps133
 cases neg with
 | true =>
  go_wp2_with fail
  go_ret
  exact ⟨rfl, hb.out⟩
 | false =>
  by_cases h1 : an = 0
  ·subst h1
   go_wp2_with fail
   go_ret
   refine ⟨congrArg (fun b => Ending.returned (.bool b)) ?_, hb.out⟩
   rw [Bool.eq_iff_iff]
   simp
  ·have h2' : ((an : Int) == 0) = false := by rw [beq_eq_false_iff_ne]; omega
   have h3' : decide (an = 0) = false := decide_eq_false h1
   rw [h3']
   go_wp2_with fail
   go_ret
   exact ⟨rfl, hb.out⟩
end Go.Proofs.YtaepelipkkmeaaaGreat
