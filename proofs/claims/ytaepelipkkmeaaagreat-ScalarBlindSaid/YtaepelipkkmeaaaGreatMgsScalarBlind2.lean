/-
  scrimref03.Small.
  scrimref04.Small: a number as an int.
  scrimref10.factorial.
  Shapes, plain: how many cells there are, or the error; which place is which cell. scrimref07.Ints, Count.
  Labels, as the document's answer has them (scrimref01): Bit, Has, Join, Flows.
  scrimref08.Simple, zero.
  scrimref08.Size, Depth, Total: through all cells and the arrays in them.
  scrimref06.May, Class.
  scrimref08.Cell, Right: which cells and arrays are right.
  scrimref08.Right: an array is right.
  What the words of numbers tell: a right number, or an error and none.
  scrimref10.Ones, Twos.
  An array that is made cell by cell, some of whose numbers come from calls (Mk); what One tells, plain.
  Arrays, plain: what is without labels, what has got more; what is packed and unpacked.
  What an observer sees of arrays, plain; scrimref01.Flows as a bool, Meet.
  What an observer sees of arrays, plain, further: hidden arrays; covered ones.
  What One and Two make is right; arrays that are alike become such as are (plain).
  What the functions of package scalar are to tell (as hypotheses of the walks of the statements); the document's One and Two, of any word.
  What the functions of package array are to tell (as hypotheses of the walks of the statements).
  scrimlaw08.awake.
  scrimlaw08.ArrayRight, walked.
  scrimref09.cells: whether an observer sees no difference between two cells, where Alike tells it of the arrays in them.
-/
import Derived.Test.YtaepelipkkmeaaaGreatMgsA
import Derived.Test.YtaepelipkkmeaaaGreatMgsB
import Derived.Test.YtaepelipkkmeaaaGreatMgsC
import Derived.Test.YtaepelipkkmeaaaGreatMgsD
import Derived.Test.YtaepelipkkmeaaaGreatMgsE
import Derived.Test.YtaepelipkkmeaaaGreatMgsF
import Derived.Test.YtaepelipkkmeaaaGreatMgsScalarBlind1
import Derived.WalkKit
import Derived.Lib.Small
import Derived.Lib.Walk
import Derived.Lib.BitFns
import Derived.Deep.QuietTactic
import Derived.BigQuiet
import Derived.Deep.LoopGhost
import Derived.Laws.CopyOwn
import Derived.Deep.RegionWith
import Derived.WalkSpells
import Derived.WalkLawsBesides
import Derived.Lib.Hide
import Derived.Deep.RegionHeld3
import Derived.Deep.DrawnRows
import Derived.Deep.CutRange
import Derived.Laws.OwnMore
import Derived.Laws.AppendOwn
import Derived.Deep.AppendLies
import Derived.OpenShut
import Derived.SizedLaws
import Derived.Deep.RegionLaw
namespace Go.Proofs.YtaepelipkkmeaaaGreat

open Go.RowKit Num

attribute [local go_sem ↓] Go.wp_at_zero Go.wp_at_succ

theorem val_digit {f : Nat → Nat} {n j V : Nat} (hn : n ≤ 2) (hj : j < n) (lf : Lim f n) (hV : val f n = V) : V / pw j = V / pw (j + 1) * 4294967296 + f j := by
  have p0 : pw 0 = 1 := rfl
  have p1 : pw 1 = 4294967296 := rfl
  have p2 : pw 2 = 18446744073709551616 := rfl
  have l0 := lf 0 (by omega)
  have hn' : n = 1 ∨ n = 2 := by omega
  rcases hn' with rfl | rfl
  · obtain rfl : j = 0 := by omega
    have e : val f 1 = f 0 := by simp [val, pw]
    rw [p0, p1]; omega
  · have l1 := lf 1 (by omega)
    have e : val f 2 = f 0 + f 1 * 4294967296 := by simp [val, pw]
    have hj' : j = 0 ∨ j = 1 := by omega
    rcases hj' with rfl | rfl
    · rw [p0, p1]; omega
    · rw [p1, p2]; omega

theorem big_not {w : World} {b : Bool} {ao : Option Addr} {n nc : Nat} {x : Int} (h : Right w b ao n nc x) (h2 : 2 < n) : isSmall x = false := by
  obtain ⟨f, f1, f2, hs, cf, hsg⟩ := h.ex
  have h1 := cf.val
  have h3 : f (n - 1) ≠ 0 := by rcases cf.top with h | h <;> omega
  obtain ⟨j, rfl⟩ : ∃ j, n = j + 1 + 1 + 1 := ⟨n - 3, by omega⟩
  have h3 : f (j + 1 + 1) ≠ 0 := h3
  have h4 := val_ge h3
  have h5 : pw 2 ≤ pw (j + 1 + 1) := pw_le (by omega)
  have h6 : pw 2 = 18446744073709551616 := rfl
  simp only [isSmall, decide_eq_false_iff_not]
  omega

set_option maxHeartbeats 2000000 in
theorem rSmall_any (b : Bool) (ao : Option Addr) (n nc : Nat) (x : Int) (w : World) (A : Whole w b ao n nc x) (M : Nat) (h3 : 3 ≤ M) (hM : M ≤ 1000) (hx : x.natAbs < pw M) :
    Calls Tryz.prog 40 #[.agg #[.bool b, .slice ao n nc]] w (Says (smallV x) w) := by
  have A' := Lib.hid A; have hx' := Lib.hid hx
  have m1 := Lib.hid (Nat.lt_of_lt_of_le (int_small (n := 9223372036854775807) (by decide) (by decide)) (pw_le h3))
  have m2 := Lib.hid (Nat.lt_of_lt_of_le (int_small (n := -9223372036854775808) (by decide) (by decide)) (pw_le h3))
  clear A hx
  go_enter Tryz.func40, Tryz.ntmps40
  go_wp2_with fail
  refine gen_calls (fun w' => Below w.heap.size w w' ∧ Box w' w.heap.size (.bool b) (.slice ao n nc))
    ⟨((Below.refl _ w).alloc (Nat.le_refl _) _), (Box.new _ _ _ rfl)⟩ ?_
  rintro w0 ⟨hb0, x0⟩
  refine (rNorm_any b ao n nc x _ (A'.out.below hb0)).mono ?_
  rintro e w1 ⟨sb, so, sn, sc, rfl, hR, hb⟩
  have hb1 := Lib.hid (below_then hb0 (Nat.le_refl _) hb)
  have hR' := Lib.hid hR
  clear hb0 hb x0
  by_cases h2 : 2 < sn
  · have h2i : decide ((2 : Int) < (sn : Int)) = true := decide_eq_true (by omega)
    have es := Lib.hid (big_not hR h2)
    clear hR
    go_wp2_with fail
    refine gen_wp (fun w' => Below w.heap.size w w' ∧ Box w' w1.heap.size (.bool sb) (.slice so sn sc) ∧ Right w' sb so sn sc x) ⟨hb1.out.alloc hb1.out.size _, Box.new _ _ _ rfl, hR'.out.alloc _⟩ ?_
    rintro w2 ⟨bb, p, hR⟩
    have p0 := p.c0; have p1 := p.c1
    clear p hR
    go_quiet (fail)
    have bb := below_drewN bb
    go_wp2_with fail
    go_ret2
    refine ⟨?_, bb _⟩
    simp [smallV, es.out]
  · have h2i : decide ((2 : Int) < (sn : Int)) = false := decide_eq_false (by omega)
    clear hR
    by_cases hhi : (9223372036854775807 : Int) < x
    · have es : Hid (isSmall x = false) := Lib.hid (by simp only [isSmall, decide_eq_false_iff_not]; omega)
      go_wp2_with fail
      refine gen_wp (fun w' => Below w.heap.size w w' ∧ Box w' w1.heap.size (.bool sb) (.slice so sn sc) ∧ Right w' sb so sn sc x) ⟨hb1.out.alloc hb1.out.size _, Box.new _ _ _ rfl, hR'.out.alloc _⟩ ?_
      rintro w2 ⟨bb, p, hR⟩
      have bb := bb.drew; have p := p.drew; have A := (hR.whole hx'.out (by omega)).drew
      have p0 := p.c0; have p1 := p.c1
      have s0 := True.intro
      clear hR
      go_region_with (first
        | (go_at_call 97; clear s0; refine (rOf_any 9223372036854775807 _ (by decide) (by decide)).mono ?_; rintro e w' ⟨tb, to_, tn, tc, rfl, hT, hb⟩; have bb := below_then bb (Nat.le_refl _) hb; have p := p.later hb; have A := A.below hb; have hT := hT.whole m1.out (by omega); have p0 := p.c0; have p1 := p.c1)
        | (go_at_call 96; refine (rCmp_any sb tb so to_ sn sc tn tc x 9223372036854775807 _ A hT M hM hx'.out m1.out).mono ?_; rintro e w' ⟨rfl, hb⟩; have bb := below_then bb (Nat.le_refl _) hb; rw [cmpI_gt hhi]))
      all_goals
        go_wp2_with fail
        go_ret2
        refine ⟨?_, bb⟩
        simp [smallV, es.out]
    · have d1 : decide ((0 : Int) < cmpI x 9223372036854775807) = false := decide_eq_false (by
        by_cases h : x = 9223372036854775807
        · rw [cmpI_eq h]; omega
        · rw [cmpI_lt (by omega)]; omega)
      by_cases hlo : x < (-9223372036854775808 : Int)
      · have es : Hid (isSmall x = false) := Lib.hid (by simp only [isSmall, decide_eq_false_iff_not]; omega)
        go_wp2_with fail
        refine gen_wp (fun w' => Below w.heap.size w w' ∧ Box w' w1.heap.size (.bool sb) (.slice so sn sc) ∧ Right w' sb so sn sc x) ⟨hb1.out.alloc hb1.out.size _, Box.new _ _ _ rfl, hR'.out.alloc _⟩ ?_
        rintro w2 ⟨bb, p, hR⟩
        have bb := bb.drew; have p := p.drew; have A := (hR.whole hx'.out (by omega)).drew
        have sa0 := True.intro
        go_region_held3 (fun w' => w'.cell? ⟨w1.heap.size, 0, none⟩ = some (.bool sb) ∧ w'.cell? ⟨w1.heap.size, 1, none⟩ = some (.slice so sn sc))
          (first | with_reducible exact ⟨p.c0, p.c1⟩ | go_keep)
          (first
          | (go_at_call 97; clear sa0; refine (rOf_any 9223372036854775807 _ (by decide) (by decide)).mono ?_; rintro e w' ⟨tb, to_, tn, tc, rfl, hT, hb⟩; have bb := below_then bb (Nat.le_refl _) hb; have p := p.later hb; have A := A.below hb; have hT := hT.whole m1.out (by omega); have sa1 := True.intro)
          | (go_at_call 96; clear sa1; refine (rCmp_any sb tb so to_ sn sc tn tc x 9223372036854775807 _ A hT M hM hx'.out m1.out).mono ?_; rintro e w' ⟨rfl, hb⟩; have bb := below_then bb (Nat.le_refl _) hb; have p := p.later hb; have A := A.below hb; have hT := hT.below hb; have sa2 := True.intro)
          | (go_at_call 97; clear sa2; refine (rOf_any (-9223372036854775808) _ (by decide) (by decide)).mono ?_; rintro e w' ⟨tb, to_, tn, tc, rfl, hT, hb⟩; have bb := below_then bb (Nat.le_refl _) hb; have p := p.later hb; have A := A.below hb; have hT := hT.whole m2.out (by omega); have sa3 := True.intro)
          | (go_at_call 96; clear sa3; refine (rCmp_any sb tb so to_ sn sc tn tc x (-9223372036854775808) _ A hT M hM hx'.out m2.out).mono ?_; rintro e w' ⟨rfl, hb⟩; have bb := below_then bb (Nat.le_refl _) hb; have p := p.later hb; have A := A.below hb; have hT := hT.below hb; rw [cmpI_lt hlo]; have sa4 := True.intro))
        go_wp2_with fail
        go_ret2
        refine ⟨?_, bb⟩
        simp [smallV, es.out]
      · have d2 : decide (cmpI x (-9223372036854775808) < (0 : Int)) = false := decide_eq_false (by
          by_cases h : x = -9223372036854775808
          · rw [cmpI_eq h]; omega
          · rw [cmpI_gt (by omega)]; omega)
        have es : Hid (isSmall x = true) := Lib.hid (by simp only [isSmall, decide_eq_true_eq]; omega)
        go_wp2_with fail
        refine gen_wp (fun w' => Below w.heap.size w w' ∧ Box w' w1.heap.size (.bool sb) (.slice so sn sc) ∧ Right w' sb so sn sc x) ⟨hb1.out.alloc hb1.out.size _, Box.new _ _ _ rfl, hR'.out.alloc _⟩ ?_
        rintro w2 ⟨bb, p, hR⟩
        obtain ⟨f, f1, f2, hs, cf, hsg⟩ := hR.ex
        have bb := bb.drew; have p := p.drew; have A := (hR.whole hx'.out (by omega)).drew
        have hs := hs.below (Below.refl _ _).drew
        have cf' := Lib.hid cf; have hsg' := Lib.hid hsg
        clear hsg cf f1 f2 hR
        have sb0 := True.intro
        go_region_held3 (fun w' => w'.cell? ⟨w1.heap.size, 0, none⟩ = some (.bool sb) ∧ w'.cell? ⟨w1.heap.size, 1, none⟩ = some (.slice so sn sc))
          (first | with_reducible exact ⟨p.c0, p.c1⟩ | go_keep)
          (first
          | (go_at_call 97; clear sb0; refine (rOf_any 9223372036854775807 _ (by decide) (by decide)).mono ?_; rintro e w' ⟨tb, to_, tn, tc, rfl, hT, hb⟩; have bb := below_then bb (Nat.le_refl _) hb; have p := p.later hb; have A := A.below hb; have hs := hs.below hb; have hT := hT.whole m1.out (by omega); have sb1 := True.intro)
          | (go_at_call 96; clear sb1; refine (rCmp_any sb tb so to_ sn sc tn tc x 9223372036854775807 _ A hT M hM hx'.out m1.out).mono ?_; rintro e w' ⟨rfl, hb⟩; have bb := below_then bb (Nat.le_refl _) hb; have p := p.later hb; have A := A.below hb; have hs := hs.below hb; have hT := hT.below hb; have sb2 := True.intro)
          | (go_at_call 97; clear sb2; refine (rOf_any (-9223372036854775808) _ (by decide) (by decide)).mono ?_; rintro e w' ⟨tb, to_, tn, tc, rfl, hT, hb⟩; have bb := below_then bb (Nat.le_refl _) hb; have p := p.later hb; have A := A.below hb; have hs := hs.below hb; have hT := hT.whole m2.out (by omega); have sb3 := True.intro)
          | (go_at_call 96; clear sb3; refine (rCmp_any sb tb so to_ sn sc tn tc x (-9223372036854775808) _ A hT M hM hx'.out m2.out).mono ?_; rintro e w' ⟨rfl, hb⟩; have bb := below_then bb (Nat.le_refl _) hb; have p := p.later hb; have A := A.below hb; have hs := hs.below hb; have hT := hT.below hb; have sb4 := True.intro))
        have hs' := Lib.hid hs; have bb' := Lib.hid bb
        have p0 := p.c0; have p1 := p.c1
        have hxb := Lib.hid (show x.natAbs ≤ 9223372036854775808 by omega)
        have sn2 := Lib.hid (show sn ≤ 2 by omega)
        have xx := Lib.hid (sgn_self x)
        clear hs bb p A hT
        go_wp2_with fail
        go_loop [5, 6] (fun v i => ∃ j : Nat, j ≤ sn ∧ i = .int .i64 ((j : Int) - 1) ∧ v = .int .i64 (sgn sb (x.natAbs / pw j))) (fun _ i => (intOf i + 1).toNat)
        case atStart => exact ⟨sn, Nat.le_refl _, rfl, int_eq (by rw [Nat.div_eq_of_lt cf'.out.lt_pw]; cases sb <;> rfl)⟩
        case round =>
          obtain ⟨j, hj, rfl, rfl⟩ := hrel
          by_cases h0 : j = 0
          · subst h0
            have e : sgn sb (x.natAbs / pw 0) = x := by
              rw [show pw 0 = 1 from rfl, Nat.div_one, hsg'.out]
              exact xx.out
            rw [e]
            clear e
            go_wp2_with fail
            go_ret2
            refine ⟨?_, bb'.out⟩
            simp [smallV, es.out]
          · obtain ⟨t, rfl⟩ : ∃ t, j = t + 1 := ⟨j - 1, by omega⟩
            have e : ((t + 1 : Nat) : Int) - 1 = (t : Int) := by omega
            rw [e]
            clear e
            rcases hs'.out with h | ⟨g, off, rfl, hc⟩
            · omega
            have hcell := hc t (by omega)
            have hl := cf'.out.lim t (by omega)
            have hd := val_digit sn2.out (by omega) cf'.out.lim cf'.out.val (j := t)
            have hle := Nat.div_le_self x.natAbs (pw t)
            obtain ⟨a, ha⟩ : ∃ a, a = x.natAbs / pw (t + 1) := ⟨_, rfl⟩
            rw [← ha] at hd ⊢
            have hd' := Lib.hid hd; have ha' := Lib.hid ha
            cases sb
            · have hx0 : 0 ≤ x := by have := hsg'.out; simp at this; exact this
              have b1 : (a : Int) * 4294967296 + (f t : Int) ≤ 9223372036854775807 := by omega
              have b2 : (0 : Int) ≤ (a : Int) * 4294967296 := by omega
              rw [sgn_false]
              clear hc hd ha hle hx0
              go_wp2_with fail
              go_round
              case rel => exact ⟨t, by omega, rfl, int_eq (by rw [hd'.out, sgn_false]; omega)⟩
              case measure => simp [intOf]
            · have b1 : -9223372036854775808 ≤ -(a : Int) * 4294967296 - (f t : Int) := by have := hxb.out; omega
              have b2 : -(a : Int) * 4294967296 ≤ 0 := by omega
              rw [sgn_true]
              clear hc hd ha hle
              go_wp2_with fail
              go_round
              case rel => exact ⟨t, by omega, rfl, int_eq (by rw [hd'.out, sgn_true]; omega)⟩
              case measure => simp [intOf]

end Go.Proofs.YtaepelipkkmeaaaGreat
namespace Go.Proofs.YtaepelipkkmeaaaGreat

open Go.RowKit Num

attribute [local go_sem ↓] Go.wp_at_zero Go.wp_at_succ

set_option maxRecDepth 20000 in
set_option maxHeartbeats 4000000 in
theorem small4_any (ab : Bool) (ap aq : Option Addr) (an ac am ae : Nat) (P : Int) (Q : Nat) (w : World) (Ra : Rt w ab ap an ac aq am ae P Q) (la : Low P Q) :
    Calls Tryz.prog 13 #[.agg #[.bool ab, .slice ap an ac, .slice aq am ae]] w (Says (smallR P Q) w) := by
  replace Ra := Lib.hid Ra; replace la := Lib.hid la
  by_cases hQ : Q = 1
  · have e1 := Lib.hid (show smallR P Q = smallV P by subst hQ; rfl)
    have hQ' := Lib.hid hQ
    clear hQ
    go_enter Tryz.func13, Tryz.ntmps13
    go_upto_region 1 with fail
    refine gen_wp (fun w' => Below w.heap.size w w' ∧ Box3 w' w.heap.size (.bool ab) (.slice ap an ac) (.slice aq am ae)) ⟨(Below.refl _ _).alloc (Nat.le_refl _) _, Box3.new _ _ _ _ rfl⟩ ?_
    rintro w0 ⟨bb, X⟩
    have R0 := Lib.hid (Ra.out.below bb)
    have p0 := X.c0; have p1 := X.c1; have p2 := X.c2
    replace bb := Lib.hid bb; replace X := Lib.hid X
    go_wp2_with fail
    refine ((isWhole_any ab ap aq an ac am ae P Q _ R0.out).mono fun _ _ h => (show Says (.bool true) _ _ _ by rw [decide_eq_true hQ'.out] at h; exact h)).mono ?_
    rintro e v1 ⟨rfl, hb⟩
    replace bb := Lib.hid (below_then bb.out (Nat.le_refl _) hb); replace X := Lib.hid (X.out.later hb); replace R0 := Lib.hid (R0.out.below hb)
    clear hb p0 p1 p2
    have p0 := X.out.c0; have p1 := X.out.c1; have p2 := X.out.c2
    go_wp2_with fail
    refine (rTop_any ab ap aq an ac am ae P _ (R0.out.upper la.out)).mono ?_
    rintro e v2 ⟨tb, tp, tn, tc, rfl, T, hb⟩
    replace bb := Lib.hid (below_then bb.out (Nat.le_refl _) hb); replace T := Lib.hid T
    clear hb p0 p1 p2 X R0
    go_wp2_with fail
    refine (rSmall_any tb tp tn tc P _ (T.out.whole32 la.out.abs_lt) 32 (by omega) (by omega) la.out.abs_lt).mono ?_
    rintro e v3 ⟨rfl, hb⟩
    replace bb := Lib.hid (below_then bb.out (Nat.le_refl _) hb)
    clear hb T
    cases hsm : isSmall P
    all_goals
      have hv := Lib.hid (show smallV P = smallV P from rfl)
      unfold smallV at hv ⊢
      rw [hsm] at hv ⊢
      have hsm' := Lib.hid hsm
      clear hsm hv
      go_wp2_with fail
      go_ret2
      exact ⟨by rw [e1.out]; unfold smallV; rw [hsm'.out]; rfl, bb.out⟩
  · have hs := Lib.hid (show smallR P Q = .tuple #[.int .i64 0, .bool false] by unfold smallR smallP smallQ; rw [decide_eq_false hQ]; rfl)
    have hQ' := Lib.hid hQ
    clear hQ
    go_enter Tryz.func13, Tryz.ntmps13
    go_upto_region 1 with fail
    refine gen_wp (fun w' => Below w.heap.size w w' ∧ Box3 w' w.heap.size (.bool ab) (.slice ap an ac) (.slice aq am ae)) ⟨(Below.refl _ _).alloc (Nat.le_refl _) _, Box3.new _ _ _ _ rfl⟩ ?_
    rintro w0 ⟨bb, X⟩
    have R0 := Lib.hid (Ra.out.below bb)
    have p0 := X.c0; have p1 := X.c1; have p2 := X.c2
    replace bb := Lib.hid bb
    go_wp2_with fail
    refine ((isWhole_any ab ap aq an ac am ae P Q _ R0.out).mono fun _ _ h => (show Says (.bool false) _ _ _ by rw [decide_eq_false hQ'.out] at h; exact h)).mono ?_
    rintro e v1 ⟨rfl, hb⟩
    replace bb := Lib.hid (below_then bb.out (Nat.le_refl _) hb)
    clear hb p0 p1 p2 X R0
    go_wp2_with fail
    go_ret2
    exact ⟨by rw [hs.out]; rfl, bb.out⟩

end Go.Proofs.YtaepelipkkmeaaaGreat
namespace Go.Proofs.YtaepelipkkmeaaaGreat

open Go.RowKit Num

attribute [local go_sem ↓] Go.wp_at_zero Go.wp_at_succ

theorem factZ_abs : (j : Nat) → j ≤ 200 → (factZ j).natAbs < pw (j + 1)
  | 0, _ => by show (1 : Int).natAbs < pw 1; decide
  | j + 1, h => by
    have := factZ_abs j (by omega)
    show (factZ j * ((j : Int) + 1)).natAbs < 4294967296 * pw (j + 1)
    rw [Int.natAbs_mul, show ((j : Int) + 1).natAbs = j + 1 by omega, Nat.mul_comm]
    exact Nat.lt_of_le_of_lt (Nat.mul_le_mul_right _ (show j + 1 ≤ 4294967295 by omega)) (by omega)

theorem factZ_lt {j : Nat} (h : j ≤ 200) : (factZ j).natAbs < pw 201 := Nat.lt_of_lt_of_le (factZ_abs j h) (pw_le (by omega))

theorem small_of {P : Int} {Q : Nat} (hQ : Q = 1) (h0 : -9223372036854775808 ≤ P) (h1 : P ≤ 9223372036854775807) : smallR P Q = .tuple #[.int .i64 P, .bool true] := by
  have e : smallQ P Q = true := by unfold smallQ isSmall; rw [decide_eq_true hQ, Bool.true_and]; exact decide_eq_true ⟨h0, h1⟩
  unfold smallR smallP; rw [e, if_pos rfl]

theorem small_200 {n : Nat} (h : n ≤ 201) : (n : Int).natAbs < pw 201 := Nat.lt_of_lt_of_le (show (n : Int).natAbs < pw 1 by rw [Int.natAbs_natCast]; exact Nat.lt_of_le_of_lt h (by decide)) (pw_le (by omega))

end Go.Proofs.YtaepelipkkmeaaaGreat
namespace Go.Proofs.YtaepelipkkmeaaaGreat

open Go.RowKit

theorem prodZ_mono {f : Nat → Int} {m : Nat} : ∀ n, (∀ j, j < n → 1 ≤ f j) → m ≤ n → prodZ f m ≤ prodZ f n
  | 0, _, h => by
    obtain rfl : m = 0 := by omega
    exact Int.le_refl _
  | n + 1, h, hm => by
    by_cases e : m = n + 1
    · subst e; exact Int.le_refl _
    · have a := prodZ_mono (m := m) n (fun j hj => h j (by omega)) (by omega)
      have p := prodZ_pos n fun j hj => h j (by omega)
      have b := h n (by omega)
      show prodZ f m ≤ prodZ f n * f n
      have := Int.mul_le_mul_of_nonneg_left b (show 0 ≤ prodZ f n by omega)
      omega

theorem prodZ_zero {f : Nat → Int} {j : Nat} (hj : f j = 0) : ∀ n, j < n → prodZ f n = 0
  | 0, h => by omega
  | n + 1, h => by
    show prodZ f n * f n = 0
    by_cases e : j = n
    · rw [← e, hj, Int.mul_zero]
    · rw [prodZ_zero hj n (by omega), Int.zero_mul]

/-- How many cells a shape has, or the error (3: Domain, 7: Limit). -/
def CountIs (f : Nat → Int) (n : Nat) (N e : Int) : Prop :=
  (6 < n ∧ N = 0 ∧ e = 7) ∨ (n ≤ 6 ∧ (((∃ j, j < n ∧ f j < 0) ∧ N = 0 ∧ e = 3) ∨ ((∀ j, j < n → 0 ≤ f j) ∧
    (((∃ j, j < n ∧ 2048 < f j) ∧ N = 0 ∧ e = 7) ∨ ((∀ j, j < n → f j ≤ 2048) ∧ ((2048 < prodZ f n ∧ N = 0 ∧ e = 7) ∨ (prodZ f n ≤ 2048 ∧ N = prodZ f n ∧ e = 0)))))))

theorem CountIs.shape {f : Nat → Int} {n : Nat} {N e : Int} (a : CountIs f n N e) (h : e = 0) : Shape f n N := by
  rcases a with ⟨a1, a2, a3⟩ | ⟨a1, ⟨⟨j, hj, a2⟩, a3, a4⟩ | ⟨a2, ⟨⟨j, hj, a3⟩, a4, a5⟩ | ⟨a3, ⟨a4, a5, a6⟩ | ⟨a4, a5, a6⟩⟩⟩⟩
  any_goals omega
  exact ⟨a1, a2, a3, a5, by omega⟩

theorem CountIs.none {f : Nat → Int} {n : Nat} {N e : Int} (a : CountIs f n N e) (h : e ≠ 0) : N = 0 ∧ (e = 3 ∨ e = 7) ∧ ∀ M, ¬ Shape f n M := by
  rcases a with ⟨a1, a2, a3⟩ | ⟨a1, ⟨⟨j, hj, a2⟩, a3, a4⟩ | ⟨a2, ⟨⟨j, hj, a3⟩, a4, a5⟩ | ⟨a3, ⟨a4, a5, a6⟩ | ⟨a4, a5, a6⟩⟩⟩⟩
  · exact ⟨a2, .inr a3, fun M k => by have := k.rank; omega⟩
  · exact ⟨a3, .inl a4, fun M k => by have := k.low j hj; omega⟩
  · exact ⟨a4, .inr a5, fun M k => by have := k.high j hj; omega⟩
  · exact ⟨a5, .inr a6, fun M k => by have := k.all; have := k.most; omega⟩
  · exact absurd a6 h

set_option maxRecDepth 20000 in
set_option maxHeartbeats 4000000 in
theorem count7_any (ao : Option Addr) (n nc : Nat) (f : Nat → Int) (w : World) (hn : n ≤ 9223372036854775807) (hf : SlZ w ao n f) :
    Calls Tryz.prog 83 #[.slice ao n nc] w fun e w' => (∃ N E : Int, e = .returned (.tuple #[.int .i64 N, .int .i64 E]) ∧ CountIs f n N E) ∧ w = w' := by
  by_cases h6 : 6 < n
  · have h6' : (6 : Int) < (n : Int) := by omega
    go_enter Tryz.func83, Tryz.ntmps83
    go_wp2_with fail
    go_ret2
    exact ⟨⟨0, 7, rfl, .inl ⟨h6, rfl, rfl⟩⟩, rfl⟩
  · have h6' : ¬ (6 : Int) < (n : Int) := by omega
    have h6n : n ≤ 6 := by omega
    clear h6
    go_enter Tryz.func83, Tryz.ntmps83
    go_wp2_with fail
    go_loopw [4, 5, 6] (fun b z i wr => ∃ (j : Nat) (B Z : Bool), j ≤ n ∧ i = .int .i64 j ∧ b = .bool B ∧ z = .bool Z ∧ Hid (∀ t, t < j → 0 ≤ f t) ∧ Hid (B = true ↔ ∃ t, t < j ∧ 2048 < f t) ∧ Hid (Z = true ↔ ∃ t, t < j ∧ f t = 0) ∧ wr = w) (fun _ _ i _ => n - (intOfZ i).toNat)
    case atStart => exact ⟨0, false, false, Nat.zero_le _, rfl, rfl, rfl, Lib.hid fun t h => by omega, Lib.hid ⟨fun h => (Bool.false_ne_true h).elim, fun ⟨t, h, _⟩ => by omega⟩, Lib.hid ⟨fun h => (Bool.false_ne_true h).elim, fun ⟨t, h, _⟩ => by omega⟩, rfl⟩
    case round =>
      obtain ⟨j, B, Z, hj, rfl, rfl, rfl, hd, hB, hZ, rfl⟩ := hrel
      by_cases hlt : j < n
      · rcases hf with h | ⟨b, off, rfl, hc⟩
        · omega
        have c1 := hc j hlt
        clear hc
        by_cases hneg : f j < 0
        · have hneg' := Lib.hid hneg
          go_wp2_with fail
          go_ret2
          exact ⟨⟨0, 3, rfl, .inr ⟨h6n, .inl ⟨⟨j, hlt, hneg'.out⟩, rfl, rfl⟩⟩⟩, rfl⟩
        · have hd2 := Lib.hid (show ∀ t, t < j + 1 → 0 ≤ f t from fun t ht => by
            by_cases e : t = j
            · rw [e]; omega
            · exact hd.out t (by omega))
          have hB2 := Lib.hid (show (B || decide (2048 < f j)) = true ↔ ∃ t, t < j + 1 ∧ 2048 < f t from by
            rw [Bool.or_eq_true, hB.out, decide_eq_true_eq]
            constructor
            · rintro (⟨t, h1, h2⟩ | h)
              · exact ⟨t, by omega, h2⟩
              · exact ⟨j, by omega, h⟩
            · rintro ⟨t, h1, h2⟩
              by_cases e : t = j
              · rw [e] at h2; exact .inr h2
              · exact .inl ⟨t, by omega, h2⟩)
          have hZ2 := Lib.hid (show (Z || decide (f j = 0)) = true ↔ ∃ t, t < j + 1 ∧ f t = 0 from by
            rw [Bool.or_eq_true, hZ.out, decide_eq_true_eq]
            constructor
            · rintro (⟨t, h1, h2⟩ | h)
              · exact ⟨t, by omega, h2⟩
              · exact ⟨j, by omega, h⟩
            · rintro ⟨t, h1, h2⟩
              by_cases e : t = j
              · rw [e] at h2; exact .inr h2
              · exact .inl ⟨t, by omega, h2⟩)
          have hnn : ¬ f j < 0 := hneg
          clear hneg hd hB hZ
          cases B <;> cases Z <;>
          · go_wp2_with fail
            go_roundw
            case rel => exact ⟨j + 1, _, _, by omega, by go_num, rfl, rfl, hd2, hB2, hZ2, by trivial⟩
            case measure => simp [intOfZ]; omega
      · obtain rfl : j = n := by omega
        by_cases hBt : ∃ t, t < j ∧ 2048 < f t
        · obtain rfl : B = true := hB.out.2 hBt
          have hBt' := Lib.hid hBt
          clear hBt
          go_wp2_with fail
          go_ret2
          exact ⟨⟨0, 7, rfl, .inr ⟨h6n, .inr ⟨hd.out, .inl ⟨hBt'.out, rfl, rfl⟩⟩⟩⟩, rfl⟩
        · obtain rfl : B = false := by
            rcases Bool.eq_false_or_eq_true B with h | h
            · exact absurd (hB.out.1 h) hBt
            · exact h
          have hhi := Lib.hid (show ∀ t, t < j → f t ≤ 2048 from fun t ht => Int.not_lt.1 fun h => hBt ⟨t, ht, h⟩)
          clear hBt
          by_cases hZt : ∃ t, t < j ∧ f t = 0
          · obtain rfl : Z = true := hZ.out.2 hZt
            have hp := Lib.hid (show prodZ f j = 0 by obtain ⟨t, h1, h2⟩ := hZt; exact prodZ_zero h2 j h1)
            clear hZt
            go_wp2_with fail
            go_ret2
            exact ⟨⟨0, 0, rfl, .inr ⟨h6n, .inr ⟨hd.out, .inr ⟨hhi.out, .inr ⟨by rw [hp.out]; decide, hp.out.symm, rfl⟩⟩⟩⟩⟩, rfl⟩
          · obtain rfl : Z = false := by
              rcases Bool.eq_false_or_eq_true Z with h | h
              · exact absurd (hZ.out.1 h) hZt
              · exact h
            have hlo := Lib.hid (show ∀ t, t < j → 1 ≤ f t from fun t ht => by
              have := hd.out t ht
              have : f t ≠ 0 := fun h => hZt ⟨t, ht, h⟩
              omega)
            clear hZt hB hZ
            go_wp2_with fail
            go_loopw [7, 8] (fun p i wr' => ∃ k : Nat, k ≤ j ∧ i = .int .i64 k ∧ p = .int .i64 (prodZ f k) ∧ prodZ f k ≤ 2048 ∧ wr' = wr) (fun _ i _ => j - (intOfZ i).toNat)
            case atStart => exact ⟨0, Nat.zero_le _, rfl, rfl, by show (1 : Int) ≤ 2048; decide, rfl⟩
            case round =>
              obtain ⟨k, hk, rfl, rfl, hpk, rfl⟩ := hrel
              have p1 := prodZ_pos k fun t ht => hlo.out t (by omega)
              by_cases hlt2 : k < j
              · rcases hf with h | ⟨b, off, rfl, hc⟩
                · omega
                have c1 := hc k hlt2
                have k1 := hlo.out k hlt2
                have k2 := hhi.out k hlt2
                clear hc
                obtain ⟨x, hx⟩ : ∃ x, x = prodZ f k := ⟨_, rfl⟩
                obtain ⟨y, hy⟩ : ∃ y, y = f k := ⟨_, rfl⟩
                obtain ⟨z, hz⟩ : ∃ z, z = x * y := ⟨_, rfl⟩
                have hz1 : z ≤ 4194304 := by rw [hz]; rw [← hx] at hpk p1; rw [← hy] at k1 k2; exact Int.mul_le_mul hpk k2 (by omega) (by decide)
                have hz0 : 0 ≤ z := by rw [hz]; rw [← hx] at hpk p1; rw [← hy] at k1 k2; exact Int.mul_nonneg (by omega) (by omega)
                have hzn := Lib.hid (show prodZ f (k + 1) = z by rw [hz, hx, hy]; rfl)
                have hzm := Lib.hid (show prodZ f (k + 1) ≤ prodZ f j from prodZ_mono j hlo.out hlt2)
                rw [← hy] at c1
                rw [← hx]
                have hw : IntKind.i64.wrap (x * y) = z := by rw [← hz]; simp [IntKind.wrap, IntKind.bits, IntKind.signed]; omega
                clear hz hx hy hpk p1 k1 k2
                by_cases hbig : 2048 < z
                · have hbig' := Lib.hid hbig
                  go_wp2_with fail
                  go_ret2
                  exact ⟨⟨0, 7, rfl, .inr ⟨h6n, .inr ⟨hd.out, .inr ⟨hhi.out, .inl ⟨by have := hzn.out; have := hzm.out; have := hbig'.out; omega, rfl, rfl⟩⟩⟩⟩⟩, rfl⟩
                · have hsm := Lib.hid (show prodZ f (k + 1) ≤ 2048 by rw [hzn.out]; omega)
                  go_wp2_with fail
                  go_roundw
                  case rel => exact ⟨k + 1, by omega, by go_num, by rw [hzn.out], hsm.out, by trivial⟩
                  case measure => simp [intOfZ]; omega
              · obtain rfl : k = j := by omega
                go_wp2_with fail
                go_ret2
                exact ⟨⟨_, 0, rfl, .inr ⟨h6n, .inr ⟨hd.out, .inr ⟨hhi.out, .inr ⟨hpk, rfl, rfl⟩⟩⟩⟩⟩, rfl⟩

end Go.Proofs.YtaepelipkkmeaaaGreat
namespace Go.Proofs.YtaepelipkkmeaaaGreat

open Go.RowKit

set_option maxRecDepth 20000 in
set_option maxHeartbeats 2000000 in
theorem bit01_any (i : Nat) (hi : i < 64) (w : World) : Calls Tryz.prog 138 #[.int .i64 i] w fun e w' => e = .returned (.int .u64 ((2 ^ i : Nat) : Int)) ∧ w = w' := by
  go_enter Tryz.func138, Tryz.ntmps138
  go_wp2_with fail
  go_loopw [3, 4] (fun m j wr => ∃ k : Nat, k ≤ i ∧ j = .int .i64 k ∧ m = .int .u64 ((2 ^ k : Nat) : Int) ∧ wr = w) (fun _ j _ => i - (intOfZ j).toNat)
  case atStart => exact ⟨0, Nat.zero_le _, rfl, rfl, rfl⟩
  case round =>
    obtain ⟨k, hk, rfl, rfl, rfl⟩ := hrel
    obtain ⟨x, hx⟩ : ∃ x, x = 2 ^ k := ⟨_, rfl⟩
    by_cases hlt : k < i
    · have hx2 : x ≤ 2 ^ 62 := by rw [hx]; exact Nat.pow_le_pow_right (by decide) (by omega)
      have hx3 : x ≤ 4611686018427387904 := hx2
      have hn := Lib.hid (show 2 ^ (k + 1) = x * 2 by rw [Nat.pow_succ, hx])
      rw [← hx]
      clear hx hx2
      go_wp2_with fail
      go_roundw
      case rel => exact ⟨k + 1, by omega, by go_num, by rw [hn.out]; go_num, by trivial⟩
      case measure => simp [intOfZ]; omega
    · obtain rfl : k = i := by omega
      go_wp2_with fail
      go_ret
      exact ⟨rfl, rfl⟩

/-- Has a label a tag? -/
def hasL (l i : Nat) : Bool := l / 2 ^ i % 2 == 1

set_option maxRecDepth 20000 in
set_option maxHeartbeats 2000000 in
theorem has01_any (l i : Nat) (hl : IsL l) (hi : i < 64) (w : World) : Calls Tryz.prog 137 #[.int .u64 l, .int .i64 i] w fun e w' => e = .returned (.bool (hasL l i)) ∧ w = w' := by
  have hl' : l < 18446744073709551616 := hl
  go_enter Tryz.func137, Tryz.ntmps137
  go_wp2_with fail
  go_loopw [0, 5] (fun m j wr => ∃ k : Nat, k ≤ i ∧ j = .int .i64 k ∧ m = .int .u64 ((l / 2 ^ k : Nat) : Int) ∧ wr = w) (fun _ j _ => i - (intOfZ j).toNat)
  case atStart => exact ⟨0, Nat.zero_le _, rfl, by rw [Nat.pow_zero, Nat.div_one], rfl⟩
  case round =>
    obtain ⟨k, hk, rfl, rfl, rfl⟩ := hrel
    have hx2 : l / 2 ^ k ≤ l := Nat.div_le_self _ _
    obtain ⟨x, hx⟩ : ∃ x, x = l / 2 ^ k := ⟨_, rfl⟩
    have hn := Lib.hid (show l / 2 ^ (k + 1) = x / 2 by rw [Nat.pow_succ, ← Nat.div_div_eq_div_mul, hx])
    have hx' := Lib.hid hx
    rw [← hx] at hx2 ⊢
    clear hx
    by_cases hlt : k < i
    · go_wp2_with fail
      go_roundw
      case rel => exact ⟨k + 1, by omega, by go_num, by rw [hn.out]; go_num, by trivial⟩
      case measure => simp [intOfZ]; omega
    · obtain rfl : k = i := by omega
      have he := Lib.hid (show hasL l k = (x % 2 == 1) by unfold hasL; rw [← hx'.out])
      go_wp2_with fail
      go_ret
      refine ⟨congrArg (fun b => Ending.returned (.bool b)) ?_, rfl⟩
      rw [he.out, Bool.eq_iff_iff, beq_iff_eq, beq_iff_eq]
      omega

theorem hasL_bit (l i : Nat) : hasL l i = l.testBit i := by
  unfold hasL
  rw [Nat.testBit_eq_decide_div_mod_eq, Bool.eq_iff_iff, beq_iff_eq, decide_eq_true_eq]

theorem hasL_or (a b i : Nat) : hasL (orL a b) i = (hasL a i || hasL b i) := by
  rw [hasL_bit, hasL_bit, hasL_bit]
  exact Nat.testBit_or ..

theorem orL_step (x j : Nat) : x % 2 ^ (j + 1) = x % 2 ^ j + if hasL x j then 2 ^ j else 0 := by
  rw [Nat.mod_pow_succ]
  congr 1
  unfold hasL
  have : x / 2 ^ j % 2 = 0 ∨ x / 2 ^ j % 2 = 1 := by omega
  rcases this with h | h
  · rw [h]; simp
  · rw [h]; simp

set_option maxRecDepth 20000 in
set_option maxHeartbeats 2000000 in
theorem join01_any (a b : Nat) (ha : IsL a) (hb : IsL b) (w : World) : Calls Tryz.prog 89 #[.int .u64 a, .int .u64 b] w fun e w' => e = .returned (.int .u64 (orL a b : Nat)) ∧ w = w' := by
  obtain ⟨x, hx⟩ : ∃ x, x = orL a b := ⟨_, rfl⟩
  have hxl : x < 18446744073709551616 := by rw [hx]; exact orL_is ha hb
  have hx' := Lib.hid hx
  rw [← hx]
  clear hx
  go_enter Tryz.func89, Tryz.ntmps89
  go_wp2_with fail
  go_loopw [5, 6] (fun m j wr => ∃ k : Nat, k ≤ 64 ∧ j = .int .i64 k ∧ m = .int .u64 ((x % 2 ^ k : Nat) : Int) ∧ wr = w) (fun _ j _ => 64 - (intOfZ j).toNat)
  case atStart => exact ⟨0, Nat.zero_le _, rfl, by rw [Nat.pow_zero, Nat.mod_one]; rfl, rfl⟩
  case round =>
    obtain ⟨k, hk, rfl, rfl, rfl⟩ := hrel
    by_cases hlt : k < 64
    · have hst := orL_step x k
      have hor := hasL_or a b k
      rw [← hx'.out] at hor
      have hle : x % 2 ^ (k + 1) ≤ x := Nat.mod_le _ _
      obtain ⟨y, hy⟩ : ∃ y, y = x % 2 ^ k := ⟨_, rfl⟩
      obtain ⟨p, hp⟩ : ∃ p, p = 2 ^ k := ⟨_, rfl⟩
      have hbit := Lib.hid (fun w => bit01_any k hlt w)
      rw [← hy] at hst ⊢
      rw [← hp] at hst hbit
      have hy' := Lib.hid hy
      clear hy hp
      by_cases h1 : hasL a k = true
      · rw [h1, Bool.true_or] at hor
        rw [if_pos hor] at hst
        have hst' := Lib.hid hst
        have hsm : y + p < 18446744073709551616 := by omega
        clear hst hor hle
        go_wp2_with fail
        refine (has01_any a k ha hlt _).mono ?_
        rintro e w' ⟨rfl, rfl⟩
        rw [h1]
        go_wp2_with fail
        refine (hbit.out _).mono ?_
        rintro e w' ⟨rfl, rfl⟩
        go_wp2_with fail
        go_roundw
        case rel => exact ⟨k + 1, by omega, by go_num, by rw [hst'.out]; go_num, by trivial⟩
        case measure => simp [intOfZ]; omega
      · have h1f : hasL a k = false := by simpa using h1
        by_cases h2 : hasL b k = true
        · rw [h1f, h2, Bool.false_or] at hor
          rw [if_pos hor] at hst
          have hst' := Lib.hid hst
          have hsm : y + p < 18446744073709551616 := by omega
          clear hst hor hle h1
          go_wp2_with fail
          refine (has01_any a k ha hlt _).mono ?_
          rintro e w' ⟨rfl, rfl⟩
          rw [h1f]
          go_wp2_with fail
          refine (has01_any b k hb hlt _).mono ?_
          rintro e w' ⟨rfl, rfl⟩
          rw [h2]
          go_wp2_with fail
          refine (hbit.out _).mono ?_
          rintro e w' ⟨rfl, rfl⟩
          go_wp2_with fail
          go_roundw
          case rel => exact ⟨k + 1, by omega, by go_num, by rw [hst'.out]; go_num, by trivial⟩
          case measure => simp [intOfZ]; omega
        · have h2f : hasL b k = false := by simpa using h2
          rw [h1f, h2f, Bool.false_or] at hor
          rw [if_neg (by rw [hor]; decide), Nat.add_zero] at hst
          have hst' := Lib.hid hst
          clear hst hor hle h1 h2
          go_wp2_with fail
          refine (has01_any a k ha hlt _).mono ?_
          rintro e w' ⟨rfl, rfl⟩
          rw [h1f]
          go_wp2_with fail
          refine (has01_any b k hb hlt _).mono ?_
          rintro e w' ⟨rfl, rfl⟩
          rw [h2f]
          go_wp2_with fail
          go_roundw
          case rel => exact ⟨k + 1, by omega, by go_num, by rw [hst'.out]; rfl, by trivial⟩
          case measure => simp [intOfZ]; omega
    · obtain rfl : k = 64 := by omega
      have hm := Lib.hid (show x % 2 ^ 64 = x from Nat.mod_eq_of_lt hxl)
      go_wp2_with fail
      go_ret
      refine ⟨congrArg (fun b => Ending.returned (.int .u64 b)) ?_, rfl⟩
      exact congrArg (fun n : Nat => (n : Int)) hm.out

/-- May a label flow to another one? -/
def FlowsL (a b : Nat) : Prop := ∀ i, i < 64 → hasL a i = true → hasL b i = true

set_option maxRecDepth 20000 in
set_option maxHeartbeats 2000000 in
theorem flows01_any (a b : Nat) (ha : IsL a) (hb : IsL b) (w : World) : Calls Tryz.prog 93 #[.int .u64 a, .int .u64 b] w fun e w' => (e = .returned (.bool true) ∧ FlowsL a b ∨ e = .returned (.bool false) ∧ ¬ FlowsL a b) ∧ w = w' := by
  go_enter Tryz.func93, Tryz.ntmps93
  go_wp2_with fail
  go_loopw [5] (fun j wr => ∃ k : Nat, k ≤ 64 ∧ j = .int .i64 k ∧ Hid (∀ i, i < k → hasL a i = true → hasL b i = true) ∧ wr = w) (fun j _ => 64 - (intOfZ j).toNat)
  case atStart => exact ⟨0, Nat.zero_le _, rfl, Lib.hid fun i h => by omega, rfl⟩
  case round =>
    obtain ⟨k, hk, rfl, hd, rfl⟩ := hrel
    by_cases hlt : k < 64
    · have hnx := Lib.hid (show (hasL a k = true → hasL b k = true) → ∀ i, i < k + 1 → hasL a i = true → hasL b i = true from fun h i hi => by
        by_cases e : i = k
        · rw [e]; exact h
        · exact hd.out i (by omega))
      by_cases h1 : hasL a k = true
      · by_cases h2 : hasL b k = true
        · go_wp2_with fail
          refine (has01_any a k ha hlt _).mono ?_
          rintro e w' ⟨rfl, rfl⟩
          rw [h1]
          go_wp2_with fail
          refine (has01_any b k hb hlt _).mono ?_
          rintro e w' ⟨rfl, rfl⟩
          rw [h2]
          go_wp2_with fail
          go_roundw
          case rel => exact ⟨k + 1, by omega, by go_num, Lib.hid (hnx.out fun _ => h2), by trivial⟩
          case measure => simp [intOfZ]; omega
        · have h2f : hasL b k = false := by simpa using h2
          have h2' := Lib.hid h2
          clear h2
          go_wp2_with fail
          refine (has01_any a k ha hlt _).mono ?_
          rintro e w' ⟨rfl, rfl⟩
          rw [h1]
          go_wp2_with fail
          refine (has01_any b k hb hlt _).mono ?_
          rintro e w' ⟨rfl, rfl⟩
          rw [h2f]
          go_wp2_with fail
          go_ret
          exact ⟨.inr ⟨rfl, fun h => h2'.out (h k hlt h1)⟩, rfl⟩
      · have h1f : hasL a k = false := by simpa using h1
        have h1' := Lib.hid h1
        clear h1
        go_wp2_with (go_at_call 137; refine (has01_any a k ha hlt _).mono ?_; rintro e w' ⟨rfl, rfl⟩; rw [h1f])
        go_roundw
        case rel => exact ⟨k + 1, by omega, by go_num, Lib.hid (hnx.out fun h => absurd h h1'.out), by trivial⟩
        case measure => simp [intOfZ]; omega
    · obtain rfl : k = 64 := by omega
      go_wp2_with fail
      go_ret
      exact ⟨.inl ⟨rfl, hd.out⟩, rfl⟩

end Go.Proofs.YtaepelipkkmeaaaGreat
namespace Go.Proofs.YtaepelipkkmeaaaGreat

open Go.RowKit

set_option maxRecDepth 20000 in
set_option maxHeartbeats 2000000 in
theorem simple8_any (A : Tree) (c0 c1 c2 : Value) (w : World) (h : ArrP w A c0 c1 c2) :
    Calls Tryz.prog 135 #[.agg #[c0, c1, c2]] w (Tell (.bool (simpleT A)) w) := by
  obtain _ | ⟨S, n, sh, m, L, K, C, N, k, sub⟩ := A
  · exact (ArrP.leaf h).elim
  obtain ⟨rfl, _, ⟨ao, nc, rfl, hn, _⟩, co, mc, rfl, hm, hc⟩ := h
  have hnn := hn.1; have hnc := hn.2.1; have hmm := hm.1; have hmc := hm.2.1
  have hb := Lib.hid ((Below.refl w.heap.size w).alloc (Nat.le_refl _) (.cells #[.int .u64 S, .slice ao n nc, .slice co m mc] 45))
  by_cases h1 : n = 0
  · subst h1
    by_cases h2 : m = 1
    · subst h2
      rcases hc with hc | ⟨b, o, rfl, hc⟩
      · omega
      · obtain ⟨e, he, hcell⟩ := hc 0 (by decide)
        have c1 := he 1 (by decide)
        rw [hcell.2.2.1, Nat.zero_mul, Nat.add_zero] at c1
        have c2 := cell_below c1 hb.out
        obtain ⟨x, hx⟩ : ∃ x, x = K 0 := ⟨_, rfl⟩
        have hs : simpleT (.arr S 0 sh 1 L K C N k sub) = !decide (x = 2) := by rw [hx]; rfl
        rw [hs]
        rw [← hx] at c1 c2
        clear hs hx hc he hcell
        go_enter Tryz.func135, Tryz.ntmps135
        go_wp2_with fail
        go_ret
        refine ⟨congrArg (fun b => Ending.returned (.bool b)) ?_, hb.out⟩
        by_cases hx2 : x = 2
        · simp [hx2]
        · simp [hx2]
    · have hs : simpleT (.arr S 0 sh m L K C N k sub) = false := by
        unfold simpleT
        simp [h2]
      rw [hs]
      have h2' : ((m : Int) == 1) = false := by rw [beq_eq_false_iff_ne]; omega
      clear hs hc
      go_enter Tryz.func135, Tryz.ntmps135
      go_wp2_with fail
      go_ret
      exact ⟨rfl, hb.out⟩
  · have hs : simpleT (.arr S n sh m L K C N k sub) = false := by
      unfold simpleT
      simp [h1]
    rw [hs]
    have h2' : ((n : Int) == 0) = false := by rw [beq_eq_false_iff_ne]; omega
    clear hs hc
    go_enter Tryz.func135, Tryz.ntmps135
    go_wp2_with fail
    go_ret
    exact ⟨rfl, hb.out⟩

set_option maxRecDepth 20000 in
set_option maxHeartbeats 2000000 in
theorem zero8_any (N : NumF) (c0 c1 c2 : Value) (w : World) (h : NumP w N c0 c1 c2) :
    Calls Tryz.prog 133 #[.agg #[c0, c1, c2]] w (Tell (.bool (zeroF N)) w) := by
  obtain ⟨neg, an, fa, am, ga⟩ := N
  obtain ⟨rfl, ⟨ao, ac, rfl, hn, _⟩, ⟨bo, bc, rfl, hm, _⟩⟩ := h
  have hnn := hn.1; have hnc := hn.2.1; have hmm := hm.1; have hmc := hm.2.1
  have hb := Lib.hid ((Below.refl w.heap.size w).alloc (Nat.le_refl _) (.cells #[.bool neg, .slice ao an ac, .slice bo am bc] 24))
  have hz : zeroF ⟨neg, an, fa, am, ga⟩ = (!neg && decide (an = 0) && decide (am = 0)) := rfl
  rw [hz]
  clear hz
  go_enter Tryz.func133, Tryz.ntmps133
  cases neg with
  | true =>
    go_wp2_with fail
    go_ret
    exact ⟨rfl, hb.out⟩
  | false =>
    by_cases h1 : an = 0
    · subst h1
      go_wp2_with fail
      go_ret
      refine ⟨congrArg (fun b => Ending.returned (.bool b)) ?_, hb.out⟩
      rw [Bool.eq_iff_iff]
      simp
    · have h2' : ((an : Int) == 0) = false := by rw [beq_eq_false_iff_ne]; omega
      have h3' : decide (an = 0) = false := decide_eq_false h1
      rw [h3']
      go_wp2_with fail
      go_ret
      exact ⟨rfl, hb.out⟩

end Go.Proofs.YtaepelipkkmeaaaGreat
namespace Go.Proofs.YtaepelipkkmeaaaGreat

open Go.RowKit

/-- An array in a cell has fewer parts. -/
theorem parts_sub {S n m : Nat} {sh : Nat → Int} {L : Nat → Nat} {K C : Nat → Int} {N : Nat → NumF} {k : Nat → Nat} {sub : Nat → Nat → Tree} {i j : Nat} (hi : i < m) (hj : j < k i) : partsT (sub i j) + 1 ≤ partsT (.arr S n sh m L K C N k sub) := by
  have a := sumN_one (fun j => partsT (sub i j)) hj
  have b := sumN_one (fun i => 1 + (N i).an + (N i).am + sumN (fun j => partsT (sub i j)) (k i)) hi
  show partsT (sub i j) + 1 ≤ 1 + n + sumN (fun i => 1 + (N i).an + (N i).am + sumN (fun j => partsT (sub i j)) (k i)) m
  have a' : partsT (sub i j) ≤ sumN (fun j => partsT (sub i j)) (k i) := a
  have b' : 1 + (N i).an + (N i).am + sumN (fun j => partsT (sub i j)) (k i) ≤ sumN (fun i => 1 + (N i).an + (N i).am + sumN (fun j => partsT (sub i j)) (k i)) m := b
  omega

end Go.Proofs.YtaepelipkkmeaaaGreat
namespace Go.Proofs.YtaepelipkkmeaaaGreat

open Go.RowKit

set_option maxRecDepth 20000 in
set_option maxHeartbeats 1000000 in
theorem may6_any (c : Int) (w : World) : Calls Tryz.prog 134 #[.int .i64 c] w fun e w' => e = .returned (.bool (mayZ c)) ∧ w = w' := by
  go_enter Tryz.func134, Tryz.ntmps134
  go_wp2_with fail
  all_goals (go_ret; refine ⟨?_, rfl⟩; unfold mayZ; simp_all; try omega)

end Go.Proofs.YtaepelipkkmeaaaGreat
namespace Go.Proofs.YtaepelipkkmeaaaGreat

open Go.RowKit Num

theorem numRight_any (N : NumF) (c0 c1 c2 : Value) (w : World) (h : NumP w N c0 c1 c2) :
    Calls Tryz.prog 14 #[.agg #[c0, c1, c2]] w (BoolPost (RightF N) w) := by
  obtain ⟨neg, an, fa, am, ga⟩ := N
  obtain ⟨rfl, ⟨ao, ac, rfl, hn, hs, hl⟩, ⟨bo, bc, rfl, hm, hs', hl'⟩⟩ := h
  refine (right4_in neg ao bo an ac am bc fa ga w ⟨hn.1, hn.2.1, hs, hl⟩ ⟨hm.1, hm.2.1, hs', hl'⟩).mono ?_
  rintro e w' ⟨r, rfl, h1, h2, hb⟩
  refine ⟨r, rfl, ⟨fun hr => ?_, fun ⟨P, Q, lw, e1, e2, e3⟩ => ?_⟩, hb⟩
  · obtain ⟨P, Q, lw, R⟩ := h1 hr
    have n1 := R.top.len_le32 lw.2.2.1
    have n2 := R.bot.len_le32 (x := (Q : Int)) (by simpa using lw.2.2.2)
    have k1 := R.top.canon ⟨hn.1, hn.2.1, by omega, hs, hl⟩
    have k2 := R.bot.canon ⟨hm.1, hm.2.1, by omega, hs', hl'⟩
    obtain ⟨_, _, _, _, _, e⟩ := R.top.ex
    exact ⟨P, Q, lw, e, k1, by simpa using k2⟩
  · refine h2 P Q lw ⟨⟨fa, hn.1, hn.2.1, hs, e2, e1⟩, ⟨ga, hm.1, hm.2.1, hs', by simpa using e3, by simp⟩⟩

set_option maxRecDepth 20000 in
set_option maxHeartbeats 8000000 in
theorem cell8_of (L : Nat) (K : Int) (N : NumF) (C : Int) (k : Nat) (R : Nat → Value → Value → Value → Prop) (e : Nat → Value) (T : Tree) (d : Nat) (P : Prop) (w : World) (h : CellP w L K N C k R e) (hd : d ≤ 8) (hR : ∀ d0 d1 d2, R 0 d0 d1 d2 → ArrP w T d0 d1 d2)
    (hS : ∀ d0 d1 d2 w', R 0 d0 d1 d2 → Below w.heap.size w w' → 0 < d → Calls Tryz.prog 27 #[.agg #[d0, d1, d2], .int .i64 ((d : Int) - 1)] w' (BoolPost P w')) :
    Calls Tryz.prog 84 #[.agg #[e 0, e 1, e 2, e 3, e 4, e 5, e 6], .int .i64 d] w (BoolPost (CellT K N C k (simpleT T) d P) w) := by
  obtain ⟨p0, pL, p1, pK, hN, p5, pC, io, kc, p6, hk, hrow⟩ := h
  obtain ⟨c0, hc0⟩ : ∃ x, x = e 2 := ⟨_, rfl⟩
  have hN' := Lib.hid hN
  obtain ⟨p2, ⟨ao, ac, p3, ha, _⟩, ⟨bo, bc, p4, hb, _⟩⟩ := hN
  rw [p2, p3, p4] at hN'
  rw [p0, p1, p2, p3, p4, p5, p6]
  have kk1 := hk.1; have kk2 := hk.2.1
  have hbel := Lib.hid ((Below.refl w.heap.size w).alloc (Nat.le_refl _) (.cells #[.int .u64 L, .int .i64 K, .bool N.neg, .slice ao N.an ac, .slice bo N.am bc, .int .i64 C, .slice io k kc] 65))
  have hx := Lib.hid (Box7.new (w := w) (B := w.heap.size) (.int .u64 L) (.int .i64 K) (.bool N.neg) (.slice ao N.an ac) (.slice bo N.am bc) (.int .i64 C) (.slice io k kc) 65 rfl)
  have hr1 := Lib.hid hrow; have hS' := Lib.hid hS; have hRT := Lib.hid hR
  clear p0 pL p1 pK p2 p3 p4 p5 pC p6 ha hb hk hrow hS hR hc0 c0
  by_cases K0 : K = 0
  · subst K0
    by_cases C0 : C = 0
    · subst C0
      by_cases k0 : k = 0
      · subst k0
        go_enter Tryz.func84, Tryz.ntmps84
        go_wp2_with fail
        refine (numRight_any N _ _ _ _ (hN'.out.below hbel.out)).mono ?_
        rintro e' w1 ⟨r, rfl, hr, hb1⟩
        have b1 := Lib.hid (hbel.out.trans (hb1.mono hbel.out.size)); have hr' := Lib.hid hr
        clear hb1 hr
        go_wp2_with fail
        go_ret
        refine ⟨r, rfl, ⟨fun h => .inl ⟨rfl, rfl, rfl, hr'.out.1 h⟩, fun h => hr'.out.2 ?_⟩, b1.out⟩
        rcases h with h | h | h
        · exact h.2.2.2
        · exact absurd h.1 (by decide)
        · exact absurd h.1 (by decide)
      · have kb : ((k : Int) == 0) = false := by rw [beq_eq_false_iff_ne]; omega
        have hn := Lib.hid k0
        clear k0
        go_enter Tryz.func84, Tryz.ntmps84
        go_wp2_with fail
        go_ret
        refine ⟨false, rfl, ⟨fun h => (Bool.false_ne_true h).elim, fun h => ?_⟩, hbel.out⟩
        rcases h with h | h | h
        · exact absurd h.2.2.1 hn.out
        · exact absurd h.1 (by decide)
        · exact absurd h.1 (by decide)
    · have kb : (C == 0) = false := by rw [beq_eq_false_iff_ne]; exact C0
      have hn := Lib.hid C0
      clear C0
      go_enter Tryz.func84, Tryz.ntmps84
      go_wp2_with fail
      go_ret
      refine ⟨false, rfl, ⟨fun h => (Bool.false_ne_true h).elim, fun h => ?_⟩, hbel.out⟩
      rcases h with h | h | h
      · exact absurd h.2.1 hn.out
      · exact absurd h.1 (by decide)
      · exact absurd h.1 (by decide)
  by_cases K1 : K = 1
  · subst K1
    clear K0
    go_enter Tryz.func84, Tryz.ntmps84
    go_wp2_with fail
    refine (zero8_any N _ _ _ _ (hN'.out.below hbel.out)).mono ?_
    rintro e' w1 ⟨rfl, hb1⟩
    have b1 := Lib.hid (hbel.out.trans (hb1.mono hbel.out.size)); have x1 := hx.out.later hb1
    have g5 := x1.c5; have g6 := x1.c6
    clear hb1 hx x1
    obtain ⟨z, hz⟩ : ∃ z, z = zeroF N := ⟨_, rfl⟩
    have hz' := Lib.hid hz
    rw [← hz]
    clear hz
    cases z with
    | false =>
      go_wp2_with fail
      go_ret
      refine ⟨false, rfl, ⟨fun h => (Bool.false_ne_true h).elim, fun h => ?_⟩, b1.out⟩
      have hzo := hz'.out
      rcases h with h | h | h
      · exact absurd h.1 (by decide)
      · rw [h.2.1] at hzo; cases hzo
      · exact absurd h.1 (by decide)
    | true =>
      by_cases k0 : k = 0
      · subst k0
        go_wp2_with fail
        refine (may6_any C _).mono ?_
        rintro e' w2 ⟨rfl, rfl⟩
        go_wp2_with fail
        go_ret
        refine ⟨_, rfl, ⟨fun h => .inr (.inl ⟨rfl, hz'.out.symm, rfl, h⟩), fun h => ?_⟩, b1.out⟩
        rcases h with h | h | h
        · exact absurd h.1 (by decide)
        · exact h.2.2.2
        · exact absurd h.1 (by decide)
      · have kb : ((k : Int) == 0) = false := by rw [beq_eq_false_iff_ne]; omega
        have hn := Lib.hid k0
        clear k0
        go_wp2_with fail
        go_ret
        refine ⟨false, rfl, ⟨fun h => (Bool.false_ne_true h).elim, fun h => ?_⟩, b1.out⟩
        rcases h with h | h | h
        · exact absurd h.1 (by decide)
        · exact absurd h.2.2.1 hn.out
        · exact absurd h.1 (by decide)
  by_cases K2 : K = 2
  · subst K2
    clear K0 K1
    go_enter Tryz.func84, Tryz.ntmps84
    go_wp2_with fail
    refine (zero8_any N _ _ _ _ (hN'.out.below hbel.out)).mono ?_
    rintro e' w1 ⟨rfl, hb1⟩
    have b1 := Lib.hid (hbel.out.trans (hb1.mono hbel.out.size)); have x1 := hx.out.later hb1
    have hx1 := Lib.hid x1
    have g5 := x1.c5; have g6 := x1.c6
    clear hb1 hx x1
    obtain ⟨z, hz⟩ : ∃ z, z = zeroF N := ⟨_, rfl⟩
    have hz' := Lib.hid hz
    rw [← hz]
    clear hz
    cases z with
    | false =>
      go_wp2_with fail
      go_ret
      refine ⟨false, rfl, ⟨fun h => (Bool.false_ne_true h).elim, fun h => ?_⟩, b1.out⟩
      have hzo := hz'.out
      rcases h with h | h | h
      · exact absurd h.1 (by decide)
      · exact absurd h.1 (by decide)
      · rw [h.2.1] at hzo; cases hzo
    | true =>
      by_cases C0 : C = 0
      · subst C0
        by_cases k1 : k = 1
        · subst k1
          by_cases d0 : d = 0
          · subst d0
            go_wp2_with fail
            go_ret
            refine ⟨false, rfl, ⟨fun h => (Bool.false_ne_true h).elim, fun h => ?_⟩, b1.out⟩
            rcases h with h | h | h
            · exact absurd h.1 (by decide)
            · exact absurd h.1 (by decide)
            · exact absurd h.2.2.2.2.1 (by decide)
          · have hd0 : 0 < d := by omega
            have hd1 : (0 : Int) < (d : Int) := by omega
            clear d0
            rcases hr1.out with h0 | ⟨b, o, rfl, hrows⟩
            · omega
            obtain ⟨u0, u1, u2, r0, r1, r2, r3⟩ := hrows 0 (by decide)
            rw [Nat.zero_mul, Nat.add_zero] at r0 r1 r2
            have s0 := cell_below r0 b1.out; have s1 := cell_below r1 b1.out; have s2 := cell_below r2 b1.out
            have hr3 := Lib.hid r3
            clear hrows
            go_wp2_with fail
            refine (simple8_any T u0 u1 u2 _ (ArrP.below _ _ _ _ (hRT.out _ _ _ hr3.out) b1.out)).mono ?_
            rintro e' w2 ⟨rfl, hb2⟩
            have b2 := Lib.hid (b1.out.trans (hb2.mono b1.out.size))
            have x2 := hx1.out.later hb2
            have t6 := x2.c6
            have v0 := cell_below r0 b2.out; have v1 := cell_below r1 b2.out; have v2 := cell_below r2 b2.out
            obtain ⟨si, hsi⟩ : ∃ si, si = simpleT T := ⟨_, rfl⟩
            have hsi' := Lib.hid hsi
            rw [← hsi]
            clear hsi s0 s1 s2 r0 r1 r2 r3 hb2 x2 g5 g6
            cases si with
            | true =>
              go_wp2_with fail
              go_ret
              refine ⟨false, rfl, ⟨fun h => (Bool.false_ne_true h).elim, fun h => ?_⟩, b2.out⟩
              have hso := hsi'.out
              rcases h with h | h | h
              · exact absurd h.1 (by decide)
              · exact absurd h.1 (by decide)
              · rw [h.2.2.2.2.2.1] at hso; cases hso
            | false =>
              go_wp2_with fail
              refine (hS'.out u0 u1 u2 _ hr3.out b2.out hd0).mono ?_
              rintro e' w3 ⟨r, rfl, hr, hb3⟩
              have b3 := Lib.hid (b2.out.trans (hb3.mono b2.out.size)); have hr' := Lib.hid hr
              clear hb3 hr v0 v1 v2 t6
              go_wp2_with fail
              go_ret
              refine ⟨r, rfl, ⟨fun h => .inr (.inr ⟨rfl, hz'.out.symm, rfl, rfl, hd0, hsi'.out.symm, hr'.out.1 h⟩), fun h => hr'.out.2 ?_⟩, b3.out⟩
              rcases h with h | h | h
              · exact absurd h.1 (by decide)
              · exact absurd h.1 (by decide)
              · exact h.2.2.2.2.2.2
        · have kb : ((k : Int) == 1) = false := by rw [beq_eq_false_iff_ne]; omega
          have hn := Lib.hid k1
          clear k1
          go_wp2_with fail
          go_ret
          refine ⟨false, rfl, ⟨fun h => (Bool.false_ne_true h).elim, fun h => ?_⟩, b1.out⟩
          rcases h with h | h | h
          · exact absurd h.1 (by decide)
          · exact absurd h.1 (by decide)
          · exact absurd h.2.2.2.1 hn.out
      · have kb : (C == 0) = false := by rw [beq_eq_false_iff_ne]; exact C0
        have hn := Lib.hid C0
        clear C0
        go_wp2_with fail
        go_ret
        refine ⟨false, rfl, ⟨fun h => (Bool.false_ne_true h).elim, fun h => ?_⟩, b1.out⟩
        rcases h with h | h | h
        · exact absurd h.1 (by decide)
        · exact absurd h.1 (by decide)
        · exact absurd h.2.2.1 hn.out
  have kb0 : (K == 0) = false := by rw [beq_eq_false_iff_ne]; exact K0
  have kb1 : (K == 1) = false := by rw [beq_eq_false_iff_ne]; exact K1
  have kb2 : (K == 2) = false := by rw [beq_eq_false_iff_ne]; exact K2
  have h0 := Lib.hid K0; have h1 := Lib.hid K1; have h2 := Lib.hid K2
  clear K0 K1 K2
  go_enter Tryz.func84, Tryz.ntmps84
  go_wp2_with fail
  go_ret
  refine ⟨false, rfl, ⟨fun h => (Bool.false_ne_true h).elim, fun h => ?_⟩, hbel.out⟩
  rcases h with h | h | h
  · exact absurd h.1 h0.out
  · exact absurd h.1 h1.out
  · exact absurd h.1 h2.out

end Go.Proofs.YtaepelipkkmeaaaGreat
namespace Go.Proofs.YtaepelipkkmeaaaGreat

open Go.RowKit Num

set_option maxRecDepth 20000 in
set_option maxHeartbeats 8000000 in
theorem right8_any : ∀ (A : Tree) (d : Nat) (c0 c1 c2 : Value) (w : World), ArrP w A c0 c1 c2 → d ≤ 8 →
    Calls Tryz.prog 27 #[.agg #[c0, c1, c2], .int .i64 d] w (BoolPost (RightT A d) w) := by
  intro A
  induction A with
  | leaf => intros; exact (ArrP.leaf ‹ArrP _ Tree.leaf _ _ _›).elim
  | arr S n sh m L K C N k sub ih =>
    intro d c0 c1 c2 w h hd8
    obtain ⟨rfl, _, ⟨ao, nc, rfl, hn, hsh, _⟩, co, mc, rfl, hm, hc⟩ := h
    have n1 := hn.1; have n2 := hn.2.1; have m1 := hm.1; have m2 := hm.2.1; have m3 := hm.2.2
    have hbel := Lib.hid ((Below.refl w.heap.size w).alloc (Nat.le_refl _) (.cells #[.int .u64 S, .slice ao n nc, .slice co m mc] 45))
    have hx := Lib.hid (Box3.new (w := w) (B := w.heap.size) (.int .u64 S) (.slice ao n nc) (.slice co m mc) 45 rfl)
    have hsh1 := Lib.hid (hsh.below hbel.out)
    have hc1 := Lib.hid hc
    clear hn hm hsh hc
    go_enter Tryz.func27, Tryz.ntmps27
    go_wp2_with fail
    refine (count7_any ao n nc sh _ (by omega) hsh1.out).mono ?_
    rintro e' w1 ⟨⟨M, E, rfl, hcnt⟩, rfl⟩
    have hcnt' := Lib.hid hcnt
    have z2 := hx.out.c2
    clear hcnt
    by_cases hE : E = 0
    · subst hE
      have hs := Lib.hid (hcnt'.out.shape rfl)
      by_cases hM : M = m
      · subst hM
        go_wp2_with fail
        go_loopw [7] (fun j wr => ∃ i : Nat, i ≤ m ∧ j = .int .i64 i ∧ Hid (∀ t, t < i → CellT (K t) (N t) (C t) (k t) (simpleT (sub t 0)) d (RightT (sub t 0) (d - 1))) ∧ Hid (Box3 wr w.heap.size (.int .u64 S) (.slice ao n nc) (.slice co m mc)) ∧ Hid (Below w.heap.size w wr)) (fun j _ => m - (intOfZ j).toNat)
        case atStart => exact ⟨0, Nat.zero_le _, rfl, Lib.hid fun t h => by omega, hx, hbel⟩
        case round =>
          obtain ⟨i, hi, rfl, hd, hx2, hb⟩ := hrel
          clear hx hbel hsh1 z2
          by_cases hlt : i < m
          · rcases hc1.out with h0 | ⟨b, o, rfl, hcells⟩
            · omega
            obtain ⟨e, he, hcell⟩ := hcells i hlt
            have u2 := hx2.out.c2
            have m0 := cell_below (he 0 (by decide)) hb.out
            rw [Nat.add_zero] at m0
            have m1 := cell_below (he 1 (by decide)) hb.out
            have m2 := cell_below (he 2 (by decide)) hb.out
            have m3 := cell_below (he 3 (by decide)) hb.out
            have m4 := cell_below (he 4 (by decide)) hb.out
            have m5 := cell_below (he 5 (by decide)) hb.out
            have m6 := cell_below (he 6 (by decide)) hb.out
            have hcall := Lib.hid (cell8_of (L i) (K i) (N i) (C i) (k i) _ e (sub i 0) d (RightT (sub i 0) (d - 1)) wr (hcell.below hb.out fun j d0 d1 d2 _ hd => ArrP.below _ _ _ _ hd hb.out) hd8 (fun d0 d1 d2 r => r)
              (fun d0 d1 d2 w' r hw' hd0 => by
                have q := ih i 0 (d - 1) d0 d1 d2 w' (ArrP.below _ _ _ _ r hw') (by omega)
                rwa [show (((d - 1 : Nat) : Int)) = (d : Int) - 1 from by omega] at q))
            clear hcells he hcell
            go_wp2_with fail
            refine hcall.out.mono ?_
            rintro e2 w2 ⟨r, rfl, hr, hb2⟩
            have hr' := Lib.hid hr
            have b3 := Lib.hid (hb.out.trans (hb2.mono hb.out.size)); have x3 := Lib.hid (hx2.out.later hb2)
            clear hr hb2 hcall u2 m0 m1 m2 m3 m4 m5 m6
            cases r with
            | true =>
              go_wp2_with fail
              go_roundw
              case rel =>
                refine ⟨i + 1, by omega, by go_num, Lib.hid fun t ht => ?_, x3, b3⟩
                by_cases e : t = i
                · rw [e]; exact hr'.out.1 (by first | exact rfl | trivial)
                · exact hd.out t (by omega)
              case measure => simp [intOfZ]; omega
            | false =>
              go_wp2_with fail
              go_ret
              exact ⟨false, rfl, ⟨fun h => (Bool.false_ne_true h).elim, fun h => absurd (hr'.out.2 (h.2 i hlt)) Bool.false_ne_true⟩, b3.out⟩
          · obtain rfl : i = m := by omega
            go_wp2_with fail
            go_ret
            exact ⟨true, rfl, ⟨fun _ => ⟨hs.out, hd.out⟩, fun _ => rfl⟩, hb.out⟩
      · have hd : (M != (m : Int)) = true := by rw [bne_iff_ne]; exact hM
        have hn := Lib.hid hM
        clear hM
        go_wp2_with fail
        go_ret
        refine ⟨false, rfl, ⟨fun h => (Bool.false_ne_true h).elim, fun h => absurd ?_ hn.out⟩, hbel.out⟩
        rw [hs.out.all, ← h.1.all]
    · have hd : (E != 0) = true := by rw [bne_iff_ne]; exact hE
      have hn := Lib.hid hE
      clear hE
      go_wp2_with fail
      go_ret
      exact ⟨false, rfl, ⟨fun h => (Bool.false_ne_true h).elim, fun h => absurd h.1 ((hcnt'.out.none hn.out).2.2 _)⟩, hbel.out⟩

end Go.Proofs.YtaepelipkkmeaaaGreat
namespace Go.Proofs.YtaepelipkkmeaaaGreat

open Go.RowKit Num

theorem fit_not {P : Int} {Q : Nat} : Fit (notR P Q) := by
  unfold notR
  split
  · exact fit_low (low_small (by decide))
  split
  · exact fit_low (low_small (by decide))
  · exact fit_err (by decide)

theorem fit_fact {P : Int} {Q : Nat} : Fit (factR P Q) := by
  unfold factR
  split
  · split
    · exact fit_mk _ _
    · exact fit_err (by decide)
  · exact fit_err (by decide)

theorem fit_one (f : Int) {P : Int} {Q : Nat} (h : Low P Q) : Fit (numR f P Q) := by
  unfold numR
  split
  · exact fit_low h
  split
  · exact fit_low h.neg
  split
  · exact fit_low (low_small (by have := cmpI_small P 0; omega))
  split
  · exact fit_mk _ _
  split
  · exact fit_low (low_floor h.neg).neg
  split
  · exact fit_low (low_floor h)
  split
  · exact fit_low h.abs
  split
  · exact fit_not
  split
  · exact fit_fact
  · exact fit_err (by decide)

end Go.Proofs.YtaepelipkkmeaaaGreat
namespace Go.Proofs.YtaepelipkkmeaaaGreat

open Go.RowKit Num

def onesZ : List Int := [43, 45, 215, 247, 8968, 8970, 124, 126, 33]

end Go.Proofs.YtaepelipkkmeaaaGreat
namespace Go.Proofs.YtaepelipkkmeaaaGreat

open Go.RowKit Num

theorem topF_same {N M : NumF} (h : SameF N M) : topF N = topF M := by
  unfold topF
  rw [h.1, ← h.2.1.1, val_congr h.2.1.2]

theorem botF_same {N M : NumF} (h : SameF N M) : botF N = botF M := by
  unfold botF
  rw [← h.2.2.1, val_congr h.2.2.2]

/-- One, plain: its error, of a word that is one; and what it makes. -/
def oneE (f : Int) : Tree → Int
  | .leaf => 0
  | .arr _ _ _ m _ K _ N _ sub => firstE (fun i => if K i = 0 then (numR f (topF (N i)) (botF (N i))).2.2 else if K i = 1 then 3 else oneE f (sub i 0)) m

noncomputable def oneN (f K : Int) (N : NumF) : NumF := if K = 0 then numF (numR f (topF N) (botF N)).1 (numR f (topF N) (botF N)).2.1 else N

noncomputable def oneT (f : Int) : Tree → Tree
  | .leaf => .leaf
  | .arr S n sh m L K C N k sub => .arr S n sh m L K C (fun i => oneN f (K i) (N i)) k (fun i j => oneT f (sub i j))

def oneR (f : Int) (A : Tree) : Int := if f ∈ onesZ then oneE f A else 8

noncomputable def oneF (f : Int) (L : Nat → Nat) (K C : Nat → Int) (N : Nat → NumF) (k : Nat → Nat) (sub : Nat → Nat → Tree) : CellF :=
  fun x w Q e => CellQ w Q (L x) (K x) (oneN f (K x) (N x)) (C x) (k x) (fun j d0 d1 d2 => ArrQ w Q (oneT f (sub x j)) d0 d1 d2) e

theorem oneF_keep (f : Int) (L : Nat → Nat) (K C : Nat → Int) (N : Nat → NumF) (k : Nat → Nat) (sub : Nat → Nat → Tree) : KeepF (oneF f L K C N k sub) :=
  fun _ _ _ _ _ _ h hk hq => CellQ.keep h hk hq fun _ d0 d1 d2 hd => ArrQ.keep hk hq _ d0 d1 d2 hd

end Go.Proofs.YtaepelipkkmeaaaGreat
namespace Go.Proofs.YtaepelipkkmeaaaGreat

open Go.RowKit Num

theorem FlowsL.trans {a b c : Nat} (h : FlowsL a b) (k : FlowsL b c) : FlowsL a c := fun i hi ha => k i hi (h i hi ha)

theorem flows_left (a b : Nat) : FlowsL a (orL a b) := fun i _ h => by rw [hasL_or, h]; rfl

theorem flows_right (a b : Nat) : FlowsL b (orL a b) := fun i _ h => by rw [hasL_or, h, Bool.or_true]

theorem flows_or {a b c : Nat} (h : FlowsL a c) (k : FlowsL b c) : FlowsL (orL a b) c := fun i hi ha => by
  rw [hasL_or, Bool.or_eq_true] at ha
  exact ha.elim (h i hi) (k i hi)

end Go.Proofs.YtaepelipkkmeaaaGreat
namespace Go.Proofs.YtaepelipkkmeaaaGreat

open Go.RowKit Num

/-- Each tag of a is one of o. -/
def seesL (a o : Nat) : Bool := (List.range 64).all fun i => !hasL a i || hasL o i

theorem sees_iff (a o : Nat) : seesL a o = true ↔ FlowsL a o := by
  unfold seesL FlowsL
  rw [List.all_eq_true]
  constructor
  · intro h i hi ha
    have := h i (List.mem_range.2 hi)
    rw [ha] at this
    simpa using this
  · intro h i hi
    cases e : hasL a i with
    | false => rfl
    | true => rw [h i (List.mem_range.1 hi) e]; rfl

theorem sees_false {a o : Nat} (h : ¬ FlowsL a o) : seesL a o = false := by
  cases e : seesL a o with
  | false => rfl
  | true => exact absurd ((sees_iff a o).1 e) h

theorem sees_true {a o : Nat} (h : FlowsL a o) : seesL a o = true := (sees_iff a o).2 h

theorem seesF_any (a b : Nat) (w : World) (ha : IsL a) (hb : IsL b) : Calls Tryz.prog 93 #[.int .u64 a, .int .u64 b] w fun e w' => e = .returned (.bool (seesL a b)) ∧ w = w' := by
  refine (flows01_any a b ha hb w).mono ?_
  rintro e w' ⟨⟨rfl, h⟩ | ⟨rfl, h⟩, rfl⟩
  · exact ⟨by rw [sees_true h], rfl⟩
  · exact ⟨by rw [sees_false h], rfl⟩

/-- Two cells that an observer sees no difference between: P tells it of the arrays in them. -/
def AlikeC (L : Nat) (K : Int) (N : NumF) (C : Int) (k : Nat) (L' : Nat) (K' : Int) (N' : NumF) (C' : Int) (k' : Nat) (o : Nat) (P : Nat → Prop) : Prop :=
  (seesL L o = false ∧ seesL L' o = false) ∨ (seesL L o = true ∧ seesL L' o = true ∧ SameC L K N C k L' K' N' C' k' P)

/-- Two arrays that an observer sees no difference between, label by label. -/
def AlikeT : Tree → Tree → Nat → Prop
  | .leaf, _, _ => False
  | .arr S n sh m L K C N k sub, B, o => match B with
    | .leaf => False
    | .arr S' n' sh' m' L' K' C' N' k' sub' => (seesL S o = false ∧ seesL S' o = false) ∨ (seesL S o = true ∧ seesL S' o = true ∧
        S = S' ∧ SameZ n n' sh sh' ∧ m = m' ∧ ∀ i, i < m → AlikeC (L i) (K i) (N i) (C i) (k i) (L' i) (K' i) (N' i) (C' i) (k' i) o (fun j => AlikeT (sub i j) (sub' i j) o))

theorem SameF.refl (N : NumF) : SameF N N := ⟨rfl, ⟨rfl, fun _ _ => rfl⟩, ⟨rfl, fun _ _ => rfl⟩⟩

end Go.Proofs.YtaepelipkkmeaaaGreat
namespace Go.Proofs.YtaepelipkkmeaaaGreat

open Go.RowKit Num

theorem sees_or {a l o : Nat} : seesL (orL a l) o = true ↔ seesL a o = true ∧ seesL l o = true := by
  rw [sees_iff, sees_iff, sees_iff]
  exact ⟨fun h => ⟨(flows_left a l).trans h, (flows_right a l).trans h⟩, fun ⟨h, k⟩ => flows_or h k⟩

end Go.Proofs.YtaepelipkkmeaaaGreat
namespace Go.Proofs.YtaepelipkkmeaaaGreat

open Go.RowKit Num

theorem oneN_same {f K : Int} {N M : NumF} (h : SameF N M) : SameF (oneN f K N) (oneN f K M) := by
  unfold oneN
  by_cases hK : K = 0
  · rw [if_pos hK, if_pos hK, topF_same h, botF_same h]; exact SameF.refl _
  · rw [if_neg hK, if_neg hK]; exact h

/-- Arrays that are alike become such as are. -/
theorem one_alike (f : Int) (o : Nat) : ∀ A B, AlikeT A B o → AlikeT (oneT f A) (oneT f B) o := by
  intro A
  induction A with
  | leaf => intro B h; exact h.elim
  | arr S n sh m L K C N k sub ih =>
    intro B h
    obtain _ | ⟨S', n', sh', m', L', K', C', N', k', sub'⟩ := B
    · exact h.elim
    rcases h with ⟨a, b⟩ | ⟨a, b, h1, h2, h3, h4⟩
    · exact .inl ⟨a, b⟩
    · refine .inr ⟨a, b, h1, h2, h3, fun i hi => ?_⟩
      rcases h4 i hi with ⟨a', b'⟩ | ⟨a', b', r1, r2, r3, r4, r5, r6⟩
      · exact .inl ⟨a', b'⟩
      · refine .inr ⟨a', b', r1, r2, r3, ?_, r5, fun j hj => ih i j _ (r6 j hj)⟩
        show SameF (oneN f (K i) (N i)) (oneN f (K' i) (N' i))
        rw [r2]
        exact oneN_same r4

/-- Alike cells, as cells. -/
def AlikeD (x y : CellD) (o : Nat) : Prop := AlikeC x.L x.K x.N x.C x.k y.L y.K y.N y.C y.k o (fun j => AlikeT (x.sub j) (y.sub j) o)

theorem alike_pick {A B : Tree} {o : Nat} (h : AlikeT A B o) (hs : seesL (labT A) o = true) (i : Nat) : AlikeD (pickT A (i : Int)) (pickT B (i : Int)) o := by
  obtain _ | ⟨S, n, sh, m, L, K, C, N, k, sub⟩ := A
  · exact h.elim
  obtain _ | ⟨S', n', sh', m', L', K', C', N', k', sub'⟩ := B
  · exact h.elim
  rcases h with ⟨a, _⟩ | ⟨a, b, h1, h2, h3, h4⟩
  · rw [show seesL S o = true from hs] at a; cases a
  obtain rfl := h3
  obtain ⟨rfl, _⟩ := h2
  show AlikeD (if n = 0 ∧ 0 < m then _ else _) (if n = 0 ∧ 0 < m then _ else _) o
  by_cases h0 : n = 0 ∧ 0 < m
  · rw [if_pos h0, if_pos h0]; exact h4 0 h0.2
  · rw [if_neg h0, if_neg h0]
    by_cases hz : (i : Int) < 0 ∨ (m : Int) ≤ (i : Int) ∨ n = 0
    · rw [if_pos hz, if_pos hz]
      cases hs0 : seesL 0 o with
      | false => exact .inl ⟨hs0, hs0⟩
      | true => exact .inr ⟨hs0, hs0, rfl, rfl, rfl, SameF.refl _, rfl, fun j hj => absurd hj (Nat.not_lt_zero _)⟩
    · rw [if_neg hz, if_neg hz]
      exact h4 i (by omega)

/-- What is in alike cells that are seen is alike. -/
theorem alike_inner {x y : CellD} {o : Nat} (h : AlikeD x y o) (hs : seesL x.L o = true) (hx : x.K = 2 → 0 < x.k) : AlikeT (innerT x) (innerT y) o := by
  rcases h with ⟨a, _⟩ | ⟨a, b, r1, r2, r3, r4, r5, r6⟩
  · rw [hs] at a; cases a
  unfold innerT
  by_cases hK : x.K = 2
  · rw [if_pos hK, if_pos (by rw [← r2]; exact hK)]
    exact r6 0 (hx hK)
  · rw [if_neg hK, if_neg (by rw [← r2]; exact hK)]
    have hz : seesL 0 o = true := sees_true fun i _ h => by rw [hasL_bit] at h; simp at h
    refine .inr ⟨hz, hz, rfl, ⟨rfl, fun _ _ => rfl⟩, rfl, fun i hi => .inr ⟨hz, hz, rfl, r2, r3, r4, r5, fun j hj => r6 j hj⟩⟩

theorem twoN_same {f : Int} {x y x' y' : CellD} (h1 : x.K = x'.K) (h2 : y.K = y'.K) (h3 : x.C = x'.C) (h4 : y.C = y'.C) (hx : SameF x.N x'.N) (hy : SameF y.N y'.N) : twoN f x y = twoN f x' y' := by
  unfold twoN sameKC
  rw [h1, h2, h3, h4, topF_same hx, topF_same hy, botF_same hx, botF_same hy]

theorem see_or {a b o : Nat} : seesL (orL a b) o = (seesL a o && seesL b o) := by
  cases e : seesL (orL a b) o with
  | true => obtain ⟨h1, h2⟩ := sees_or.1 e; rw [h1, h2]; rfl
  | false =>
    cases e1 : seesL a o with
    | false => rfl
    | true =>
      cases e2 : seesL b o with
      | false => rfl
      | true => rw [sees_or.2 ⟨e1, e2⟩] at e; cases e

theorem AlikeD.sees {x y : CellD} {o : Nat} (h : AlikeD x y o) : seesL x.L o = seesL y.L o := by
  rcases h with ⟨a, b⟩ | ⟨a, b, _⟩ <;> rw [a, b]

theorem alike_sees {A B : Tree} {o : Nat} (h : AlikeT A B o) : seesL (labT A) o = seesL (labT B) o := by
  obtain _ | ⟨S, n, sh, m, L, K, C, N, k, sub⟩ := A
  · exact h.elim
  obtain _ | ⟨S', n', sh', m', L', K', C', N', k', sub'⟩ := B
  · exact h.elim
  rcases h with ⟨a, b⟩ | ⟨a, b, _⟩
  · show seesL S o = seesL S' o; rw [a, b]
  · show seesL S o = seesL S' o; rw [a, b]

theorem alike_form {A B : Tree} {o : Nat} (h : AlikeT A B o) (hs : seesL (labT A) o = true) : labT A = labT B ∧ rankT A = rankT B ∧ (∀ j, j < rankT A → shapeT A j = shapeT B j) ∧ cellsT A = cellsT B := by
  obtain _ | ⟨S, n, sh, m, L, K, C, N, k, sub⟩ := A
  · exact h.elim
  obtain _ | ⟨S', n', sh', m', L', K', C', N', k', sub'⟩ := B
  · exact h.elim
  rcases h with ⟨a, _⟩ | ⟨a, b, h1, h2, h3, h4⟩
  · rw [show seesL S o = true from hs] at a; cases a
  · exact ⟨h1, h2.1, h2.2, h3⟩

theorem twoD_box {f : Int} {x y : CellD} {T : Tree} (h : x.K = 2 ∨ y.K = 2) : twoD f x y T = ⟨orL x.L y.L, 2, zeroN, 0, 1, fun _ => T⟩ := by
  unfold twoD twoN
  rw [if_pos h, if_pos h, if_pos h]

theorem twoD_plain {f : Int} {x y : CellD} {T : Tree} (h : ¬ (x.K = 2 ∨ y.K = 2)) : twoD f x y T = ⟨orL x.L y.L, 0, twoN f x y, 0, 0, fun _ => T⟩ := by
  unfold twoD
  rw [if_neg h, if_neg h]

theorem cellE_zero {f : Int} {x y : CellD} {e : Int} (h : cellE f x y e = 0) : (x.K = 2 ∨ y.K = 2 → e = 0) ∧ (¬ (x.K = 2 ∨ y.K = 2) → cellE f x y 0 = 0) := by
  unfold cellE at h ⊢
  by_cases hb : x.K = 2 ∨ y.K = 2
  · rw [if_pos hb] at h ⊢; exact ⟨fun _ => h, fun k => absurd hb k⟩
  · rw [if_neg hb] at h ⊢; exact ⟨fun k => absurd k hb, fun _ => h⟩

theorem AlikeD.seen {x y : CellD} {o : Nat} (h : AlikeD x y o) (hs : seesL x.L o = true) : x.L = y.L ∧ x.K = y.K ∧ x.C = y.C ∧ SameF x.N y.N ∧ x.k = y.k := by
  rcases h with ⟨a, _⟩ | ⟨_, _, r1, r2, r3, r4, r5, _⟩
  · rw [hs] at a; cases a
  · exact ⟨r1, r2, r3, r4, r5⟩

theorem two_alike_of (f : Int) (o d : Nat) (A A' B B' : Tree) (hA : AlikeT A A' o) (hB : AlikeT B B' o) (rA : RightT A d) (rA' : RightT A' d) (rB : RightT B d) (rB' : RightT B' d) (pA : partsT A ≤ 4000) (pA' : partsT A' ≤ 4000) (pB : partsT B ≤ 4000) (pB' : partsT B' ≤ 4000)
    (hE : twoE f (d + 1) A B = 0) (hE' : twoE f (d + 1) A' B' = 0)
    (hin : ∀ x x' y y' : CellD, AlikeD x x' o → AlikeD y y' o → CellOk x d → CellOk x' d → CellOk y d → CellOk y' d → x.K = 2 ∨ y.K = 2 → seesL x.L o = true → seesL y.L o = true → twoE f d (innerT x) (innerT y) = 0 → twoE f d (innerT x') (innerT y') = 0 → AlikeT (twoT f d (innerT x) (innerT y)) (twoT f d (innerT x') (innerT y')) o) :
    AlikeT (twoT f (d + 1) A B) (twoT f (d + 1) A' B') o := by
  have sA := alike_sees hA; have sB := alike_sees hB
  cases hs : seesL (orL (labT A) (labT B)) o with
  | false =>
    refine .inl ⟨hs, ?_⟩
    rw [see_or] at hs
    rw [see_or, ← sA, ← sB]; exact hs
  | true =>
    obtain ⟨v1, v2⟩ := sees_or.1 hs
    obtain ⟨l1, r1, z1, c1⟩ := alike_form hA v1
    obtain ⟨l2, r2, z2, c2⟩ := alike_form hB v2
    have hc : confE (rankT A) (shapeT A) (rankT B) (shapeT B) = 0 := by
      unfold twoE at hE
      by_cases hc : confE (rankT A) (shapeT A) (rankT B) (shapeT B) = 0
      · exact hc
      · rw [if_neg hc] at hE; exact absurd hE hc
    have hc' : confE (rankT A') (shapeT A') (rankT B') (shapeT B') = 0 := by
      unfold twoE at hE'
      by_cases hc : confE (rankT A') (shapeT A') (rankT B') (shapeT B') = 0
      · exact hc
      · rw [if_neg hc] at hE'; exact absurd hE' hc
    unfold twoE at hE hE'
    rw [if_pos hc] at hE; rw [if_pos hc'] at hE'
    obtain ⟨_, ok⟩ := conf_ok rA rB hc
    obtain ⟨_, ok'⟩ := conf_ok rA' rB' hc'
    have hm : (if rankT A = 0 then cellsT B else cellsT A) = (if rankT A' = 0 then cellsT B' else cellsT A') := by rw [r1, c1, c2]
    refine .inr ⟨hs, by rw [← l1, ← l2]; exact hs, by rw [l1, l2], ⟨by rw [r1, r2], fun j hj => ?_⟩, hm, fun i hi => ?_⟩
    · by_cases h0 : rankT A = 0
      · rw [if_pos h0] at hj ⊢
        rw [if_pos (by rw [← r1]; exact h0)]
        exact z2 j hj
      · rw [if_neg h0] at hj ⊢
        rw [if_neg (by rw [← r1]; exact h0)]
        exact z1 j hj
    · obtain ⟨k1, k2, k3, k4⟩ := ok i hi
      obtain ⟨k1', k2', k3', k4'⟩ := ok' i (by rw [← hm]; exact hi)
      have ox := pick_ok rA pA k1 k2; have oy := pick_ok rB pB k3 k4
      have ox' := pick_ok rA' pA' k1' k2'; have oy' := pick_ok rB' pB' k3' k4'
      have hx := alike_pick hA v1 i; have hy := alike_pick hB v2 i
      have e0 := cellE_zero ((firstE_zero _).1 hE i hi)
      have e0' := cellE_zero ((firstE_zero _).1 hE' i (by rw [← hm]; exact hi))
      obtain ⟨x, hxx⟩ : ∃ x, x = pickT A (i : Int) := ⟨_, rfl⟩
      obtain ⟨y, hyy⟩ : ∃ y, y = pickT B (i : Int) := ⟨_, rfl⟩
      obtain ⟨x', hxx'⟩ : ∃ x, x = pickT A' (i : Int) := ⟨_, rfl⟩
      obtain ⟨y', hyy'⟩ : ∃ y, y = pickT B' (i : Int) := ⟨_, rfl⟩
      rw [← hxx] at ox hx e0; rw [← hyy] at oy hy e0; rw [← hxx'] at ox' hx e0'; rw [← hyy'] at oy' hy e0'
      simp only [← hxx, ← hyy, ← hxx', ← hyy']
      cases hl : seesL (orL x.L y.L) o with
      | false =>
        refine .inl ⟨hl, ?_⟩
        rw [see_or] at hl
        show seesL (orL x'.L y'.L) o = false
        rw [see_or, ← hx.sees, ← hy.sees]; exact hl
      | true =>
        obtain ⟨w1, w2⟩ := sees_or.1 hl
        obtain ⟨a1, a2, a3, a4, _⟩ := hx.seen w1
        obtain ⟨b1, b2, b3, b4, _⟩ := hy.seen w2
        by_cases hb : x.K = 2 ∨ y.K = 2
        · have hb' : x'.K = 2 ∨ y'.K = 2 := by rw [← a2, ← b2]; exact hb
          have hT := hin x x' y y' hx hy ox ox' oy oy' hb w1 w2 (e0.1 hb) (e0'.1 hb')
          rw [twoD_box hb, twoD_box hb']
          refine .inr ⟨hl, ?_, ?_, rfl, rfl, SameF.refl _, rfl, fun j _ => hT⟩
          · show seesL (orL x'.L y'.L) o = true
            rw [← a1, ← b1]; exact hl
          · show orL x.L y.L = orL x'.L y'.L
            rw [a1, b1]
        · have hb' : ¬ (x'.K = 2 ∨ y'.K = 2) := by rw [← a2, ← b2]; exact hb
          rw [twoD_plain hb, twoD_plain hb']
          refine .inr ⟨hl, ?_, ?_, rfl, rfl, ?_, rfl, fun j hj => absurd hj (Nat.not_lt_zero _)⟩
          · show seesL (orL x'.L y'.L) o = true
            rw [← a1, ← b1]; exact hl
          · show orL x.L y.L = orL x'.L y'.L
            rw [a1, b1]
          · show SameF (twoN f x y) (twoN f x' y')
            rw [twoN_same a2 b2 a3 b3 a4 b4]; exact SameF.refl _

/-- Two pairs that are alike become such as are. -/
theorem two_alike (f : Int) (o : Nat) : ∀ (d : Nat) (A A' B B' : Tree), AlikeT A A' o → AlikeT B B' o → RightT A d → RightT A' d → RightT B d → RightT B' d → partsT A ≤ 4000 → partsT A' ≤ 4000 → partsT B ≤ 4000 → partsT B' ≤ 4000 →
    twoE f (d + 1) A B = 0 → twoE f (d + 1) A' B' = 0 → AlikeT (twoT f (d + 1) A B) (twoT f (d + 1) A' B') o := by
  intro d
  induction d with
  | zero =>
    intro A A' B B' hA hB rA rA' rB rB' pA pA' pB pB' hE hE'
    exact two_alike_of f o 0 A A' B B' hA hB rA rA' rB rB' pA pA' pB pB' hE hE' fun x x' y y' hx hy ox ox' oy oy' hb => by
      rcases hb with h | h
      · have := (ox.box h).2.2.1; omega
      · have := (oy.box h).2.2.1; omega
  | succ d ih =>
    intro A A' B B' hA hB rA rA' rB rB' pA pA' pB pB' hE hE'
    exact two_alike_of f o (d + 1) A A' B B' hA hB rA rA' rB rB' pA pA' pB pB' hE hE' fun x x' y y' hx hy ox ox' oy oy' hb sx sy e e' => 
      ih _ _ _ _ (alike_inner hx sx fun h => by have := (ox.box h).2.1; omega) (alike_inner hy sy fun h => by have := (oy.box h).2.1; omega) ox.inner.1 ox'.inner.1 oy.inner.1 oy'.inner.1 ox.inner.2 ox'.inner.2 oy.inner.2 oy'.inner.2 e e'

end Go.Proofs.YtaepelipkkmeaaaGreat
namespace Go.Proofs.YtaepelipkkmeaaaGreat

open Go.RowKit Num

def OneSC : Prop := ∀ (f : Int) (A : Tree) (c0 c1 c2 : Value) (w : World), IsZ f → ArrP w A c0 c1 c2 → FewT A → RightT A 8 → Calls Tryz.prog 24 #[.int .i64 f, .agg #[c0, c1, c2]] w (ResP (oneR f A) (oneT f A) w)

end Go.Proofs.YtaepelipkkmeaaaGreat
namespace Go.Proofs.YtaepelipkkmeaaaGreat

open Go.RowKit Num

/-- A label that came in. -/
theorem label_in {n : Int} (h : (Lit.int .u64 n).wf = true) : ∃ l : Nat, IsL l ∧ n = (l : Int) := by
  have hb : 0 ≤ n ∧ n < 18446744073709551616 := by
    simp [Lit.wf, IntKind.min, IntKind.max, IntKind.signed, IntKind.bits] at h
    omega
  exact ⟨n.toNat, by unfold IsL; omega, by omega⟩

end Go.Proofs.YtaepelipkkmeaaaGreat
namespace Go.Proofs.YtaepelipkkmeaaaGreat

open Go.RowKit Num

/-- The three cells of chapter 8's example. -/
def cs3 (M N : NumF) (i : Nat) : CellD := if i = 0 then ⟨0, 0, M, 0, 0, fun _ => .leaf⟩ else if i = 1 then ⟨4, 0, N, 0, 0, fun _ => .leaf⟩ else ⟨0, 1, zeroN, 65, 0, fun _ => .leaf⟩

end Go.Proofs.YtaepelipkkmeaaaGreat
namespace Go.Proofs.YtaepelipkkmeaaaGreat

open Go.RowKit Num

theorem bool_of (P : Prop) : ∃ b : Bool, b = true ↔ P := by
  by_cases h : P
  · exact ⟨true, fun _ => h, fun _ => rfl⟩
  · exact ⟨false, fun e => (Bool.false_ne_true e).elim, fun k => absurd k h⟩

end Go.Proofs.YtaepelipkkmeaaaGreat
namespace Go.Proofs.YtaepelipkkmeaaaGreat

open Go.RowKit Num

theorem seesR_any (a b : Nat) (w : World) (ha : IsL a) (hb : IsL b) : Calls Tryz.prog 93 #[.int .u64 a, .int .u64 b] w fun e w' => e = .returned (.bool (seesL a b)) ∧ w' = w :=
  (seesF_any a b w ha hb).mono fun _ _ h => ⟨h.1, h.2.symm⟩

theorem alikeC_same {L : Nat} {K : Int} {N : NumF} {C : Int} {k : Nat} {L' : Nat} {K' : Int} {N' : NumF} {C' : Int} {k' : Nat} {o : Nat} {P : Nat → Prop} (h : AlikeC L K N C k L' K' N' C' k' o P) (h1 : seesL L o = true) : SameC L K N C k L' K' N' C' k' P := by
  rcases h with ⟨a, _⟩ | ⟨_, _, h⟩
  · rw [h1] at a; cases a
  · exact h

set_option maxRecDepth 20000 in
set_option maxHeartbeats 16000000 in
theorem cells9_of (L : Nat) (K : Int) (N : NumF) (C : Int) (k : Nat) (R : Nat → Value → Value → Value → Prop) (e : Nat → Value) (L' : Nat) (K' : Int) (N' : NumF) (C' : Int) (k' : Nat) (R' : Nat → Value → Value → Value → Prop) (f : Nat → Value) (P : Nat → Prop) (o : Nat) (ho : IsL o) (w : World)
    (h : CellP w L K N C k R e) (h' : CellP w L' K' N' C' k' R' f)
    (hS : ∀ j d0 d1 d2 e0 e1 e2 w', R j d0 d1 d2 → R' j e0 e1 e2 → Below w.heap.size w w' → Calls Tryz.prog 38 #[.agg #[d0, d1, d2], .agg #[e0, e1, e2], .int .u64 o] w' (BoolPost (P j) w')) :
    Calls Tryz.prog 94 #[.agg #[e 0, e 1, e 2, e 3, e 4, e 5, e 6], .agg #[f 0, f 1, f 2, f 3, f 4, f 5, f 6], .int .u64 o] w (BoolPost (AlikeC L K N C k L' K' N' C' k' o P) w) := by
  obtain ⟨p0, pL, p1, pK, ⟨p2, ⟨ao, ac, p3, ha, hsa, _⟩, ⟨bo, bc, p4, hb, hsb, _⟩⟩, p5, pC, io, kc, p6, hk, hrow⟩ := h
  obtain ⟨q0, qL, q1, qK, ⟨q2, ⟨ao', ac', q3, ha', hsa', _⟩, ⟨bo', bc', q4, hb', hsb', _⟩⟩, q5, qC, io', kc', q6, hk', hrow'⟩ := h'
  rw [p0, p1, p2, p3, p4, p5, p6, q0, q1, q2, q3, q4, q5, q6]
  have an1 := ha.1; have an2 := ha.2.1; have am1 := hb.1; have am2 := hb.2.1; have kk1 := hk.1; have kk2 := hk.2.1
  have bn1 := ha'.1; have bn2 := ha'.2.1; have bm1 := hb'.1; have bm2 := hb'.2.1; have kl1 := hk'.1; have kl2 := hk'.2.1
  have hbel := (((Below.refl w.heap.size w).alloc (Nat.le_refl _) (.cells #[.int .u64 L, .int .i64 K, .bool N.neg, .slice ao N.an ac, .slice bo N.am bc, .int .i64 C, .slice io k kc] 65)).alloc (by simp) (.cells #[.int .u64 L', .int .i64 K', .bool N'.neg, .slice ao' N'.an ac', .slice bo' N'.am bc', .int .i64 C', .slice io' k' kc'] 65))
  have hx := (Box7.new (w := w) (B := w.heap.size) (.int .u64 L) (.int .i64 K) (.bool N.neg) (.slice ao N.an ac) (.slice bo N.am bc) (.int .i64 C) (.slice io k kc) 65 rfl).alloc (.cells #[.int .u64 L', .int .i64 K', .bool N'.neg, .slice ao' N'.an ac', .slice bo' N'.am bc', .int .i64 C', .slice io' k' kc'] 65)
  have hy := Box7.new (w := w.alloc (.cells #[.int .u64 L, .int .i64 K, .bool N.neg, .slice ao N.an ac, .slice bo N.am bc, .int .i64 C, .slice io k kc] 65)) (B := w.heap.size + 1) (.int .u64 L') (.int .i64 K') (.bool N'.neg) (.slice ao' N'.an ac') (.slice bo' N'.am bc') (.int .i64 C') (.slice io' k' kc') 65 (by simp)
  have hsa1 := Lib.hid hsa; have hsb1 := Lib.hid hsb; have hsa2 := Lib.hid hsa'; have hsb2 := Lib.hid hsb'; have hr1 := Lib.hid hrow; have hr2 := Lib.hid hrow'; have hS' := Lib.hid hS
  have hL := Lib.hid pL; have hL' := Lib.hid qL; have ho' := Lib.hid ho
  clear ho p0 pL p1 pK p2 p3 p4 p5 pC p6 q0 qL q1 qK q2 q3 q4 q5 qC q6 ha hb hk ha' hb' hk' hsa hsb hsa' hsb' hrow hrow' hS
  cases hs1 : seesL L o <;> cases hs2 : seesL L' o
  · have h1 := Lib.hid hs1; have h2 := Lib.hid hs2
    clear hs1 hs2
    go_enter Tryz.func94, Tryz.ntmps94
    go_upto_region 1 with fail
    refine told_wp (fun w' => Below w.heap.size w w' ∧ Box7 w' w.heap.size (.int .u64 L) (.int .i64 K) (.bool N.neg) (.slice ao N.an ac) (.slice bo N.am bc) (.int .i64 C) (.slice io k kc) ∧ Box7 w' (w.heap.size + 1) (.int .u64 L') (.int .i64 K') (.bool N'.neg) (.slice ao' N'.an ac') (.slice bo' N'.am bc') (.int .i64 C') (.slice io' k' kc')) ⟨hbel, hx, hy⟩ ?_
    clear hbel hx hy
    rintro w0 ⟨b0, x0, y0⟩
    have xd := x0.drew; have yd := y0.drew
    have u0 := xd.c0; have v0 := yd.c0
    have z0 := x0.c0; have z1 := x0.c1; have z2 := x0.c2; have z3 := x0.c3; have z4 := x0.c4; have z5 := x0.c5; have z6 := x0.c6
    have t0 := y0.c0; have t1 := y0.c1; have t2 := y0.c2; have t3 := y0.c3; have t4 := y0.c4; have t5 := y0.c5; have t6 := y0.c6
    go_wp2_with fail
    refine (seesF_any L o w0 hL.out ho'.out).mono ?_
    rintro e' w1 ⟨rfl, rfl⟩
    rw [h1.out]
    go_wp2_with fail
    have p1 := h1.out; have p2 := h2.out
    go_quiet ((go_at_call 93; refine Calls.quiet_of_same (seesR_any _ _ _ ?_ ho'.out); first | with_reducible exact hL.out | with_reducible exact hL'.out))
    go_wp2_with fail
    go_ret
    exact ⟨true, rfl, ⟨fun _ => .inl ⟨h1.out, h2.out⟩, fun _ => rfl⟩, below_drewN b0 _⟩
  · have h1 := Lib.hid hs1; have h2 := Lib.hid hs2
    clear hs1 hs2
    go_enter Tryz.func94, Tryz.ntmps94
    go_upto_region 1 with fail
    refine told_wp (fun w' => Below w.heap.size w w' ∧ Box7 w' w.heap.size (.int .u64 L) (.int .i64 K) (.bool N.neg) (.slice ao N.an ac) (.slice bo N.am bc) (.int .i64 C) (.slice io k kc) ∧ Box7 w' (w.heap.size + 1) (.int .u64 L') (.int .i64 K') (.bool N'.neg) (.slice ao' N'.an ac') (.slice bo' N'.am bc') (.int .i64 C') (.slice io' k' kc')) ⟨hbel, hx, hy⟩ ?_
    clear hbel hx hy
    rintro w0 ⟨b0, x0, y0⟩
    have xd := x0.drew; have yd := y0.drew
    have u0 := xd.c0; have v0 := yd.c0
    have z0 := x0.c0; have z1 := x0.c1; have z2 := x0.c2; have z3 := x0.c3; have z4 := x0.c4; have z5 := x0.c5; have z6 := x0.c6
    have t0 := y0.c0; have t1 := y0.c1; have t2 := y0.c2; have t3 := y0.c3; have t4 := y0.c4; have t5 := y0.c5; have t6 := y0.c6
    go_wp2_with fail
    refine (seesF_any L o w0 hL.out ho'.out).mono ?_
    rintro e' w1 ⟨rfl, rfl⟩
    rw [h1.out]
    go_wp2_with fail
    have p1 := h1.out; have p2 := h2.out
    go_quiet ((go_at_call 93; refine Calls.quiet_of_same (seesR_any _ _ _ ?_ ho'.out); first | with_reducible exact hL.out | with_reducible exact hL'.out))
    go_wp2_with fail
    go_ret
    refine ⟨false, rfl, ⟨fun h => (Bool.false_ne_true h).elim, ?_⟩, below_drewN b0 _⟩
    rintro (⟨p, q⟩ | ⟨p, q, _⟩)
    · have := h2.out.symm.trans q; cases this
    · have := h1.out.symm.trans p; cases this
  · have h1 := Lib.hid hs1; have h2 := Lib.hid hs2
    clear hs1 hs2
    go_enter Tryz.func94, Tryz.ntmps94
    go_upto_region 1 with fail
    refine told_wp (fun w' => Below w.heap.size w w' ∧ Box7 w' w.heap.size (.int .u64 L) (.int .i64 K) (.bool N.neg) (.slice ao N.an ac) (.slice bo N.am bc) (.int .i64 C) (.slice io k kc) ∧ Box7 w' (w.heap.size + 1) (.int .u64 L') (.int .i64 K') (.bool N'.neg) (.slice ao' N'.an ac') (.slice bo' N'.am bc') (.int .i64 C') (.slice io' k' kc')) ⟨hbel, hx, hy⟩ ?_
    clear hbel hx hy
    rintro w0 ⟨b0, x0, y0⟩
    have xd := x0.drew; have yd := y0.drew
    have u0 := xd.c0; have v0 := yd.c0
    have z0 := x0.c0; have z1 := x0.c1; have z2 := x0.c2; have z3 := x0.c3; have z4 := x0.c4; have z5 := x0.c5; have z6 := x0.c6
    have t0 := y0.c0; have t1 := y0.c1; have t2 := y0.c2; have t3 := y0.c3; have t4 := y0.c4; have t5 := y0.c5; have t6 := y0.c6
    go_wp2_with fail
    refine (seesF_any L o w0 hL.out ho'.out).mono ?_
    rintro e' w1 ⟨rfl, rfl⟩
    rw [h1.out]
    go_wp2_with fail
    refine (seesF_any L' o w0 hL'.out ho'.out).mono ?_
    rintro e' w1 ⟨rfl, rfl⟩
    rw [h2.out]
    go_wp2_with fail
    have p1 := h1.out; have p2 := h2.out
    go_quiet ((go_at_call 93; refine Calls.quiet_of_same (seesR_any _ _ _ ?_ ho'.out); first | with_reducible exact hL.out | with_reducible exact hL'.out))
    go_wp2_with fail
    go_ret
    refine ⟨false, rfl, ⟨fun h => (Bool.false_ne_true h).elim, ?_⟩, below_drewN b0 _⟩
    rintro (⟨p, q⟩ | ⟨p, q, _⟩)
    · have := h1.out.symm.trans p; cases this
    · have := h2.out.symm.trans q; cases this
  · have h1 := Lib.hid hs1; have h2 := Lib.hid hs2
    clear hs1 hs2
    by_cases e1 : L = L'
    · by_cases e2 : K = K'
      · by_cases e3 : C = C'
        · subst e1; subst e2; subst e3
          go_enter Tryz.func94, Tryz.ntmps94
          go_upto_region 1 with fail
          refine told_wp (fun w' => Below w.heap.size w w' ∧ Box7 w' w.heap.size (.int .u64 L) (.int .i64 K) (.bool N.neg) (.slice ao N.an ac) (.slice bo N.am bc) (.int .i64 C) (.slice io k kc) ∧ Box7 w' (w.heap.size + 1) (.int .u64 L) (.int .i64 K) (.bool N'.neg) (.slice ao' N'.an ac') (.slice bo' N'.am bc') (.int .i64 C) (.slice io' k' kc')) ⟨hbel, hx, hy⟩ ?_
          clear hbel hx hy
          rintro w0 ⟨b0, x0, y0⟩
          have z0 := x0.c0; have z1 := x0.c1; have z2 := x0.c2; have z3 := x0.c3; have z4 := x0.c4; have z5 := x0.c5; have z6 := x0.c6
          have t0 := y0.c0; have t1 := y0.c1; have t2 := y0.c2; have t3 := y0.c3; have t4 := y0.c4; have t5 := y0.c5; have t6 := y0.c6
          go_wp2_with fail
          refine (seesF_any L o w0 hL.out ho'.out).mono ?_
          rintro e' w1 ⟨rfl, rfl⟩
          rw [h1.out]
          go_wp2_with fail
          refine (seesF_any L o w0 hL.out ho'.out).mono ?_
          rintro e' w1 ⟨rfl, rfl⟩
          rw [h1.out]
          go_wp2_with fail
          replace b0 := Lib.hid b0; replace x0 := Lib.hid x0; replace y0 := Lib.hid y0
          refine (same4B_any N.neg N'.neg ao bo ao' bo' N.an ac N.am bc N'.an ac' N'.am bc' N.fa N.ga N'.fa N'.ga w0 (by omega) (by omega) (hsa1.out.below b0.out) (hsb1.out.below b0.out) (hsa2.out.below b0.out) (hsb2.out.below b0.out)).mono ?_
          rintro e' w1 ⟨r, rfl, hr, hb1⟩
          have b1 := Lib.hid (b0.out.trans (hb1.mono b0.out.size)); have x1 := x0.out.later hb1; have y1 := y0.out.later hb1; clear z0 z1 z2 z3 z4 z5 z6 t0 t1 t2 t3 t4 t5 t6
          have hr' := Lib.hid hr
          have x1' := Lib.hid x1; have y1' := Lib.hid y1
          have z6 := x1.c6; have t6 := y1.c6
          clear b0 x0 y0 hb1 hr x1 y1
          cases r with
          | false =>
            go_wp2_with fail
            go_ret
            exact ⟨false, rfl, ⟨fun h => (Bool.false_ne_true h).elim, fun h => absurd (hr'.out.2 (alikeC_same h h1.out).2.2.2.1) Bool.false_ne_true⟩, b1.out⟩
          | true =>
            by_cases e4 : k = k'
            · subst e4
              go_wp2_with fail
              go_loopw [7] (fun i wr => ∃ j : Nat, j ≤ k ∧ i = .int .i64 j ∧ Hid (∀ t, t < j → P t) ∧ Hid (Box7 wr w.heap.size (.int .u64 L) (.int .i64 K) (.bool N.neg) (.slice ao N.an ac) (.slice bo N.am bc) (.int .i64 C) (.slice io k kc)) ∧ Hid (Box7 wr (w.heap.size + 1) (.int .u64 L) (.int .i64 K) (.bool N'.neg) (.slice ao' N'.an ac') (.slice bo' N'.am bc') (.int .i64 C) (.slice io' k kc')) ∧ Hid (Below w.heap.size w wr)) (fun i _ => k - (intOfZ i).toNat)
              case atStart => exact ⟨0, Nat.zero_le _, rfl, Lib.hid fun t h => by omega, x1', y1', b1⟩
              case round =>
                obtain ⟨j, hj, rfl, hd, hx, hy, hb⟩ := hrel
                clear x1' y1' b1 z6 t6
                by_cases hlt : j < k
                · rcases hr1.out with h0 | ⟨b, q, rfl, hrows⟩
                  · omega
                  rcases hr2.out with h0 | ⟨b', q', rfl, hrows'⟩
                  · omega
                  obtain ⟨d0, d1, d2, r0, r1, r2, r3⟩ := hrows j hlt
                  obtain ⟨f0, f1, f2, s0, s1, s2, s3⟩ := hrows' j hlt
                  have hbd := hb.out.drew
                  have xd := hx.out.drew; have yd := hy.out.drew
                  have u6 := hx.out.c6
                  go_wp2_with fail
                  have g6 := xd.c6; have l6 := yd.c6
                  have m0 := cell_below r0 hbd; have m1 := cell_below r1 hbd; have m2 := cell_below r2 hbd
                  have n0 := cell_below s0 hbd; have n1 := cell_below s1 hbd; have n2 := cell_below s2 hbd
                  have hcall := Lib.hid (fun w' h => hS'.out j d0 d1 d2 f0 f1 f2 w' r3 s3 h)
                  clear hrows hrows' r0 r1 r2 s0 s1 s2
                  have T1 : wr.drew.cell? ⟨w.heap.size, 6, none⟩ = some (.slice (some ⟨b, q, none⟩) k kc) ∧ wr.drew.cell? ⟨w.heap.size + 1, 6, none⟩ = some (.slice (some ⟨b', q', none⟩) k kc') ∧ wr.drew.cell? ⟨b, q + j * 3, none⟩ = some d0 ∧ wr.drew.cell? ⟨b, q + j * 3 + 1, none⟩ = some d1 ∧ wr.drew.cell? ⟨b, q + j * 3 + 2, none⟩ = some d2 ∧ wr.drew.cell? ⟨b', q' + j * 3, none⟩ = some f0 ∧ wr.drew.cell? ⟨b', q' + j * 3 + 1, none⟩ = some f1 ∧ wr.drew.cell? ⟨b', q' + j * 3 + 2, none⟩ = some f2 := ⟨g6, l6, m0, m1, m2, n0, n1, n2⟩
                  go_region_held3 (fun w' => w'.cell? ⟨w.heap.size, 6, none⟩ = some (.slice (some ⟨b, q, none⟩) k kc) ∧ w'.cell? ⟨w.heap.size + 1, 6, none⟩ = some (.slice (some ⟨b', q', none⟩) k kc') ∧ w'.cell? ⟨b, q + j * 3, none⟩ = some d0 ∧ w'.cell? ⟨b, q + j * 3 + 1, none⟩ = some d1 ∧ w'.cell? ⟨b, q + j * 3 + 2, none⟩ = some d2 ∧ w'.cell? ⟨b', q' + j * 3, none⟩ = some f0 ∧ w'.cell? ⟨b', q' + j * 3 + 1, none⟩ = some f1 ∧ w'.cell? ⟨b', q' + j * 3 + 2, none⟩ = some f2)
                    (first | exact T1 | exact T2)
                    (first
                    | (go_at_call 38; refine (hcall.out _ hbd).mono ?_; rintro e2 w2 ⟨r, rfl, hr2', hb2⟩; have hb3 := hbd.trans (hb2.mono hbd.size); have x2 := xd.later hb2; have y2 := yd.later hb2; have T2 := And.intro x2.c6 (And.intro y2.c6 (And.intro (cell_below m0 hb2) (And.intro (cell_below m1 hb2) (And.intro (cell_below m2 hb2) (And.intro (cell_below n0 hb2) (And.intro (cell_below n1 hb2) (cell_below n2 hb2))))))); clear hb2))
                  have hr3 := Lib.hid hr2'; have x3 := Lib.hid x2; have y3 := Lib.hid y2; have b3 := Lib.hid hb3
                  clear hr2' x2 y2 hb3 hbd xd yd g6 l6 m0 m1 m2 n0 n1 n2 T1 T2
                  cases r with
                  | true =>
                    go_wp2_with fail
                    go_roundw
                    case rel =>
                      refine ⟨j + 1, by omega, by go_num, Lib.hid fun t ht => ?_, x3, y3, b3⟩
                      by_cases e : t = j
                      · rw [e]; exact hr3.out.1 (by first | exact rfl | trivial)
                      · exact hd.out t (by omega)
                    case measure => simp [intOfZ]; omega
                  | false =>
                    go_wp2_with fail
                    go_ret
                    exact ⟨false, rfl, ⟨fun h => (Bool.false_ne_true h).elim, fun h => absurd (hr3.out.2 ((alikeC_same h h1.out).2.2.2.2.2 j hlt)) Bool.false_ne_true⟩, b3.out⟩
                · obtain rfl : j = k := by omega
                  have g6 := hx.out.c6
                  go_wp2_with fail
                  go_ret
                  exact ⟨true, rfl, ⟨fun _ => .inr ⟨h1.out, h1.out, rfl, rfl, rfl, hr'.out.1 (by first | exact rfl | trivial), rfl, hd.out⟩, fun _ => rfl⟩, hb.out⟩
            · have hd : ((k : Int) != (k' : Int)) = true := by rw [bne_iff_ne]; omega
              have hn := Lib.hid e4
              clear e4
              go_wp2_with fail
              go_ret
              exact ⟨false, rfl, ⟨fun h => (Bool.false_ne_true h).elim, fun h => absurd (alikeC_same h h1.out).2.2.2.2.1 hn.out⟩, b1.out⟩
        · subst e1; subst e2
          have hd : (C != C') = true := by rw [bne_iff_ne]; omega
          have hn := Lib.hid e3
          clear e3
          go_enter Tryz.func94, Tryz.ntmps94
          go_upto_region 1 with fail
          refine told_wp (fun w' => Below w.heap.size w w' ∧ Box7 w' w.heap.size (.int .u64 L) (.int .i64 K) (.bool N.neg) (.slice ao N.an ac) (.slice bo N.am bc) (.int .i64 C) (.slice io k kc) ∧ Box7 w' (w.heap.size + 1) (.int .u64 L) (.int .i64 K) (.bool N'.neg) (.slice ao' N'.an ac') (.slice bo' N'.am bc') (.int .i64 C') (.slice io' k' kc')) ⟨hbel, hx, hy⟩ ?_
          clear hbel hx hy
          rintro w0 ⟨b0, x0, y0⟩
          have z0 := x0.c0; have z1 := x0.c1; have z2 := x0.c2; have z3 := x0.c3; have z4 := x0.c4; have z5 := x0.c5; have z6 := x0.c6
          have t0 := y0.c0; have t1 := y0.c1; have t2 := y0.c2; have t3 := y0.c3; have t4 := y0.c4; have t5 := y0.c5; have t6 := y0.c6
          go_wp2_with fail
          refine (seesF_any L o w0 hL.out ho'.out).mono ?_
          rintro e' w1 ⟨rfl, rfl⟩
          rw [h1.out]
          go_wp2_with fail
          refine (seesF_any L o w0 hL.out ho'.out).mono ?_
          rintro e' w1 ⟨rfl, rfl⟩
          rw [h1.out]
          go_wp2_with fail
          go_ret
          exact ⟨false, rfl, ⟨fun h => (Bool.false_ne_true h).elim, fun h => absurd (alikeC_same h h1.out).2.2.1 hn.out⟩, b0⟩
      · subst e1
        have hd : (K != K') = true := by rw [bne_iff_ne]; omega
        have hn := Lib.hid e2
        clear e2
        go_enter Tryz.func94, Tryz.ntmps94
        go_upto_region 1 with fail
        refine told_wp (fun w' => Below w.heap.size w w' ∧ Box7 w' w.heap.size (.int .u64 L) (.int .i64 K) (.bool N.neg) (.slice ao N.an ac) (.slice bo N.am bc) (.int .i64 C) (.slice io k kc) ∧ Box7 w' (w.heap.size + 1) (.int .u64 L) (.int .i64 K') (.bool N'.neg) (.slice ao' N'.an ac') (.slice bo' N'.am bc') (.int .i64 C') (.slice io' k' kc')) ⟨hbel, hx, hy⟩ ?_
        clear hbel hx hy
        rintro w0 ⟨b0, x0, y0⟩
        have z0 := x0.c0; have z1 := x0.c1; have z2 := x0.c2; have z3 := x0.c3; have z4 := x0.c4; have z5 := x0.c5; have z6 := x0.c6
        have t0 := y0.c0; have t1 := y0.c1; have t2 := y0.c2; have t3 := y0.c3; have t4 := y0.c4; have t5 := y0.c5; have t6 := y0.c6
        go_wp2_with fail
        refine (seesF_any L o w0 hL.out ho'.out).mono ?_
        rintro e' w1 ⟨rfl, rfl⟩
        rw [h1.out]
        go_wp2_with fail
        refine (seesF_any L o w0 hL.out ho'.out).mono ?_
        rintro e' w1 ⟨rfl, rfl⟩
        rw [h1.out]
        go_wp2_with fail
        go_ret
        exact ⟨false, rfl, ⟨fun h => (Bool.false_ne_true h).elim, fun h => absurd (alikeC_same h h1.out).2.1 hn.out⟩, b0⟩
    · have hd : ((L : Int) != (L' : Int)) = true := by rw [bne_iff_ne]; omega
      have hn := Lib.hid e1
      clear e1
      go_enter Tryz.func94, Tryz.ntmps94
      go_upto_region 1 with fail
      refine told_wp (fun w' => Below w.heap.size w w' ∧ Box7 w' w.heap.size (.int .u64 L) (.int .i64 K) (.bool N.neg) (.slice ao N.an ac) (.slice bo N.am bc) (.int .i64 C) (.slice io k kc) ∧ Box7 w' (w.heap.size + 1) (.int .u64 L') (.int .i64 K') (.bool N'.neg) (.slice ao' N'.an ac') (.slice bo' N'.am bc') (.int .i64 C') (.slice io' k' kc')) ⟨hbel, hx, hy⟩ ?_
      clear hbel hx hy
      rintro w0 ⟨b0, x0, y0⟩
      have z0 := x0.c0; have z1 := x0.c1; have z2 := x0.c2; have z3 := x0.c3; have z4 := x0.c4; have z5 := x0.c5; have z6 := x0.c6
      have t0 := y0.c0; have t1 := y0.c1; have t2 := y0.c2; have t3 := y0.c3; have t4 := y0.c4; have t5 := y0.c5; have t6 := y0.c6
      go_wp2_with fail
      refine (seesF_any L o w0 hL.out ho'.out).mono ?_
      rintro e' w1 ⟨rfl, rfl⟩
      rw [h1.out]
      go_wp2_with fail
      refine (seesF_any L' o w0 hL'.out ho'.out).mono ?_
      rintro e' w1 ⟨rfl, rfl⟩
      rw [h2.out]
      go_wp2_with fail
      go_ret
      exact ⟨false, rfl, ⟨fun h => (Bool.false_ne_true h).elim, fun h => absurd (alikeC_same h h1.out).1 hn.out⟩, b0⟩

end Go.Proofs.YtaepelipkkmeaaaGreat
