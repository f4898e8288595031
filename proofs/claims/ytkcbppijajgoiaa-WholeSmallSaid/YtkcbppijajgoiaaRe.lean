/-
  scrimref03.Small.
-/
import Derived.Test.YtkcbppijajgoiaaLa
import Derived.Test.YtkcbppijajgoiaaWd
namespace Go.Proofs.Ytkcbppijajgoiaa
open Go.RowKit Num

attribute [local go_sem ↓] Go.wp_at_zero Go.wp_at_succ

theorem val_digit {f : Nat → Nat} {n j V : Nat} (hn : n ≤ 2) (hj : j < n) (lf : Lim f n) (hV : val f n = V) : V / pw j = V / pw (j + 1) * 4294967296 + f j := by
  have p0 : pw 0 = 1 := rfl
  have p1 : pw 1 = 4294967296 := rfl
  have p2 : pw 2 = 18446744073709551616 := rfl
  have l0 := lf 0 (by omega)
  have hn' : n = 1 ∨ n = 2 := by omega
  rcases hn' with rfl | rfl
  · obtain rfl : j = 0 := by omega
    have e : val f 1 = f 0 := by simp [val, pw]
    rw [p0, p1]; omega
  · have l1 := lf 1 (by omega)
    have e : val f 2 = f 0 + f 1 * 4294967296 := by simp [val, pw]
    have hj' : j = 0 ∨ j = 1 := by omega
    rcases hj' with rfl | rfl
    · rw [p0, p1]; omega
    · rw [p1, p2]; omega

theorem big_not {w : World} {b : Bool} {ao : Option Addr} {n nc : Nat} {x : Int} (h : Right w b ao n nc x) (h2 : 2 < n) : isSmall x = false := by
  obtain ⟨f, f1, f2, hs, cf, hsg⟩ := h.ex
  have h1 := cf.val
  have h3 : f (n - 1) ≠ 0 := by rcases cf.top with h | h <;> omega
  obtain ⟨j, rfl⟩ : ∃ j, n = j + 1 + 1 + 1 := ⟨n - 3, by omega⟩
  have h3 : f (j + 1 + 1) ≠ 0 := h3
  have h4 := val_ge h3
  have h5 : pw 2 ≤ pw (j + 1 + 1) := pw_le (by omega)
  have h6 : pw 2 = 18446744073709551616 := rfl
  simp only [isSmall, decide_eq_false_iff_not]
  omega

set_option maxHeartbeats 2000000 in
theorem rSmall_any (b : Bool) (ao : Option Addr) (n nc : Nat) (x : Int) (w : World) (A : Whole w b ao n nc x) (M : Nat) (h3 : 3 ≤ M) (hM : M ≤ 1000) (hx : x.natAbs < pw M) :
    Calls Try.prog 28 #[.agg #[.bool b, .slice ao n nc]] w (Says (smallV x) w) := by
  have A' := Lib.hid A; have hx' := Lib.hid hx
  have m1 := Lib.hid (Nat.lt_of_lt_of_le (int_small (n := 9223372036854775807) (by decide) (by decide)) (pw_le h3))
  have m2 := Lib.hid (Nat.lt_of_lt_of_le (int_small (n := -9223372036854775808) (by decide) (by decide)) (pw_le h3))
  clear A hx
  go_enter Try.func28, Try.ntmps28
  go_wp2_with fail
  refine gen_calls (fun w' => Below w.heap.size w w' ∧ Box w' w.heap.size (.bool b) (.slice ao n nc))
    ⟨((Below.refl _ w).alloc (Nat.le_refl _) _), (Box.new _ _ _ rfl)⟩ ?_
  rintro w0 ⟨hb0, x0⟩
  refine (rNorm_any b ao n nc x _ (A'.out.below hb0)).mono ?_
  rintro e w1 ⟨sb, so, sn, sc, rfl, hR, hb⟩
  have hb1 := Lib.hid (below_then hb0 (Nat.le_refl _) hb)
  have hR' := Lib.hid hR
  clear hb0 hb x0
  by_cases h2 : 2 < sn
  · have h2i : decide ((2 : Int) < (sn : Int)) = true := decide_eq_true (by omega)
    have es := Lib.hid (big_not hR h2)
    clear hR
    go_wp2_with fail
    refine gen_wp (fun w' => Below w.heap.size w w' ∧ Box w' w1.heap.size (.bool sb) (.slice so sn sc) ∧ Right w' sb so sn sc x) ⟨hb1.out.alloc hb1.out.size _, Box.new _ _ _ rfl, hR'.out.alloc _⟩ ?_
    rintro w2 ⟨bb, p, hR⟩
    have p0 := p.c0; have p1 := p.c1
    clear p hR
    go_quiet (fail)
    have bb := below_drewN bb
    go_wp2_with fail
    go_ret2
    refine ⟨?_, bb _⟩
    simp [smallV, es.out]
  · have h2i : decide ((2 : Int) < (sn : Int)) = false := decide_eq_false (by omega)
    clear hR
    by_cases hhi : (9223372036854775807 : Int) < x
    · have es : Hid (isSmall x = false) := Lib.hid (by simp only [isSmall, decide_eq_false_iff_not]; omega)
      go_wp2_with fail
      refine gen_wp (fun w' => Below w.heap.size w w' ∧ Box w' w1.heap.size (.bool sb) (.slice so sn sc) ∧ Right w' sb so sn sc x) ⟨hb1.out.alloc hb1.out.size _, Box.new _ _ _ rfl, hR'.out.alloc _⟩ ?_
      rintro w2 ⟨bb, p, hR⟩
      have bb := bb.drew; have p := p.drew; have A := (hR.whole hx'.out (by omega)).drew
      have p0 := p.c0; have p1 := p.c1
      have s0 := True.intro
      clear hR
      go_region_with (first
        | (go_at_call 29; clear s0; refine (rOf_any 9223372036854775807 _ (by decide) (by decide)).mono ?_; rintro e w' ⟨tb, to_, tn, tc, rfl, hT, hb⟩; have bb := below_then bb (Nat.le_refl _) hb; have p := p.later hb; have A := A.below hb; have hT := hT.whole m1.out (by omega); have p0 := p.c0; have p1 := p.c1)
        | (go_at_call 18; refine (rCmp_any sb tb so to_ sn sc tn tc x 9223372036854775807 _ A hT M hM hx'.out m1.out).mono ?_; rintro e w' ⟨rfl, hb⟩; have bb := below_then bb (Nat.le_refl _) hb; rw [cmpI_gt hhi]))
      all_goals
        go_wp2_with fail
        go_ret2
        refine ⟨?_, bb⟩
        simp [smallV, es.out]
    · have d1 : decide ((0 : Int) < cmpI x 9223372036854775807) = false := decide_eq_false (by
        by_cases h : x = 9223372036854775807
        · rw [cmpI_eq h]; omega
        · rw [cmpI_lt (by omega)]; omega)
      by_cases hlo : x < (-9223372036854775808 : Int)
      · have es : Hid (isSmall x = false) := Lib.hid (by simp only [isSmall, decide_eq_false_iff_not]; omega)
        go_wp2_with fail
        refine gen_wp (fun w' => Below w.heap.size w w' ∧ Box w' w1.heap.size (.bool sb) (.slice so sn sc) ∧ Right w' sb so sn sc x) ⟨hb1.out.alloc hb1.out.size _, Box.new _ _ _ rfl, hR'.out.alloc _⟩ ?_
        rintro w2 ⟨bb, p, hR⟩
        have bb := bb.drew; have p := p.drew; have A := (hR.whole hx'.out (by omega)).drew
        have sa0 := True.intro
        go_region_held3 (fun w' => w'.cell? ⟨w1.heap.size, 0, none⟩ = some (.bool sb) ∧ w'.cell? ⟨w1.heap.size, 1, none⟩ = some (.slice so sn sc))
          (first | with_reducible exact ⟨p.c0, p.c1⟩ | go_keep)
          (first
          | (go_at_call 29; clear sa0; refine (rOf_any 9223372036854775807 _ (by decide) (by decide)).mono ?_; rintro e w' ⟨tb, to_, tn, tc, rfl, hT, hb⟩; have bb := below_then bb (Nat.le_refl _) hb; have p := p.later hb; have A := A.below hb; have hT := hT.whole m1.out (by omega); have sa1 := True.intro)
          | (go_at_call 18; clear sa1; refine (rCmp_any sb tb so to_ sn sc tn tc x 9223372036854775807 _ A hT M hM hx'.out m1.out).mono ?_; rintro e w' ⟨rfl, hb⟩; have bb := below_then bb (Nat.le_refl _) hb; have p := p.later hb; have A := A.below hb; have hT := hT.below hb; have sa2 := True.intro)
          | (go_at_call 29; clear sa2; refine (rOf_any (-9223372036854775808) _ (by decide) (by decide)).mono ?_; rintro e w' ⟨tb, to_, tn, tc, rfl, hT, hb⟩; have bb := below_then bb (Nat.le_refl _) hb; have p := p.later hb; have A := A.below hb; have hT := hT.whole m2.out (by omega); have sa3 := True.intro)
          | (go_at_call 18; clear sa3; refine (rCmp_any sb tb so to_ sn sc tn tc x (-9223372036854775808) _ A hT M hM hx'.out m2.out).mono ?_; rintro e w' ⟨rfl, hb⟩; have bb := below_then bb (Nat.le_refl _) hb; have p := p.later hb; have A := A.below hb; have hT := hT.below hb; rw [cmpI_lt hlo]; have sa4 := True.intro))
        go_wp2_with fail
        go_ret2
        refine ⟨?_, bb⟩
        simp [smallV, es.out]
      · have d2 : decide (cmpI x (-9223372036854775808) < (0 : Int)) = false := decide_eq_false (by
          by_cases h : x = -9223372036854775808
          · rw [cmpI_eq h]; omega
          · rw [cmpI_gt (by omega)]; omega)
        have es : Hid (isSmall x = true) := Lib.hid (by simp only [isSmall, decide_eq_true_eq]; omega)
        go_wp2_with fail
        refine gen_wp (fun w' => Below w.heap.size w w' ∧ Box w' w1.heap.size (.bool sb) (.slice so sn sc) ∧ Right w' sb so sn sc x) ⟨hb1.out.alloc hb1.out.size _, Box.new _ _ _ rfl, hR'.out.alloc _⟩ ?_
        rintro w2 ⟨bb, p, hR⟩
        obtain ⟨f, f1, f2, hs, cf, hsg⟩ := hR.ex
        have bb := bb.drew; have p := p.drew; have A := (hR.whole hx'.out (by omega)).drew
        have hs := hs.below (Below.refl _ _).drew
        have cf' := Lib.hid cf; have hsg' := Lib.hid hsg
        clear hsg cf f1 f2 hR
        have sb0 := True.intro
        go_region_held3 (fun w' => w'.cell? ⟨w1.heap.size, 0, none⟩ = some (.bool sb) ∧ w'.cell? ⟨w1.heap.size, 1, none⟩ = some (.slice so sn sc))
          (first | with_reducible exact ⟨p.c0, p.c1⟩ | go_keep)
          (first
          | (go_at_call 29; clear sb0; refine (rOf_any 9223372036854775807 _ (by decide) (by decide)).mono ?_; rintro e w' ⟨tb, to_, tn, tc, rfl, hT, hb⟩; have bb := below_then bb (Nat.le_refl _) hb; have p := p.later hb; have A := A.below hb; have hs := hs.below hb; have hT := hT.whole m1.out (by omega); have sb1 := True.intro)
          | (go_at_call 18; clear sb1; refine (rCmp_any sb tb so to_ sn sc tn tc x 9223372036854775807 _ A hT M hM hx'.out m1.out).mono ?_; rintro e w' ⟨rfl, hb⟩; have bb := below_then bb (Nat.le_refl _) hb; have p := p.later hb; have A := A.below hb; have hs := hs.below hb; have hT := hT.below hb; have sb2 := True.intro)
          | (go_at_call 29; clear sb2; refine (rOf_any (-9223372036854775808) _ (by decide) (by decide)).mono ?_; rintro e w' ⟨tb, to_, tn, tc, rfl, hT, hb⟩; have bb := below_then bb (Nat.le_refl _) hb; have p := p.later hb; have A := A.below hb; have hs := hs.below hb; have hT := hT.whole m2.out (by omega); have sb3 := True.intro)
          | (go_at_call 18; clear sb3; refine (rCmp_any sb tb so to_ sn sc tn tc x (-9223372036854775808) _ A hT M hM hx'.out m2.out).mono ?_; rintro e w' ⟨rfl, hb⟩; have bb := below_then bb (Nat.le_refl _) hb; have p := p.later hb; have A := A.below hb; have hs := hs.below hb; have hT := hT.below hb; have sb4 := True.intro))
        have hs' := Lib.hid hs; have bb' := Lib.hid bb
        have p0 := p.c0; have p1 := p.c1
        have hxb := Lib.hid (show x.natAbs ≤ 9223372036854775808 by omega)
        have sn2 := Lib.hid (show sn ≤ 2 by omega)
        have xx := Lib.hid (sgn_self x)
        clear hs bb p A hT
        go_wp2_with fail
        go_loop [5, 6] (fun v i => ∃ j : Nat, j ≤ sn ∧ i = .int .i64 ((j : Int) - 1) ∧ v = .int .i64 (sgn sb (x.natAbs / pw j))) (fun _ i => (intOf i + 1).toNat)
        case atStart => exact ⟨sn, Nat.le_refl _, rfl, int_eq (by rw [Nat.div_eq_of_lt cf'.out.lt_pw]; cases sb <;> rfl)⟩
        case round =>
          obtain ⟨j, hj, rfl, rfl⟩ := hrel
          by_cases h0 : j = 0
          · subst h0
            have e : sgn sb (x.natAbs / pw 0) = x := by
              rw [show pw 0 = 1 from rfl, Nat.div_one, hsg'.out]
              exact xx.out
            rw [e]
            clear e
            go_wp2_with fail
            go_ret2
            refine ⟨?_, bb'.out⟩
            simp [smallV, es.out]
          · obtain ⟨t, rfl⟩ : ∃ t, j = t + 1 := ⟨j - 1, by omega⟩
            have e : ((t + 1 : Nat) : Int) - 1 = (t : Int) := by omega
            rw [e]
            clear e
            rcases hs'.out with h | ⟨g, off, rfl, hc⟩
            · omega
            have hcell := hc t (by omega)
            have hl := cf'.out.lim t (by omega)
            have hd := val_digit sn2.out (by omega) cf'.out.lim cf'.out.val (j := t)
            have hle := Nat.div_le_self x.natAbs (pw t)
            obtain ⟨a, ha⟩ : ∃ a, a = x.natAbs / pw (t + 1) := ⟨_, rfl⟩
            rw [← ha] at hd ⊢
            have hd' := Lib.hid hd; have ha' := Lib.hid ha
            cases sb
            · have hx0 : 0 ≤ x := by have := hsg'.out; simp at this; exact this
              have b1 : (a : Int) * 4294967296 + (f t : Int) ≤ 9223372036854775807 := by omega
              have b2 : (0 : Int) ≤ (a : Int) * 4294967296 := by omega
              rw [sgn_false]
              clear hc hd ha hle hx0
              go_wp2_with fail
              go_round
              case rel => exact ⟨t, by omega, rfl, int_eq (by rw [hd'.out, sgn_false]; omega)⟩
              case measure => simp [intOf]
            · have b1 : -9223372036854775808 ≤ -(a : Int) * 4294967296 - (f t : Int) := by have := hxb.out; omega
              have b2 : -(a : Int) * 4294967296 ≤ 0 := by omega
              rw [sgn_true]
              clear hc hd ha hle
              go_wp2_with fail
              go_round
              case rel => exact ⟨t, by omega, rfl, int_eq (by rw [hd'.out, sgn_true]; omega)⟩
              case measure => simp [intOf]

end Go.Proofs.Ytkcbppijajgoiaa
