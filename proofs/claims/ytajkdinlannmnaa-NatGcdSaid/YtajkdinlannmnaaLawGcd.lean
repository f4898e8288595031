/-
  scrimlaw02.NatGcd, walked.
-/
import Derived.Test.YtajkdinlannmnaaLawBack
import Derived.Test.YtajkdinlannmnaaRefC
namespace Go.Proofs.Ytajkdinlannmnaa
open Go.RowKit Num

theorem gcd_lt {x y P : Nat} (hx : x < P) (hy : y < P) : Nat.gcd x y < P := by
  by_cases h : x = 0
  · rw [h, Nat.gcd_zero_left]; exact hy
  · exact Nat.lt_of_le_of_lt (Nat.gcd_le_left y (Nat.pos_of_ne_zero h)) hx

set_option maxHeartbeats 4000000 in
theorem gcd_walk (ao bo : Option Addr) (n nc m mc : Nat) (f g : Nat → Nat) (w : World) (hn : n ≤ nc) (hnc : nc ≤ 9223372036854775807) (hm : m ≤ mc) (hmc : mc ≤ 9223372036854775807)
    (hf : Sl w ao n f) (hg : Sl w bo m g) (lf : Lim f n) (lg : Lim g m) :
    Calls Try.prog 6 #[.slice ao n nc, .slice bo m mc] w (Tells (.bool true) w) := by
  obtain ⟨k, hk⟩ : ∃ k, k = min n 12 := ⟨_, rfl⟩
  obtain ⟨l, hl⟩ : ∃ l, l = min m 12 := ⟨_, rfl⟩
  have hk40 : k ≤ 12 := by omega
  have hl40 : l ≤ 12 := by omega
  have hA := Lib.hid (show Arg w ao k nc f from ⟨by omega, hnc, by omega, hf.mono (by omega), lf.mono (by omega)⟩)
  have hB := Lib.hid (show Arg w bo l mc g from ⟨by omega, hmc, by omega, hg.mono (by omega), lg.mono (by omega)⟩)
  obtain ⟨x, hx⟩ : ∃ x, x = val f k := ⟨_, rfl⟩
  obtain ⟨y, hy⟩ : ∃ y, y = val g l := ⟨_, rfl⟩
  have bx := Lib.hid (show x < pw 40 by rw [hx]; exact Nat.lt_of_lt_of_le (val_lt (lf.mono (by omega))) (pw_le (by omega)))
  have byy := Lib.hid (show y < pw 40 by rw [hy]; exact Nat.lt_of_lt_of_le (val_lt (lg.mono (by omega))) (pw_le (by omega)))
  have hx' := Lib.hid hx; have hy' := Lib.hid hy; have hk' := Lib.hid hk; have hl' := Lib.hid hl
  clear hx hy hk hl hf hg lf lg
  have hw := Lib.hid (Below.refl w.heap.size w)
  by_cases c1 : 12 < n <;> by_cases c2 : 12 < m
  all_goals
    have hk2 := hk'.out
    have hl2 := hl'.out
    first | rw [Nat.min_eq_right (show 12 ≤ n by omega)] at hk2 | rw [Nat.min_eq_left (show n ≤ 12 by omega)] at hk2
    first | rw [Nat.min_eq_right (show 12 ≤ m by omega)] at hl2 | rw [Nat.min_eq_left (show m ≤ 12 by omega)] at hl2
    subst hk2
    subst hl2
    clear hk' hl'
    go_enter Try.func6, Try.ntmps6
    go_wp2_with fail
    refine (gcd_any ao bo _ nc _ mc f g w hA.out hB.out).mono ?_
    rw [← hx'.out, ← hy'.out]
    rintro e w1 ⟨co, cn, cc, c, rfl, hcn, hcc, hsc, hc, hb⟩
    have hA := Lib.hid (hA.out.below hb)
    have hB := Lib.hid (hB.out.below hb)
    have hw := Lib.hid (hw.out.trans (hb.mono hw.out.size))
    have sc := Lib.hid hsc; have gc := Lib.hid hc
    clear hb hsc hc
    go_wp2_with fail
    refine (refGcd_any ao bo _ nc _ mc f g w1 hA.out hB.out (by omega) (by omega)).mono ?_
    rw [← hx'.out, ← hy'.out]
    rintro e w2 ⟨do_, dn, dc, d, rfl, hdn, hdc, hsd, hd, hb⟩
    have hA := Lib.hid (hA.out.below hb)
    have hB := Lib.hid (hB.out.below hb)
    have sc := Lib.hid (sc.out.below hb)
    have hw := Lib.hid (hw.out.trans (hb.mono hw.out.size))
    have sd := Lib.hid hsd; have gd := Lib.hid hd
    clear hb hsd hd
    go_wp2_with fail
    refine (same_t co do_ (Nat.gcd x y) cn cc dn dc c d w2 hcn hcc sc.out sd.out gc.out gd.out).mono ?_
    rintro e w3 ⟨rfl, hb⟩
    have hA := Lib.hid (hA.out.below hb)
    have hB := Lib.hid (hB.out.below hb)
    have sc := Lib.hid (sc.out.below hb)
    have hw := Lib.hid (hw.out.trans (hb.mono hw.out.size))
    clear hb
    by_cases c0 : cn = 0
    · have g0 : Nat.gcd x y = 0 := gc.out.ne_zero.1 c0
      have x0 := Lib.hid (Nat.eq_zero_of_gcd_eq_zero_left g0); have y0 := Lib.hid (Nat.eq_zero_of_gcd_eq_zero_right g0)
      clear g0
      have gc' := Lib.hid gc.out
      subst c0
      go_wp2_with fail
      refine (refNorm_any ao _ nc f w3 hA.out).mono ?_
      rw [← hx'.out]
      rintro e w4 ⟨uo, un, uc, u, rfl, hun, huc, hsu, hu, hb⟩
      have hB := Lib.hid (hB.out.below hb)
      have hw := Lib.hid (hw.out.trans (hb.mono hw.out.size))
      obtain rfl : un = 0 := hu.ne_zero.2 x0.out
      clear hb hsu hu
      go_wp2_with fail
      refine (refNorm_any bo _ mc g w4 hB.out).mono ?_
      rw [← hy'.out]
      rintro e w5 ⟨vo, vn, vc, v, rfl, hvn, hvc, hsv, hv, hb⟩
      have hw := Lib.hid (hw.out.trans (hb.mono hw.out.size))
      obtain rfl : vn = 0 := hv.ne_zero.2 y0.out
      clear hb hsv hv
      go_wp2_with fail
      refine (awake_t w5).mono ?_
      rintro e w6 ⟨rfl, hb⟩
      have hw := Lib.hid (hw.out.trans (hb.mono hw.out.size))
      clear hb
      go_wp2_with fail
      go_ret
      exact ⟨rfl, hw.out⟩
    · have cb : ((cn : Int) == 0) = false := by simp [c0]
      have g0 := Lib.hid (show Nat.gcd x y ≠ 0 from fun e => c0 (gc.out.ne_zero.2 e))
      have hC := Lib.hid (gc.out.arg sc.out hcn hcc (small (gcd_lt bx.out byy.out) (by omega)))
      go_wp2_with fail
      refine (divMod_any ao co _ nc cn cc f c w3 hA.out hC.out).mono ?_
      rw [← hx'.out, gc.out.val]
      rintro e w4 ⟨hb, h⟩
      rcases h with ⟨h1, _⟩ | ⟨_, qo, qn, qc, q, ro, rn, rc, r, rfl, hqn, hqc, hrn, hrc, hsq, hcq, hsr, hcr⟩
      · exact absurd h1 g0.out
      have hB := Lib.hid (hB.out.below hb)
      have hC := Lib.hid (hC.out.below hb)
      have hw := Lib.hid (hw.out.trans (hb.mono hw.out.size))
      obtain rfl : rn = 0 := hcr.ne_zero.2 (Nat.mod_eq_zero_of_dvd (Nat.gcd_dvd_left x y))
      clear hb hsq hcq hsr hcr
      go_wp2_with fail
      refine (divMod_any bo co _ mc cn cc g c w4 hB.out hC.out).mono ?_
      rw [← hy'.out, gc.out.val]
      rintro e w5 ⟨hb, h⟩
      rcases h with ⟨h1, _⟩ | ⟨_, uo, un, uc, u, vo, vn, vc, v, rfl, hun, huc, hvn, hvc, hsu, hcu, hsv, hcv⟩
      · exact absurd h1 g0.out
      have hw := Lib.hid (hw.out.trans (hb.mono hw.out.size))
      obtain rfl : vn = 0 := hcv.ne_zero.2 (Nat.mod_eq_zero_of_dvd (Nat.gcd_dvd_right x y))
      clear hb hsu hcu hsv hcv
      go_wp2_with fail
      refine (awake_t w5).mono ?_
      rintro e w6 ⟨rfl, hb⟩
      have hw := Lib.hid (hw.out.trans (hb.mono hw.out.size))
      clear hb
      go_wp2_with fail
      go_ret
      exact ⟨rfl, hw.out⟩

end Go.Proofs.Ytajkdinlannmnaa
