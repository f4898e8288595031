/-
  scrimref02.Mul, DivMod and Gcd.
-/
import Derived.Test.YtnnipciifjpooaaRefB
import Derived.Test.YtnnipciifjpooaaDiv
namespace Go.Proofs.Ytnnipciifjpooaa
open Go.RowKit Num

theorem drawn_b {w w' : World} (h : ∃ q, w' = w.drewN q) : Below w.heap.size w w' := by
  obtain ⟨q, rfl⟩ := h
  exact below_drewN (Below.refl _ _) q

theorem small' {v k K : Nat} (h : v < pw k) (hk : k ≤ K) : v < pw K := Nat.lt_of_lt_of_le h (pw_le hk)

/-- A number in new memory, short enough to go on with. -/
theorem Num.Canon.few {w : World} {ao : Option Addr} {n nc v k : Nat} {f : Nat → Nat} (h : Canon v n f) (hs : Sl w ao n f) (hn : n ≤ nc) (hc : nc ≤ 9223372036854775807) (hv : v < pw k) (hk : k ≤ 1000000) : Arg w ao n nc f ∧ n ≤ k :=
  ⟨⟨hn, hc, Nat.le_trans (h.len_le hv) hk, hs, h.lim⟩, h.len_le hv⟩

theorem half_lt {X j n : Nat} (h : X < pw n) : X / 2 ^ j < pw n := Nat.lt_of_le_of_lt (Nat.div_le_self _ _) h

set_option maxHeartbeats 2000000 in
theorem refMul_any (ao bo : Option Addr) (n nc m mc : Nat) (f g : Nat → Nat) (w : World) (A : Arg w ao n nc f) (B : Arg w bo m mc g) (hn40 : n ≤ 1000) (hm40 : m ≤ 1000) :
    Calls Try.prog 81 #[.slice ao n nc, .slice bo m mc] w (NumPost (val f n * val g m) w) := by
  have hA := Lib.hid A; have hB := Lib.hid B
  have hX := Lib.hid (val_lt A.lim); have hY := Lib.hid (val_lt B.lim)
  obtain ⟨X, hX0⟩ : ∃ X, X = val f n := ⟨_, rfl⟩
  obtain ⟨Y, hY0⟩ : ∃ Y, Y = val g m := ⟨_, rfl⟩
  rw [← hX0, ← hY0]
  rw [← hX0] at hX
  rw [← hY0] at hY
  have hX' := Lib.hid hX0; have hY' := Lib.hid hY0
  clear A B hX0 hY0
  go_enter Try.func81, Try.ntmps81
  go_wp2_with fail
  go_loopw [5, 6] (fun v i wr => ∃ (j : Nat) (co : Option Addr) (k kc : Nat) (F : Nat → Nat), j ≤ 32 * n ∧ i = .int .i64 ((j : Int) - 1) ∧ v = .slice co k kc ∧ k ≤ kc ∧ kc ≤ 9223372036854775807 ∧ Sl wr co k F ∧ Canon (X / 2 ^ j * Y) k F ∧ Below w.heap.size w wr)
    (fun _ i _ => (intOf i + 1).toNat)
  case atStart =>
    refine ⟨32 * n, none, 0, 0, fun _ => 0, Nat.le_refl _, int_eq (by omega), rfl, Nat.le_refl _, by omega, .inl rfl, ?_, Below.refl _ _⟩
    rw [hX'.out, val_none hA.out.lim, Nat.zero_mul]
    exact canon_zero _
  case round =>
    obtain ⟨j, co, k, kc, F, hj, rfl, rfl, hk, hkc, hsl0, hcan0, hbel0⟩ := hrel
    have hsl := Lib.hid hsl0; have hcan := Lib.hid hcan0; have hbel := Lib.hid hbel0
    clear hsl0 hcan0 hbel0
    by_cases h0 : j = 0
    · subst h0
      go_wp2_with fail
      go_ret
      refine ⟨co, k, kc, F, rfl, hk, hkc, hsl.out, ?_, hbel.out⟩
      have e := hcan.out
      rw [Nat.pow_zero, Nat.div_one] at e
      exact e
    · obtain ⟨s, rfl⟩ : ∃ s, j = s + 1 := ⟨j - 1, by omega⟩
      have hXY : X / 2 ^ (s + 1) * Y < pw 2000 := by
        have a := half_lt (j := s + 1) hX.out
        have b := hY.out
        have c : X / 2 ^ (s + 1) * Y ≤ X / 2 ^ (s + 1) * pw m := Nat.mul_le_mul_left _ (by omega)
        have d : X / 2 ^ (s + 1) * pw m < pw n * pw m := (Nat.mul_lt_mul_right (pw_pos m)).2 a
        rw [← pw_add] at d
        have e : pw (n + m) ≤ pw 2000 := pw_le (by omega)
        omega
      obtain ⟨hC, hk2⟩ := hcan.out.few hsl.out hk hkc hXY (by omega)
      have hC' := Lib.hid hC
      clear hC hXY
      go_wp2_with fail
      refine (twice_any co k kc 0 F wr hC'.out (by omega) (by omega)).mono ?_
      rw [hcan.out.val]
      rintro e w1 ⟨eo, p, pc, G, rfl, hp, hpc, hsp, hcp, hb⟩
      have hsp' := Lib.hid hsp; have hcp' := Lib.hid hcp; have hb' := Lib.hid (hbel.out.trans (hb.mono hbel.out.size))
      clear hsp hcp hb
      go_wp2_with fail
      refine (bit_any ao n nc _ f w1 (by omega) (by omega) (hA.out.below hb'.out).sl hA.out.lim).mono ?_
      rw [show (s : Int).toNat = s from Int.toNat_natCast s]
      rintro e w' ⟨rfl, rfl⟩
      have htop := val_top hA.out.lim s
      rw [← hX'.out] at htop
      have hbl := bitAt_le f n s
      by_cases hbit : bitAt f n s = 1
      · rw [hbit] at htop ⊢
        have htop' := Lib.hid htop
        clear htop hbl hbit
        have hW : 2 * (X / 2 ^ (s + 1) * Y) + 0 < pw 2001 := by
          have e : pw 2001 = 4294967296 * pw 2000 := pw_succ 2000
          have hXY : X / 2 ^ (s + 1) * Y < pw 2000 := by
            have a := half_lt (j := s + 1) hX.out
            have b := hY.out
            have c : X / 2 ^ (s + 1) * Y ≤ X / 2 ^ (s + 1) * pw m := Nat.mul_le_mul_left _ (by omega)
            have d : X / 2 ^ (s + 1) * pw m < pw n * pw m := (Nat.mul_lt_mul_right (pw_pos m)).2 a
            rw [← pw_add] at d
            have e : pw (n + m) ≤ pw 2000 := pw_le (by omega)
            omega
          omega
        obtain ⟨hD, hp2⟩ := hcp'.out.few hsp'.out hp hpc hW (by omega)
        have hD' := Lib.hid hD
        clear hD hW
        go_wp2_with fail
        refine (refAdd_any eo bo p pc m mc G g w1 hD'.out (hB.out.below hb'.out) (by omega)).mono ?_
        rw [hcp'.out.val, ← hY'.out]
        rintro e w2 ⟨eo2, p2, pc2, G2, rfl, hp2, hpc2, hsp2, hcp2, hb2⟩
        have hsp2' := Lib.hid hsp2; have hcp2' := Lib.hid hcp2; have hb2' := Lib.hid (hb'.out.trans (hb2.mono hb'.out.size))
        clear hsp2 hcp2 hb2
        go_wp2_with fail
        go_roundw
        case rel =>
          refine ⟨s, eo2, p2, pc2, G2, by omega, int_eq (by omega), rfl, hp2, hpc2, hsp2'.out, ?_, hb2'.out⟩
          rw [htop'.out, Nat.add_mul, Nat.one_mul, Nat.mul_assoc]
          exact hcp2'.out
        case measure => simp [intOf]
      · have hbit0 : bitAt f n s = 0 := by omega
        rw [hbit0] at htop ⊢
        have htop' := Lib.hid htop
        clear htop hbl hbit hbit0
        go_wp2_with fail
        go_roundw
        case rel =>
          refine ⟨s, eo, p, pc, G, by omega, int_eq (by omega), rfl, hp, hpc, hsp'.out, ?_, hb'.out⟩
          rw [htop'.out, Nat.add_zero, Nat.mul_assoc]
          exact hcp'.out
        case measure => simp [intOf]

set_option maxHeartbeats 2000000 in
theorem refDivMod_any (ao bo : Option Addr) (n nc m mc : Nat) (f g : Nat → Nat) (w : World) (A : Arg w ao n nc f) (B : Arg w bo m mc g) (hn40 : n ≤ 1000) (hm40 : m ≤ 1000) :
    Calls Try.prog 70 #[.slice ao n nc, .slice bo m mc] w (DivPost (val f n) (val g m) w) := by
  have hA := Lib.hid A; have hB := Lib.hid B
  have hX := Lib.hid (val_lt A.lim); have hY := Lib.hid (val_lt B.lim)
  obtain ⟨X, hX0⟩ : ∃ X, X = val f n := ⟨_, rfl⟩
  obtain ⟨Y, hY0⟩ : ∃ Y, Y = val g m := ⟨_, rfl⟩
  rw [← hX0, ← hY0]
  rw [← hX0] at hX
  rw [← hY0] at hY
  have hX' := Lib.hid hX0; have hY' := Lib.hid hY0
  clear A B hX0 hY0
  go_enter Try.func70, Try.ntmps70
  go_wp2_with fail
  refine (refNorm_any bo m mc g w hB.out).mono ?_
  rw [← hY'.out]
  rintro e w1 ⟨no, q, qc, h, rfl, hq, hqc, hsh, hch, hb⟩
  have hbel1 := Lib.hid hb; have hne := Lib.hid hch.ne_zero
  clear hsh hch hb
  by_cases hq0 : q = 0
  · have hYz := Lib.hid (hne.out.1 hq0)
    clear hne
    subst hq0
    go_wp2_with fail
    go_ret3
    exact ⟨hbel1.out, .inl ⟨hYz.out, rfl⟩⟩
  have hY0 : 0 < Y := Nat.pos_of_ne_zero (fun e => hq0 (hne.out.2 e))
  have hqb : ((q : Int) == 0) = false := by simp [hq0]
  go_wp2_with fail
  clear hqb hq0
  go_loopw [7, 8, 9] (fun v r i wr => ∃ (j : Nat) (co : Option Addr) (k kc : Nat) (F : Nat → Nat) (eo : Option Addr) (l lc : Nat) (G : Nat → Nat), j ≤ 32 * n ∧ i = .int .i64 ((j : Int) - 1) ∧ v = .slice co k kc ∧ r = .slice eo l lc ∧ k ≤ kc ∧ kc ≤ 9223372036854775807 ∧ l ≤ lc ∧ lc ≤ 9223372036854775807 ∧
      Sl wr co k F ∧ Canon (X / 2 ^ j / Y) k F ∧ Sl wr eo l G ∧ Canon (X / 2 ^ j % Y) l G ∧ Below w.heap.size w wr)
    (fun _ _ i _ => (intOf i + 1).toNat)
  case atStart =>
    refine ⟨32 * n, none, 0, 0, fun _ => 0, none, 0, 0, fun _ => 0, Nat.le_refl _, int_eq (by omega), rfl, rfl, Nat.le_refl _, by omega, Nat.le_refl _, by omega, .inl rfl, ?_, .inl rfl, ?_, hbel1.out⟩
    · rw [hX'.out, val_none hA.out.lim, Nat.zero_div]
      exact canon_zero _
    · rw [hX'.out, val_none hA.out.lim, Nat.zero_mod]
      exact canon_zero _
  case round =>
    obtain ⟨j, co, k, kc, F, eo, l, lc, G, hj, rfl, rfl, rfl, hk, hkc, hl, hlc, hsF0, hcF0, hsG0, hcG0, hbel0⟩ := hrel
    have hsF := Lib.hid hsF0; have hcF := Lib.hid hcF0; have hsG := Lib.hid hsG0; have hcG := Lib.hid hcG0; have hbel := Lib.hid hbel0
    clear hsF0 hcF0 hsG0 hcG0 hbel0
    by_cases h0 : j = 0
    · subst h0
      go_wp2_with fail
      go_ret3
      refine ⟨hbel.out, .inr ⟨Nat.pos_iff_ne_zero.1 hY0, co, k, kc, F, eo, l, lc, G, rfl, hk, hkc, hl, hlc, hsF.out, ?_, hsG.out, ?_⟩⟩
      · have e := hcF.out
        rw [Nat.pow_zero, Nat.div_one] at e
        exact e
      · have e := hcG.out
        rw [Nat.pow_zero, Nat.div_one] at e
        exact e
    · obtain ⟨s, rfl⟩ : ∃ s, j = s + 1 := ⟨j - 1, by omega⟩
      have bq := Nat.lt_of_le_of_lt (Nat.div_le_self (X / 2 ^ (s + 1)) Y) (half_lt (j := s + 1) hX.out)
      have br := Nat.lt_of_lt_of_le (Nat.mod_lt (X / 2 ^ (s + 1)) hY0) (Nat.le_of_lt hY.out)
      obtain ⟨hQ, hkn⟩ := hcF.out.few hsF.out hk hkc bq (by omega)
      obtain ⟨hR, hlm⟩ := hcG.out.few hsG.out hl hlc br (by omega)
      have hQ' := Lib.hid hQ; have hR' := Lib.hid hR; have br' := Lib.hid br
      clear hQ hR bq br h0
      go_wp2_with fail
      refine (bit_any ao n nc _ f wr (by omega) (by omega) (hA.out.below hbel.out).sl hA.out.lim).mono ?_
      rw [show (s : Int).toNat = s from Int.toNat_natCast s]
      rintro e w' ⟨rfl, rfl⟩
      have htop := val_top hA.out.lim s
      rw [← hX'.out] at htop
      have hbl := bitAt_le f n s
      obtain ⟨b, hbb⟩ : ∃ b, b = bitAt f n s := ⟨_, rfl⟩
      rw [← hbb] at htop hbl ⊢
      have htop' := Lib.hid htop
      clear htop hbb
      obtain ⟨dv1, dv2⟩ := div_bit (Z := X / 2 ^ (s + 1)) hY0 hbl
      have dv1' := Lib.hid dv1; have dv2' := Lib.hid dv2
      clear dv1 dv2
      go_wp2_with fail
      refine (twice_any eo l lc b G wr hR'.out (by omega) hbl).mono ?_
      rw [hcG.out.val]
      rintro e w2 ⟨xo, p, pc, H, rfl, hp, hpc, hsp, hcp, hb⟩
      have hT : 2 * (X / 2 ^ (s + 1) % Y) + b < pw (m + 1) := by
        have e1 : pw (m + 1) = 4294967296 * pw m := pw_succ m
        have := br'.out
        omega
      obtain ⟨hD, hp2⟩ := hcp.few hsp hp hpc hT (by omega)
      have hD' := Lib.hid hD; have hsp' := Lib.hid hsp; have hcp' := Lib.hid hcp; have hb' := Lib.hid (hbel.out.trans (hb.mono hbel.out.size)); have hQ2 := Lib.hid (hQ'.out.below hb)
      clear hsp hcp hb hD hT
      go_wp2_with fail
      refine (refSub_any xo bo p pc m mc H g w2 hD'.out (hB.out.below hb'.out)).mono ?_
      rw [hcp'.out.val, ← hY'.out]
      rintro e w3 ⟨hb3, h3⟩
      have hb3' := Lib.hid (hb'.out.trans (hb3.mono hb'.out.size)); have hQ3 := Lib.hid (hQ2.out.below hb3); have hsp3 := Lib.hid (hsp'.out.below hb3)
      clear hb3
      rcases h3 with ⟨hlt, rfl⟩ | ⟨hge, yo, y, yc, I, rfl, hy, hyc, hsI, hcI⟩
      · have d := dv2'.out hlt
        have d' := Lib.hid d
        clear d hlt
        go_wp2_with fail
        refine (twice_any co k kc 0 F w3 hQ3.out (by omega) (by omega)).mono ?_
        rw [hcF.out.val]
        rintro e w4 ⟨zo, z, zc, J, rfl, hz, hzc, hsz, hcz, hb4⟩
        have hsz' := Lib.hid hsz; have hcz' := Lib.hid hcz; have hb4' := Lib.hid (hb3'.out.trans (hb4.mono hb3'.out.size)); have hsp4 := Lib.hid (hsp3.out.below hb4)
        clear hsz hcz hb4
        go_wp2_with fail
        go_roundw
        case rel =>
          refine ⟨s, zo, z, zc, J, xo, p, pc, H, by omega, int_eq (by omega), rfl, rfl, hz, hzc, hp, hpc, hsz'.out, ?_, hsp4.out, ?_, hb4'.out⟩
          · rw [htop'.out, d'.out.1]; exact hcz'.out
          · rw [htop'.out, d'.out.2]; exact hcp'.out
        case measure => simp [intOf]
      · have d := dv1'.out hge
        have d' := Lib.hid d; have hsI' := Lib.hid hsI; have hcI' := Lib.hid hcI
        clear d hge hsI hcI
        go_wp2_with fail
        refine (twice_any co k kc 1 F w3 hQ3.out (by omega) (by omega)).mono ?_
        rw [hcF.out.val]
        rintro e w4 ⟨zo, z, zc, J, rfl, hz, hzc, hsz, hcz, hb4⟩
        have hsz' := Lib.hid hsz; have hcz' := Lib.hid hcz; have hb4' := Lib.hid (hb3'.out.trans (hb4.mono hb3'.out.size)); have hsI4 := Lib.hid (hsI'.out.below hb4)
        clear hsz hcz hb4
        go_wp2_with fail
        go_roundw
        case rel =>
          refine ⟨s, zo, z, zc, J, yo, y, yc, I, by omega, int_eq (by omega), rfl, rfl, hz, hzc, hy, hyc, hsz'.out, ?_, hsI4.out, ?_, hb4'.out⟩
          · rw [htop'.out, d'.out.1]; exact hcz'.out
          · rw [htop'.out, d'.out.2]; exact hcI'.out
        case measure => simp [intOf]

set_option maxRecDepth 100000 in
set_option maxHeartbeats 2000000 in
theorem refGcd_any (ao bo : Option Addr) (n nc m mc : Nat) (f g : Nat → Nat) (w : World) (A : Arg w ao n nc f) (B : Arg w bo m mc g) (hn40 : n ≤ 40) (hm40 : m ≤ 40) :
    Calls Try.prog 68 #[.slice ao n nc, .slice bo m mc] w (NumPost (Nat.gcd (val f n) (val g m)) w) := by
  have hA := Lib.hid A; have hB := Lib.hid B
  have hX := Lib.hid (small' (val_lt A.lim) hn40); have hY := Lib.hid (small' (val_lt B.lim) hm40)
  obtain ⟨X, hX0⟩ : ∃ X, X = val f n := ⟨_, rfl⟩
  obtain ⟨Y, hY0⟩ : ∃ Y, Y = val g m := ⟨_, rfl⟩
  obtain ⟨D, hD0⟩ : ∃ D, D = Nat.gcd X Y := ⟨_, rfl⟩
  rw [← hX0, ← hY0, ← hD0]
  rw [← hX0] at hX
  rw [← hY0] at hY
  obtain ⟨P, hP0⟩ : ∃ P, P = pw 40 := ⟨_, rfl⟩
  obtain ⟨K, hK0⟩ : ∃ K, K = 4000 := ⟨_, rfl⟩
  have hK : 3999 < K := by omega
  have hKl : K < 4001 := by omega
  clear hK0
  obtain ⟨M, hM0⟩ : ∃ M, M = 3000 := ⟨_, rfl⟩
  obtain ⟨T, hT0⟩ : ∃ T, T = 2 ^ M := ⟨_, rfl⟩
  have hT := Lib.hid hT0
  have hM : M ≤ 3000 := by omega
  have hM' : 3000 ≤ M := by omega
  clear hT0 hM0
  rw [← hP0] at hX hY
  have hX' := Lib.hid hX0; have hY' := Lib.hid hY0; have hD' := Lib.hid hD0; have hP' := Lib.hid hP0
  clear A B hX0 hY0 hD0 hP0
  go_enter Try.func68, Try.ntmps68
  go_wp2_with fail
  refine (refNorm_any ao n nc f w hA.out).mono ?_
  rw [← hX'.out]
  rintro e w1 ⟨co, q, qc, h, rfl, hq, hqc, hsh, hch, hb⟩
  have hsh' := Lib.hid hsh; have hch' := Lib.hid hch; have hbel := Lib.hid hb
  clear hsh hch hb
  go_wp2_with fail
  refine (refNorm_any bo m mc g w1 (hB.out.below hbel.out)).mono ?_
  rw [← hY'.out]
  rintro e w2 ⟨do_, r, rc, i, rfl, hr, hrc, hsi, hci, hb⟩
  have hsi' := Lib.hid hsi; have hci' := Lib.hid hci; have hbel2 := Lib.hid (hbel.out.trans (hb.mono hbel.out.size)); have hsh2 := Lib.hid (hsh'.out.below hb)
  clear hsi hci hb hsh'
  go_wp2_with fail
  go_loopw [5, 6, 7] (fun a b c wr => ∃ (k x y : Nat) (ao : Option Addr) (n nc : Nat) (f : Nat → Nat) (bo : Option Addr) (m mc : Nat) (g : Nat → Nat), c = .int .i64 k ∧ a = .slice ao n nc ∧ b = .slice bo m mc ∧ n ≤ nc ∧ nc ≤ 9223372036854775807 ∧ m ≤ mc ∧ mc ≤ 9223372036854775807 ∧ k ≤ K ∧
      Sl wr ao n f ∧ Canon x n f ∧ Sl wr bo m g ∧ Canon y m g ∧ x < P ∧ y < P ∧ D = Nat.gcd x y ∧ (k = 0 ∨ (y < x ∧ x * y * 2 ^ k ≤ T)) ∧ Below w.heap.size w wr) (fun _ _ c _ => K - (intOf c).toNat)
  case atStart =>
    exact ⟨0, X, Y, co, q, qc, h, do_, r, rc, i, rfl, rfl, rfl, hq, hqc, hr, hrc, by omega, hsh2.out, hch'.out, hsi'.out, hci'.out, hX.out, hY.out, hD'.out, .inl rfl, hbel2.out⟩
  case round =>
    obtain ⟨k, x, y, ao, n, nc, f, bo, m, mc, g, rfl, rfl, rfl, hn, hnc, hm, hmc, hk, hsf0, hcf0, hsg0, hcg0, hx0, hy0, hg0, hst0, hbel0⟩ := hrel
    have hsf := Lib.hid hsf0; have hcf := Lib.hid hcf0; have hsg := Lib.hid hsg0; have hcg := Lib.hid hcg0; have hx := Lib.hid hx0; have hy := Lib.hid hy0; have hg := Lib.hid hg0; have hst := Lib.hid hst0; have hbel := Lib.hid hbel0
    clear hsf0 hcf0 hsg0 hcg0 hx0 hy0 hg0 hst0 hbel0
    have hkk0 : k ≤ 4000 := by omega
    have hkt : decide ((k : Int) < 100000) = true := by rw [decide_eq_true_iff]; omega
    by_cases hm0 : m = 0
    · subst hm0
      focus
        go_wp2_with fail
        go_ret
        refine ⟨ao, n, nc, f, rfl, hn, hnc, hsf.out, ?_, hbel.out⟩
        have e : y = 0 := hcg.out.ne_zero.1 rfl
        have e2 := hg.out
        rw [e, Nat.gcd_zero_right] at e2
        rw [e2]; exact hcf.out
    · have hy1 : 0 < y := Nat.pos_of_ne_zero (fun e => hm0 (hcg.out.ne_zero.2 e))
      have hkk : k ≤ 3000 := by
        rcases hst.out with h | ⟨h1, h2⟩
        · omega
        · rw [hT.out] at h2
          exact Nat.le_trans (gcd_few h1 hy1 h2) hM
      have hst2 : Hid (x % y < y ∧ y * (x % y) * 2 ^ (k + 1) ≤ T) := by
        rcases hst.out with h | ⟨h1, h2⟩
        · refine ⟨Nat.mod_lt _ hy1, ?_⟩
          rw [h, hT.out]
          have py : y ≤ pw 40 := by rw [← hP'.out]; exact Nat.le_of_lt hy.out
          exact gcd_start py (Nat.le_trans (Nat.le_of_lt (Nat.mod_lt _ hy1)) py) (by omega)
        · exact gcd_step h1 hy1 h2
      obtain ⟨a1, a2⟩ := hcf.out.few hsf.out hn hnc (by rw [← hP'.out]; exact hx.out) (by omega)
      obtain ⟨b1, b2⟩ := hcg.out.few hsg.out hm hmc (by rw [← hP'.out]; exact hy.out) (by omega)
      have a1' := Lib.hid a1; have b1' := Lib.hid b1
      have hm1 : 0 < m := by omega
      have n40 := Lib.hid a2; have m40 := Lib.hid b2; have k30 := Lib.hid hkk; have k40 := Lib.hid hkk0
      clear a1 b1 a2 b2 hk hM hM'
      go_wp2_with fail
      refine (refDivMod_any ao bo n nc m mc f g wr a1'.out b1'.out (Nat.le_trans n40.out (by decide)) (Nat.le_trans m40.out (by decide))).mono ?_
      rw [hcf.out.val, hcg.out.val]
      rintro e w3 ⟨hb3, h3⟩
      rcases h3 with ⟨h3, _⟩ | ⟨_, ao3, n3, nc3, f3, bo3, m3, mc3, g3, rfl, _, _, hm3, hmc3, _, _, hsg3, hcg3⟩
      · exact absurd h3 (Nat.pos_iff_ne_zero.1 hy1)
      have hsg3' := Lib.hid hsg3; have hcg3' := Lib.hid hcg3; have hsg4 := Lib.hid (hsg.out.below hb3)
      have hbel3 := Lib.hid (hbel.out.trans (hb3.mono hbel.out.size))
      clear hb3 hsg3 hcg3
      go_wp2_with fail
      go_roundw
      case rel =>
        exact ⟨k + 1, y, x % y, bo, m, mc, g, bo3, m3, mc3, g3, by go_num, rfl, rfl, hm, hmc, hm3, hmc3, by have := k30.out; omega, hsg4.out, hcg.out, hsg3'.out, hcg3'.out, hy.out, Nat.lt_trans (Nat.mod_lt _ hy1) hy.out, by rw [hg.out, Nat.gcd_comm, Nat.gcd_rec, Nat.gcd_comm], .inr hst2.out, hbel3.out⟩
      case measure => simp [intOf]; have := k30.out; omega

end Go.Proofs.Ytnnipciifjpooaa

