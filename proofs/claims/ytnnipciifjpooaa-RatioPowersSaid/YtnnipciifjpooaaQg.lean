/-
  scrimref02.Gcd of longer numbers.
-/
import Derived.Test.YtnnipciifjpooaaRefC
namespace Go.Proofs.Ytnnipciifjpooaa
open Go.RowKit Num



set_option maxRecDepth 100000 in
set_option maxHeartbeats 2000000 in
theorem refGcdL_any (ao bo : Option Addr) (n nc m mc : Nat) (f g : Nat → Nat) (w : World) (A : Arg w ao n nc f) (B : Arg w bo m mc g) (L : Nat) (hL : L ≤ 1000) (hn40 : n ≤ L) (hm40 : m ≤ L) :
    Calls Try.prog 68 #[.slice ao n nc, .slice bo m mc] w (NumPost (Nat.gcd (val f n) (val g m)) w) := by
  have hA := Lib.hid A; have hB := Lib.hid B
  have hX := Lib.hid (small' (val_lt A.lim) hn40); have hY := Lib.hid (small' (val_lt B.lim) hm40)
  obtain ⟨X, hX0⟩ : ∃ X, X = val f n := ⟨_, rfl⟩
  obtain ⟨Y, hY0⟩ : ∃ Y, Y = val g m := ⟨_, rfl⟩
  obtain ⟨D, hD0⟩ : ∃ D, D = Nat.gcd X Y := ⟨_, rfl⟩
  rw [← hX0, ← hY0, ← hD0]
  rw [← hX0] at hX
  rw [← hY0] at hY
  obtain ⟨P, hP0⟩ : ∃ P, P = pw L := ⟨_, rfl⟩
  have hL' := Lib.hid hL
  obtain ⟨M, hM0⟩ : ∃ M, M = 64 * L + 1 := ⟨_, rfl⟩
  obtain ⟨K, hK0⟩ : ∃ K, K = M + 2 := ⟨_, rfl⟩
  have hK : Hid (M + 2 = K) := Lib.hid hK0.symm
  have hKl : K < 64010 := by omega
  have hKl' := Lib.hid hKl
  clear hK0
  obtain ⟨T, hT0⟩ : ∃ T, T = 2 ^ M := ⟨_, rfl⟩
  have hT := Lib.hid hT0
  have hM' : Hid (64 * L + 1 ≤ M) := Lib.hid (by omega)
  clear hT0 hM0 hL
  rw [← hP0] at hX hY
  have hX' := Lib.hid hX0; have hY' := Lib.hid hY0; have hD' := Lib.hid hD0; have hP' := Lib.hid hP0
  clear A B hX0 hY0 hD0 hP0
  go_enter Try.func68, Try.ntmps68
  go_wp2_with fail
  refine (refNorm_any ao n nc f w hA.out).mono ?_
  rw [← hX'.out]
  rintro e w1 ⟨co, q, qc, h, rfl, hq, hqc, hsh, hch, hb⟩
  have hsh' := Lib.hid hsh; have hch' := Lib.hid hch; have hbel := Lib.hid hb
  clear hsh hch hb
  go_wp2_with fail
  refine (refNorm_any bo m mc g w1 (hB.out.below hbel.out)).mono ?_
  rw [← hY'.out]
  rintro e w2 ⟨do_, r, rc, i, rfl, hr, hrc, hsi, hci, hb⟩
  have hsi' := Lib.hid hsi; have hci' := Lib.hid hci; have hbel2 := Lib.hid (hbel.out.trans (hb.mono hbel.out.size)); have hsh2 := Lib.hid (hsh'.out.below hb)
  clear hsi hci hb hsh'
  go_wp2_with fail
  go_loopw [5, 6, 7] (fun a b c wr => ∃ (k x y : Nat) (ao : Option Addr) (n nc : Nat) (f : Nat → Nat) (bo : Option Addr) (m mc : Nat) (g : Nat → Nat), c = .int .i64 k ∧ a = .slice ao n nc ∧ b = .slice bo m mc ∧ n ≤ nc ∧ nc ≤ 9223372036854775807 ∧ m ≤ mc ∧ mc ≤ 9223372036854775807 ∧ k ≤ K ∧
      Sl wr ao n f ∧ Canon x n f ∧ Sl wr bo m g ∧ Canon y m g ∧ x < P ∧ y < P ∧ D = Nat.gcd x y ∧ (k = 0 ∨ (y < x ∧ x * y * 2 ^ k ≤ T)) ∧ Below w.heap.size w wr) (fun _ _ c _ => K - (intOf c).toNat)
  case atStart =>
    exact ⟨0, X, Y, co, q, qc, h, do_, r, rc, i, rfl, rfl, rfl, hq, hqc, hr, hrc, by omega, hsh2.out, hch'.out, hsi'.out, hci'.out, hX.out, hY.out, hD'.out, .inl rfl, hbel2.out⟩
  case round =>
    obtain ⟨k, x, y, ao, n, nc, f, bo, m, mc, g, rfl, rfl, rfl, hn, hnc, hm, hmc, hk, hsf0, hcf0, hsg0, hcg0, hx0, hy0, hg0, hst0, hbel0⟩ := hrel
    have hsf := Lib.hid hsf0; have hcf := Lib.hid hcf0; have hsg := Lib.hid hsg0; have hcg := Lib.hid hcg0; have hx := Lib.hid hx0; have hy := Lib.hid hy0; have hg := Lib.hid hg0; have hst := Lib.hid hst0; have hbel := Lib.hid hbel0
    clear hsf0 hcf0 hsg0 hcg0 hx0 hy0 hg0 hst0 hbel0
    have hkk0 : k ≤ 64010 := by omega
    have hkt : decide ((k : Int) < 100000) = true := by rw [decide_eq_true_iff]; omega
    by_cases hm0 : m = 0
    · subst hm0
      focus
        go_wp2_with fail
        go_ret
        refine ⟨ao, n, nc, f, rfl, hn, hnc, hsf.out, ?_, hbel.out⟩
        have e : y = 0 := hcg.out.ne_zero.1 rfl
        have e2 := hg.out
        rw [e, Nat.gcd_zero_right] at e2
        rw [e2]; exact hcf.out
    · have hy1 : 0 < y := Nat.pos_of_ne_zero (fun e => hm0 (hcg.out.ne_zero.2 e))
      have hkk : k ≤ M := by
        rcases hst.out with h | ⟨h1, h2⟩
        · omega
        · rw [hT.out] at h2
          exact gcd_few h1 hy1 h2
      have hst2 : Hid (x % y < y ∧ y * (x % y) * 2 ^ (k + 1) ≤ T) := by
        rcases hst.out with h | ⟨h1, h2⟩
        · refine ⟨Nat.mod_lt _ hy1, ?_⟩
          rw [h, hT.out]
          have py : y ≤ pw L := by rw [← hP'.out]; exact Nat.le_of_lt hy.out
          exact gcd_start py (Nat.le_trans (Nat.le_of_lt (Nat.mod_lt _ hy1)) py) hM'.out
        · exact gcd_step h1 hy1 h2
      obtain ⟨a1, a2⟩ := hcf.out.few hsf.out hn hnc (by rw [← hP'.out]; exact hx.out) (Nat.le_trans hL'.out (by decide))
      obtain ⟨b1, b2⟩ := hcg.out.few hsg.out hm hmc (by rw [← hP'.out]; exact hy.out) (Nat.le_trans hL'.out (by decide))
      have a1' := Lib.hid a1; have b1' := Lib.hid b1
      have hm1 : 0 < m := by omega
      have n40 := Lib.hid a2; have m40 := Lib.hid b2; have k30 := Lib.hid hkk; have k40 := Lib.hid hkk0
      clear a1 b1 a2 b2 hk
      go_wp2_with fail
      refine (refDivMod_any ao bo n nc m mc f g wr a1'.out b1'.out (Nat.le_trans n40.out hL'.out) (Nat.le_trans m40.out hL'.out)).mono ?_
      rw [hcf.out.val, hcg.out.val]
      rintro e w3 ⟨hb3, h3⟩
      rcases h3 with ⟨h3, _⟩ | ⟨_, ao3, n3, nc3, f3, bo3, m3, mc3, g3, rfl, _, _, hm3, hmc3, _, _, hsg3, hcg3⟩
      · exact absurd h3 (Nat.pos_iff_ne_zero.1 hy1)
      have hsg3' := Lib.hid hsg3; have hcg3' := Lib.hid hcg3; have hsg4 := Lib.hid (hsg.out.below hb3)
      have hbel3 := Lib.hid (hbel.out.trans (hb3.mono hbel.out.size))
      clear hb3 hsg3 hcg3
      go_wp2_with fail
      go_roundw
      case rel =>
        exact ⟨k + 1, y, x % y, bo, m, mc, g, bo3, m3, mc3, g3, by go_num, rfl, rfl, hm, hmc, hm3, hmc3, by have := k30.out; have := hK.out; omega, hsg4.out, hcg.out, hsg3'.out, hcg3'.out, hy.out, Nat.lt_trans (Nat.mod_lt _ hy1) hy.out, by rw [hg.out, Nat.gcd_comm, Nat.gcd_rec, Nat.gcd_comm], .inr hst2.out, hbel3.out⟩
      case measure => simp [intOf]; have := k30.out; have := hK.out; omega

end Go.Proofs.Ytnnipciifjpooaa

