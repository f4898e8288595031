/-
  nat.word, fromWord, gcdOfWords and Gcd: the greatest number that divides both.
-/
import Derived.Test.YtnnipciifjpooaaDiv
import Derived.Deep.LoopGhost
namespace Go.Proofs.Ytnnipciifjpooaa
open Go.RowKit Num

theorem val_two {f : Nat → Nat} {n : Nat} (h : n ≤ 2) : at0 f n 1 * 4294967296 + at0 f n 0 = val f n := by
  rw [← val_at0_ge h]
  simp [val, pw]
  omega

set_option maxHeartbeats 400000 in
theorem word_any (ao : Option Addr) (n nc : Nat) (f : Nat → Nat) (w : World) (h2 : n ≤ 2) (hs : Sl w ao n f) (lf : Lim f n) :
    Calls Try.prog 90 #[.slice ao n nc] w fun e w' => e = .returned (.int .u64 (val f n)) ∧ w = w' := by
  have b0 := at0_lt lf 0
  have b1 := at0_lt lf 1
  have hor := or_shift (at0 f n 1) (at0 f n 0) (by omega) (by omega) (by omega) (by omega)
  have hv := Lib.hid (val_two (f := f) h2)
  go_enter Try.func90, Try.ntmps90
  go_wp2_with fail
  refine (limb_any ao n nc 1 f w (by omega) hs).mono ?_
  rintro e w' ⟨rfl, rfl⟩
  rw [show (1 : Int).toNat = 1 from rfl]
  go_wp2_with fail
  refine (limb_any ao n nc 0 f w (by omega) hs).mono ?_
  rintro e w' ⟨rfl, rfl⟩
  rw [show (0 : Int).toNat = 0 from rfl]
  go_wp2_with fail
  go_ret
  exact ⟨ret_num (by rw [← hv.out]; omega), rfl⟩

set_option maxHeartbeats 400000 in
theorem gcdOfWords_any (x y : Nat) (w : World) (hx : x < 18446744073709551616) (hy : y < 18446744073709551616) :
    Calls Try.prog 89 #[.int .u64 x, .int .u64 y] w fun e w' => e = .returned (.int .u64 (Nat.gcd x y)) ∧ ∃ q, w' = w.drewN q := by
  obtain ⟨G, hG0⟩ : ∃ G, G = Nat.gcd x y := ⟨_, rfl⟩
  rw [← hG0]
  have hG := Lib.hid hG0
  clear hG0
  go_enter Try.func89, Try.ntmps89
  go_wp2_with fail
  go_loopw [0, 1] (fun a b wr => ∃ u v : Nat, a = .int .u64 u ∧ b = .int .u64 v ∧ u < 18446744073709551616 ∧ v < 18446744073709551616 ∧ G = Nat.gcd u v ∧ ∃ q, wr = w.drewN q) (fun _ b _ => (intOf b).toNat)
  case atStart => exact ⟨x, y, rfl, rfl, hx, hy, hG.out, 0, rfl⟩
  case round =>
    obtain ⟨u, v, rfl, rfl, hu, hv, hg0, hq0⟩ := hrel
    have hg := Lib.hid hg0; have hq := Lib.hid hq0
    clear hg0 hq0
    by_cases h0 : v = 0
    · subst h0
      go_wp2_with fail
      go_ret
      exact ⟨ret_num (by rw [hg.out, Nat.gcd_zero_right]), hq.out⟩
    · have hb : ((v : Int) != 0) = true := by rw [bne_iff_ne]; omega
      have hm : (u : Int) % (v : Int) = ((u % v : Nat) : Int) := by omega
      have hm' := Lib.hid hm
      have hm0 : 0 ≤ (u : Int) % (v : Int) := by omega
      have hlt : u % v < v := Nat.mod_lt _ (by omega)
      clear hm
      go_wp2_with fail
      go_quiet (fail)
      go_wp2_with fail
      go_roundw
      case rel =>
        obtain ⟨q, hq'⟩ := hq.out
        exact ⟨v, u % v, rfl, int_eq hm'.out, hv, by omega, by rw [hg.out, Nat.gcd_comm, Nat.gcd_rec, Nat.gcd_comm], drewN_trans hq' _⟩
      case measure => simp [intOf]; omega

set_option maxHeartbeats 400000 in
theorem fromWord_any (x : Nat) (w : World) (hx : x < 18446744073709551616) :
    Calls Try.prog 88 #[.int .u64 x] w (NumPost x w) := by
  go_enter Try.func88, Try.ntmps88
  go_wp2_with fail
  obtain ⟨w1, hw1⟩ : ∃ w1, w1 = w.alloc (.cells #[.int .u32 ((x : Int) % 4294967296), .int .u32 ((x : Int) / 4294967296)] 47) := ⟨_, rfl⟩
  rw [← hw1]
  have hblk : Blk w1 w.heap.size 2 (put (put (fun _ => 0) 0 (x % 4294967296)) 1 (x / 4294967296)) := by
    refine ⟨fun j hj => ?_, fun j => ?_⟩
    · rw [hw1, World.cell?_alloc_new]
      have : j = 0 ∨ j = 1 := by omega
      rcases this with rfl | rfl
      · rw [put_ne (by decide), put_at]; simp
      · rw [put_at]; simp
    · rw [hw1, World.frozen?_alloc_new]
  have hbel : Below w.heap.size w w1 := by rw [hw1]; exact (Below.refl _ _).alloc (Nat.le_refl _) _
  have hsl := Lib.hid (Sl.of_blk0 hblk 2 (Nat.le_refl _)); have hbel' := Lib.hid hbel
  clear hblk hbel hw1
  refine (trim_any (some ⟨w.heap.size, 0, none⟩) 2 2 _ w1 (Nat.le_refl _) (by omega) hsl.out).mono ?_
  rintro e w' ⟨k, hk, rfl, htf0, hvf0, rfl⟩
  have htf := Lib.hid htf0; have hvf := Lib.hid hvf0; clear htf0 hvf0
  go_wp2_with fail
  go_ret
  refine ⟨_, k, 2, _, rfl, hk, by omega, hsl.out.mono hk, ⟨?_, htf.out, ?_⟩, hbel'.out⟩
  · refine Lim.mono (n := 2) (fun j hj => ?_) hk
    have : j = 0 ∨ j = 1 := by omega
    rcases this with rfl | rfl
    · rw [put_ne (by decide), put_at]; exact Nat.mod_lt _ (by decide)
    · rw [put_at]; omega
  · rw [hvf.out, val_succ, val_succ, val_zero, put_at, put_ne (by decide), put_at]
    simp [pw]
    omega

/-- A number of at most 1000000 limbs without noughts on top, that may be handed on. -/
theorem Num.Canon.arg {w : World} {ao : Option Addr} {n nc v : Nat} {f : Nat → Nat} (h : Canon v n f) (hs : Sl w ao n f) (hn : n ≤ nc) (hc : nc ≤ 9223372036854775807) (hv : v < pw 1000000) : Arg w ao n nc f :=
  ⟨hn, hc, h.len_le hv, hs, h.lim⟩

set_option maxHeartbeats 1000000 in
theorem gcd_any (ao bo : Option Addr) (n nc m mc : Nat) (f g : Nat → Nat) (w : World) (A : Arg w ao n nc f) (B : Arg w bo m mc g) :
    Calls Try.prog 66 #[.slice ao n nc, .slice bo m mc] w (NumPost (Nat.gcd (val f n) (val g m)) w) := by
  have vx : val f n < pw 1000000 := Nat.lt_of_lt_of_le (val_lt A.lim) (pw_le A.few)
  have vy : val g m < pw 1000000 := Nat.lt_of_lt_of_le (val_lt B.lim) (pw_le B.few)
  obtain ⟨X, hX⟩ : ∃ X, X = val f n := ⟨_, rfl⟩
  obtain ⟨Y, hY⟩ : ∃ Y, Y = val g m := ⟨_, rfl⟩
  obtain ⟨G, hG0⟩ : ∃ G, G = Nat.gcd X Y := ⟨_, rfl⟩
  obtain ⟨T, hT⟩ : ∃ T, T = pw 1000000 := ⟨_, rfl⟩
  rw [← hX, ← hY, ← hG0]
  rw [← hT] at vx vy
  rw [← hX] at vx
  rw [← hY] at vy
  have hX' := Lib.hid hX; have hY' := Lib.hid hY; have hG' := Lib.hid hG0; have hT' := Lib.hid hT; have vx' := Lib.hid vx; have vy' := Lib.hid vy
  have hA := Lib.hid A; have hB := Lib.hid B
  clear hX hY hG0 hT vx vy A B
  go_enter Try.func66, Try.ntmps66
  go_wp2_with fail
  refine (norm_any ao n nc f w hA.out).mono ?_
  rintro e w1 ⟨co, q, qc, h, rfl, hq, hqc, hsh, hch, hbel⟩
  have hsh' := Lib.hid hsh; have hch' := Lib.hid hch; have hbel' := Lib.hid hbel
  clear hsh hch hbel
  go_wp2_with fail
  refine (norm_any bo m mc g w1 (hB.out.below hbel'.out)).mono ?_
  rintro e w2 ⟨do_, r, rc, i, rfl, hr, hrc, hsi, hci, hbel⟩
  have hsi' := Lib.hid hsi; have hci' := Lib.hid hci; have hbel2 := Lib.hid (hbel'.out.trans (hbel.mono hbel'.out.size)); have hsh2 := Lib.hid (hsh'.out.below hbel)
  clear hsi hci hbel hsh'
  go_wp2_with fail
  go_loopg [0, 1] Y (fun y a b wr => ∃ (x : Nat) (ao : Option Addr) (n nc : Nat) (f : Nat → Nat) (bo : Option Addr) (m mc : Nat) (g : Nat → Nat), a = .slice ao n nc ∧ b = .slice bo m mc ∧ n ≤ nc ∧ nc ≤ 9223372036854775807 ∧ m ≤ mc ∧ mc ≤ 9223372036854775807 ∧
      Sl wr ao n f ∧ Canon x n f ∧ Sl wr bo m g ∧ Canon y m g ∧ x < T ∧ y < T ∧ G = Nat.gcd x y ∧ Below w.heap.size w wr)
  case atStart =>
    exact ⟨X, co, q, qc, h, do_, r, rc, i, rfl, rfl, hq, hqc, hr, hrc, hsh2.out, by rw [hX'.out]; exact hch'.out, hsi'.out, by rw [hY'.out]; exact hci'.out, vx'.out, vy'.out, hG'.out, hbel2.out⟩
  case round =>
    obtain ⟨x, ao, n, nc, f, bo, m, mc, g, rfl, rfl, hn, hnc, hm, hmc, hsf0, hcf0, hsg0, hcg0, hx0, hy0, hg0, hbel0⟩ := hrel
    have hsf := Lib.hid hsf0; have hcf := Lib.hid hcf0; have hsg := Lib.hid hsg0; have hcg := Lib.hid hcg0; have hx := Lib.hid hx0; have hy := Lib.hid hy0; have hg := Lib.hid hg0; have hbel := Lib.hid hbel0
    clear hsf0 hcf0 hsg0 hcg0 hx0 hy0 hg0 hbel0
    by_cases hm0 : m = 0
    · subst hm0
      go_wp2_with fail
      go_ret
      refine ⟨ao, n, nc, f, rfl, hn, hnc, hsf.out, ?_, hbel.out⟩
      have e : gk = 0 := hcg.out.ne_zero.1 rfl
      have e2 := hg.out
      rw [e, Nat.gcd_zero_right] at e2
      rw [e2]; exact hcf.out
    · have hy1 : 0 < gk := Nat.pos_of_ne_zero (fun e => hm0 (hcg.out.ne_zero.2 e))
      by_cases hsmall : n ≤ 2 ∧ m ≤ 2
      · obtain ⟨s1, s2⟩ := hsmall
        have wx : x < 18446744073709551616 := Nat.lt_of_lt_of_le hcf.out.lt_pw (pw_le s1)
        have wy : gk < 18446744073709551616 := Nat.lt_of_lt_of_le hcg.out.lt_pw (pw_le s2)
        go_wp2_with fail
        refine (word_any ao n nc f wr s1 hsf.out hcf.out.lim).mono ?_
        rw [hcf.out.val]
        rintro e w' ⟨rfl, rfl⟩
        go_wp2_with fail
        refine (word_any bo m mc g wr s2 hsg.out hcg.out.lim).mono ?_
        rw [hcg.out.val]
        rintro e w' ⟨rfl, rfl⟩
        go_wp2_with fail
        refine (gcdOfWords_any x gk wr wx wy).mono ?_
        rw [← hg.out]
        have wg : G < 18446744073709551616 := by rw [hg.out]; exact Nat.lt_of_le_of_lt (Nat.gcd_le_right _ hy1) wy
        rintro e w' ⟨rfl, p, rfl⟩
        go_wp2_with fail
        refine (fromWord_any G (wr.drewN p) wg).mono ?_
        rintro e w3 ⟨ao3, n3, nc3, f3, rfl, h1, h2, h3, h4, h5⟩
        have h3' := Lib.hid h3; have h4' := Lib.hid h4
        have hbel3 := Lib.hid ((below_drewN hbel.out p).trans (h5.mono hbel.out.size))
        clear h3 h4 h5
        go_wp2_with fail
        go_ret
        exact ⟨ao3, n3, nc3, f3, rfl, h1, h2, h3'.out, h4'.out, hbel3.out⟩
      · by_cases s1 : n ≤ 2
        · have s2 : ¬ m ≤ 2 := fun h => hsmall ⟨s1, h⟩
          clear hsmall
          go_wp2_with fail
          refine (divMod_any ao bo n nc m mc f g wr (hcf.out.arg hsf.out hn hnc (by rw [← hT'.out]; exact hx.out)) (hcg.out.arg hsg.out hm hmc (by rw [← hT'.out]; exact hy.out))).mono ?_
          rw [hcf.out.val, hcg.out.val]
          rintro e w3 ⟨hb3, h3⟩
          rcases h3 with ⟨h3, _⟩ | ⟨_, ao3, n3, nc3, f3, bo3, m3, mc3, g3, rfl, _, _, hm3, hmc3, _, _, hsg3, hcg3⟩
          · exact absurd h3 (Nat.pos_iff_ne_zero.1 hy1)
          have hb3' := Lib.hid hb3; have hsg3' := Lib.hid hsg3; have hcg3' := Lib.hid hcg3; have hsg4 := Lib.hid (hsg.out.below hb3)
          have hbel3 := Lib.hid (hbel.out.trans (hb3.mono hbel.out.size))
          clear hb3 hsg3 hcg3
          go_wp2_with fail
          go_roundg (x % gk)
          case measure => exact Nat.mod_lt _ hy1
          case rel =>
            exact ⟨gk, bo, m, mc, g, bo3, m3, mc3, g3, rfl, rfl, hm, hmc, hm3, hmc3, hsg4.out, hcg.out, hsg3'.out, hcg3'.out, hy.out, Nat.lt_trans (Nat.mod_lt _ hy1) hy.out, by rw [hg.out, Nat.gcd_comm, Nat.gcd_rec, Nat.gcd_comm], hbel3.out⟩
        · clear hsmall
          go_wp2_with fail
          refine (divMod_any ao bo n nc m mc f g wr (hcf.out.arg hsf.out hn hnc (by rw [← hT'.out]; exact hx.out)) (hcg.out.arg hsg.out hm hmc (by rw [← hT'.out]; exact hy.out))).mono ?_
          rw [hcf.out.val, hcg.out.val]
          rintro e w3 ⟨hb3, h3⟩
          rcases h3 with ⟨h3, _⟩ | ⟨_, ao3, n3, nc3, f3, bo3, m3, mc3, g3, rfl, _, _, hm3, hmc3, _, _, hsg3, hcg3⟩
          · exact absurd h3 (Nat.pos_iff_ne_zero.1 hy1)
          have hb3' := Lib.hid hb3; have hsg3' := Lib.hid hsg3; have hcg3' := Lib.hid hcg3; have hsg4 := Lib.hid (hsg.out.below hb3)
          have hbel3 := Lib.hid (hbel.out.trans (hb3.mono hbel.out.size))
          clear hb3 hsg3 hcg3
          go_wp2_with fail
          go_roundg (x % gk)
          case measure => exact Nat.mod_lt _ hy1
          case rel =>
            exact ⟨gk, bo, m, mc, g, bo3, m3, mc3, g3, rfl, rfl, hm, hmc, hm3, hmc3, hsg4.out, hcg.out, hsg3'.out, hcg3'.out, hy.out, Nat.lt_trans (Nat.mod_lt _ hy1) hy.out, by rw [hg.out, Nat.gcd_comm, Nat.gcd_rec, Nat.gcd_comm], hbel3.out⟩

end Go.Proofs.Ytnnipciifjpooaa
