/-
  nat.Add: the sum.
-/
import Derived.Test.YtnnipciifjpooaaTrim
import Derived.Test.YtnnipciifjpooaaBits
import Derived.Test.YtnnipciifjpooaaBlk
namespace Go.Proofs.Ytnnipciifjpooaa
open Go.RowKit Num

set_option maxHeartbeats 400000 in
theorem add_any (ao bo : Option Addr) (n nc m mc : Nat) (f g : Nat → Nat) (w : World) (A : Arg w ao n nc f) (B : Arg w bo m mc g) :
    Calls Try.prog 73 #[.slice ao n nc, .slice bo m mc] w (NumPost (val f n + val g m) w) := by
  obtain ⟨hn, hnc, hnb, hf, lf⟩ := A
  obtain ⟨hm, hmc, hmb, hg, lg⟩ := B
  obtain ⟨i32, hi, hz0, hz1, hz2⟩ := info_parts info32
  go_enter Try.func73, Try.ntmps73
  go_wp2_with fail
  refine (trim_any ao n nc f w hn (by omega) hf).mono ?_
  rintro e w' ⟨k, hk, rfl, htf0, hvf0, rfl⟩
  have htf := Lib.hid htf0; have hvf := Lib.hid hvf0; clear htf0 hvf0
  go_wp2_with fail
  refine (trim_any bo m mc g w hm (by omega) hg).mono ?_
  rintro e w' ⟨l, hl, rfl, htg0, hvg0, rfl⟩
  have htg := Lib.hid htg0; have hvg := Lib.hid hvg0; clear htg0 hvg0
  obtain ⟨N, hN0⟩ : ∃ N, N = max k l + 1 := ⟨_, rfl⟩
  have hNk : k ≤ N := by omega
  have hNl : l ≤ N := by omega
  have hNb : N ≤ 1000001 := by omega
  have hN := Lib.hid hN0; clear hN0
  go_wp2_with (at_make; refine wpList_make_full _ rfl (.tmp 17) (.tmp 17) 22 rfl w.heap.size 47 i32 (.int .u32 0) 1 Try.underlying22 hi hz0 hz1 .i64 .i64 _ _ N rfl rfl (by rw [hN.out]; omega) (by rw [hN.out]; omega) (by rw [hz2]; omega) (by unfold maxLen; omega) (Nat.le_refl _) ?_)
  intro w1 hown hgrow
  have hblk0 := Lib.hid (Blk.of_made hown)
  have hgr0 := Lib.hid (grown_any hgrow (some w.heap.size))
  clear hown hgrow
  have hsf := Lib.hid (hf.mono hk); have hsg := Lib.hid (hg.mono hl)
  have hlf := Lib.hid (lf.mono hk); have hlg := Lib.hid (lg.mono hl)
  clear hf hg lf lg
  go_wp2_with fail
  go_loopw [6, 21] (fun cv i wr => ∃ (j : Nat) (F : Nat → Nat) (c : Nat), j ≤ N ∧ i = .int .i64 j ∧ cv = .int .u32 c ∧ c ≤ 1 ∧ Blk wr w.heap.size N F ∧ Lim F N ∧ val F j + c * pw j = val (at0 f k) j + val (at0 g l) j ∧ w.grownBy wr (some w.heap.size))
    (fun _ i _ => N - (intOf i).toNat)
  case atStart => exact ⟨0, fun _ => 0, 0, Nat.zero_le _, rfl, rfl, by omega, hblk0.out, fun j _ => (by decide : 0 < 4294967296), rfl, hgr0.out⟩
  case round =>
    obtain ⟨j, F, c, hj, rfl, rfl, hc, hblk1, hlim1, hval1, hgr1⟩ := hrel
    have hlim := Lib.hid hlim1; have hval := Lib.hid hval1; have hgr := Lib.hid hgr1; have hblk := Lib.hid hblk1; clear hlim1 hval1 hgr1 hblk1
    have hsfr := hsf.out.grown hsf.out.off hgr.out
    have hsgr := hsg.out.grown hsg.out.off hgr.out
    have bf := at0_lt hlf.out j
    have bg := at0_lt hlg.out j
    by_cases hlt : j < N
    · have hcell := hblk.out.cell j hlt
      have hfree := hblk.out.free j
      go_wp2_with fail
      refine (limb_any ao k nc j f wr (by omega) hsfr).mono ?_
      rintro e w' ⟨rfl, rfl⟩
      rw [Int.toNat_natCast]
      go_wp2_with fail
      refine (limb_any bo l mc j g wr (by omega) hsgr).mono ?_
      rintro e w' ⟨rfl, rfl⟩
      rw [Int.toNat_natCast]
      go_wp2_with fail
      refine (add32_any (at0 f k j) (at0 g l j) c wr (by omega) (by omega) (by omega) (by omega) (by omega) (by omega)).mono ?_
      rintro e w' ⟨rfl, rfl⟩
      go_wp2_with fail
      go_roundw
      case rel =>
        refine ⟨j + 1, put F j ((at0 f k j + at0 g l j + c) % 4294967296), (at0 f k j + at0 g l j + c) / 4294967296, by omega, by go_num, int_eq (by omega), by omega, hblk.out.set j hlt _ _ (by omega),
          put_lim hlim.out (Nat.mod_lt _ (by decide)), ?_, grown_setCell hgr.out _ _⟩
        rw [val_put_succ, val_succ, val_succ, pw_succ]
        exact sum_step hval.out (by omega)
      case measure => simp [intOf]; omega
    · obtain rfl : j = N := by omega
      have hsl := Sl.of_blk0 hblk.out j (Nat.le_refl _)
      go_wp2_with fail
      refine (trim_any (some ⟨w.heap.size, 0, none⟩) j j F wr (Nat.le_refl _) (by omega) hsl).mono ?_
      rintro e w' ⟨q, hq, rfl, htq0, hvq0, rfl⟩
      have htq := Lib.hid htq0; have hvq := Lib.hid hvq0; clear htq0 hvq0
      go_wp2_with fail
      go_ret
      refine ⟨some ⟨w.heap.size, 0, none⟩, q, j, F, rfl, hq, by omega, hsl.mono hq, ⟨hlim.out.mono hq, htq.out, ?_⟩, grown_below hgr.out (Nat.le_refl _) (Nat.le_refl _)⟩
      have e1 := hval.out
      rw [val_at0_ge hNk, val_at0_ge hNl] at e1
      obtain ⟨M, rfl⟩ : ∃ M, j = M + 1 := ⟨max k l, hN.out⟩
      have hM : M = max k l := by have := hN.out; omega
      have a1 : val f k < pw M := Nat.lt_of_lt_of_le (val_lt hlf.out) (pw_le (by omega))
      have a2 : val g l < pw M := Nat.lt_of_lt_of_le (val_lt hlg.out) (pw_le (by omega))
      rw [hvq.out, (sum_end e1 a1 a2).1, hvf.out, hvg.out]

end Go.Proofs.Ytnnipciifjpooaa
