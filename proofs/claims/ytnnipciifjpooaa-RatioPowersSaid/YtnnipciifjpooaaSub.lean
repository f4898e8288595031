/-
  nat.Sub: the difference, or none.
-/
import Derived.Test.YtnnipciifjpooaaTrim
import Derived.Test.YtnnipciifjpooaaBits
import Derived.Test.YtnnipciifjpooaaBlk
import Derived.Test.YtnnipciifjpooaaNum2
import Derived.Deep.RegionWith
namespace Go.Proofs.Ytnnipciifjpooaa
open Go.RowKit Num

def SubPost (x y : Nat) (w : World) (e : Ending) (w' : World) : Prop :=
  Below w.heap.size w w' ∧ ((x < y ∧ e = .returned (.tuple #[.slice none 0 0, .bool false])) ∨
    (y ≤ x ∧ ∃ ao n cap f, e = .returned (.tuple #[.slice ao n cap, .bool true]) ∧ n ≤ cap ∧ cap ≤ 9223372036854775807 ∧ Sl w' ao n f ∧ Canon (x - y) n f))

set_option maxHeartbeats 1000000 in
theorem sub_any (ao bo : Option Addr) (n nc m mc : Nat) (f g : Nat → Nat) (w : World) (A : Arg w ao n nc f) (B : Arg w bo m mc g) :
    Calls Try.prog 74 #[.slice ao n nc, .slice bo m mc] w (SubPost (val f n) (val g m) w) := by
  obtain ⟨hn, hnc, hnb, hf, lf⟩ := A
  obtain ⟨hm, hmc, hmb, hg, lg⟩ := B
  obtain ⟨i32, hi, hz0, hz1, hz2⟩ := info_parts info32
  go_enter Try.func74, Try.ntmps74
  go_wp2_with fail
  refine (trim_any ao n nc f w hn (by omega) hf).mono ?_
  rintro e w' ⟨k, hk, rfl, htf0, hvf0, rfl⟩
  have htf := Lib.hid htf0; have hvf := Lib.hid hvf0; clear htf0 hvf0
  go_wp2_with fail
  refine (trim_any bo m mc g w hm (by omega) hg).mono ?_
  rintro e w' ⟨l, hl, rfl, htg0, hvg0, rfl⟩
  have htg := Lib.hid htg0; have hvg := Lib.hid hvg0; clear htg0 hvg0
  go_wp2_with (at_make; refine wpList_make_full _ rfl (.tmp 14) (.tmp 14) 22 rfl w.heap.size 47 i32 (.int .u32 0) 1 Try.underlying22 hi hz0 hz1 .i64 .i64 _ _ k rfl rfl rfl rfl (by rw [hz2]; omega) (by unfold maxLen; omega) (Nat.le_refl _) ?_)
  intro w1 hown hgrow
  have hblk0 := Lib.hid (Blk.of_made hown)
  have hgr0 := Lib.hid (grown_any hgrow (some w.heap.size))
  clear hown hgrow
  have hsf := Lib.hid (hf.mono hk); have hsg := Lib.hid (hg.mono hl)
  have hlf := Lib.hid (lf.mono hk); have hlg := Lib.hid (lg.mono hl)
  clear hf hg lf lg
  go_wp2_with fail
  go_loopw [7, 18] (fun cv i wr => ∃ (j : Nat) (F : Nat → Nat) (c : Nat), j ≤ k ∧ i = .int .i64 j ∧ cv = .int .u32 c ∧ c ≤ 1 ∧ Blk wr w.heap.size k F ∧ Lim F k ∧ val F j + val (at0 g l) j = val f j + c * pw j ∧ w.grownBy wr (some w.heap.size))
    (fun _ i _ => k - (intOf i).toNat)
  case atStart => exact ⟨0, fun _ => 0, 0, Nat.zero_le _, rfl, rfl, by omega, hblk0.out, fun j _ => (by decide : 0 < 4294967296), rfl, hgr0.out⟩
  case round =>
    obtain ⟨j, F, c, hj, rfl, rfl, hc, hblk1, hlim1, hval1, hgr1⟩ := hrel
    have hlim := Lib.hid hlim1; have hval := Lib.hid hval1; have hgr := Lib.hid hgr1; have hblk := Lib.hid hblk1; clear hlim1 hval1 hgr1 hblk1
    have hsfr := hsf.out.grown hsf.out.off hgr.out
    have hsgr := Lib.hid (hsg.out.grown hsg.out.off hgr.out)
    have bg := at0_lt hlg.out j
    by_cases hlt : j < k
    · have hcell := hblk.out.cell j hlt
      have hfree := hblk.out.free j
      have bf := hlf.out j hlt
      rcases hsfr with h | ⟨b, off, rfl, hcf⟩
      · omega
      have hcf' := hcf j hlt
      clear hcf
      go_wp2_with fail
      go_region_with (first
        | (go_at_call 95; refine (limb_any bo l mc j g _ (by omega) (by exact hsgr.out)).mono ?_; rintro e w' ⟨rfl, rfl⟩; rw [Int.toNat_natCast])
        | (go_at_call 96; refine (sub32_nat (f j) (at0 g l j) c _ bf bg hc).mono ?_; rintro e w' ⟨rfl, rfl⟩))
      all_goals
        go_wp2_with fail
        go_roundw
        case rel =>
          obtain ⟨q1, q2, q3⟩ := sub_eq bf bg hc
          refine ⟨j + 1, put F j (subD (f j) (at0 g l j) c), subC (f j) (at0 g l j) c, by omega, by go_num, rfl, q3, ?_, put_lim hlim.out q2, ?_, ?_⟩
          · first | exact (hblk.out.set j hlt _ _ rfl).drew | exact hblk.out.set j hlt _ _ rfl | exact (hblk.out.drew).set j hlt _ _ rfl
          · rw [val_put_succ, val_succ, val_succ, pw_succ]
            exact dif_step hval.out q1
          · first | exact grown_drew (grown_setCell hgr.out _ _) | exact grown_setCell hgr.out _ _ | exact grown_setCell (grown_drew hgr.out) _ _
        case measure => simp [intOf]; omega
    · obtain rfl : j = k := by omega
      clear hsfr
      have hsl := Sl.of_blk0 hblk.out j (Nat.le_refl _)
      have lF := val_lt hlim.out
      have e1 := hval.out
      have hbel := Lib.hid (grown_below hgr.out (Nat.le_refl _) (Nat.le_refl _))
      by_cases h1 : j < l
      · have hlt0 : val f n < val g m := by
          rw [← hvf.out, ← hvg.out]; exact val_lt_of_len hlf.out htg.out h1
        have hlt1 := Lib.hid hlt0
        clear e1 lF hlt0
        go_wp2_with fail
        go_ret2
        exact ⟨hbel.out, .inl ⟨hlt1.out, rfl⟩⟩
      · rw [val_at0_ge (by omega), hvf.out, hvg.out] at e1
        by_cases h2 : c = 0
        · have e2 := (dif_end e1 lF hc).1 h2
          have e3 := Lib.hid e2
          clear e1 lF e2
          subst h2
          go_wp2_with fail
          refine (trim_any (some ⟨w.heap.size, 0, none⟩) j j F wr (Nat.le_refl _) (by omega) hsl).mono ?_
          rintro e w' ⟨q, hq, rfl, htq0, hvq0, rfl⟩
          have htq := Lib.hid htq0; have hvq := Lib.hid hvq0; clear htq0 hvq0
          go_wp2_with fail
          go_ret2
          exact ⟨hbel.out, .inr ⟨e3.out.1, _, q, j, F, rfl, hq, by omega, hsl.mono hq, hlim.out.mono hq, htq.out, hvq.out.trans e3.out.2⟩⟩
        · have e2 := Lib.hid ((dif_end e1 lF hc).2 h2)
          have hb : ((c : Int) != 0) = true := by rw [bne_iff_ne]; omega
          clear e1 lF
          go_wp2_with fail
          go_ret2
          exact ⟨hbel.out, .inl ⟨e2.out, rfl⟩⟩

end Go.Proofs.Ytnnipciifjpooaa
