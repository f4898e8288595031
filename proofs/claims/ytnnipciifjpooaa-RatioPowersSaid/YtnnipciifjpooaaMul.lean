/-
  nat.addTimes and nat.Mul: the product.
-/
import Derived.Test.YtnnipciifjpooaaTrim
import Derived.Test.YtnnipciifjpooaaBits
import Derived.Test.YtnnipciifjpooaaBlk
import Derived.Test.YtnnipciifjpooaaNum2
namespace Go.Proofs.Ytnnipciifjpooaa
open Go.RowKit Num

/-- addTimes: in a block of N limbs the m limbs from off on become, with the limb that is told, themselves and x times the other number; nothing else turns. -/
def TimesPost (b N off m x : Nat) (F g : Nat → Nat) (w : World) (e : Ending) (w' : World) : Prop :=
  ∃ (c : Nat) (F' : Nat → Nat), e = .returned (.int .u32 c) ∧ c < 4294967296 ∧ Blk w' b N F' ∧ Lim F' N ∧ (∀ j, (j < off ∨ off + m ≤ j) → F' j = F j) ∧
    val (fun j => F' (off + j)) m + c * pw m = val (fun j => F (off + j)) m + x * val g m ∧ w.grownBy w' (some b)

set_option maxHeartbeats 1000000 in
theorem addTimes_any (b N off m cs : Nat) (bo : Option Addr) (mc x : Nat) (F g : Nat → Nat) (w : World) (hN : off + m ≤ N) (hmb : m ≤ 1000000)
    (hF : Blk w b N F) (lF : Lim F N) (hg : Sl w bo m g) (hi : Off b bo m) (lg : Lim g m) (hx : x < 4294967296) :
    Calls Try.prog 97 #[.slice (some ⟨b, off, none⟩) m cs, .slice bo m mc, .int .u32 x] w (TimesPost b N off m x F g w) := by
  have hF' := Lib.hid hF; have lF' := Lib.hid lF; have hg' := Lib.hid hg; have hi' := Lib.hid hi; have lg' := Lib.hid lg
  clear hF lF hg hi lg
  go_enter Try.func97, Try.ntmps97
  go_wp2_with fail
  go_loopw [7, 12] (fun cv i wr => ∃ (k : Nat) (G : Nat → Nat) (c : Nat), k ≤ m ∧ i = .int .i64 k ∧ cv = .int .u64 c ∧ c < 4294967296 ∧ Blk wr b N G ∧ Lim G N ∧ (∀ j, (j < off ∨ off + k ≤ j) → G j = F j) ∧
      val (fun j => G (off + j)) k + c * pw k = val (fun j => F (off + j)) k + x * val g k ∧ w.grownBy wr (some b))
    (fun _ i _ => m - (intOf i).toNat)
  case atStart => exact ⟨0, F, 0, Nat.zero_le _, rfl, rfl, by omega, hF'.out, lF'.out, fun _ _ => rfl, rfl, grown_refl _ _⟩
  case round =>
    obtain ⟨k, G, c, hk, rfl, rfl, hc, hblk1, hlim1, hsame1, hval1, hgr1⟩ := hrel
    have hlim := Lib.hid hlim1; have hval := Lib.hid hval1; have hgr := Lib.hid hgr1; have hblk := Lib.hid hblk1; have hsame := Lib.hid hsame1; clear hlim1 hval1 hgr1 hblk1 hsame1
    by_cases hlt : k < m
    · have hcell := hblk.out.cell (off + k) (by omega)
      have hfree := hblk.out.free (off + k)
      have bG := hlim.out (off + k) (by omega)
      have bg := lg'.out k hlt
      have hfit0 := mul_fits hx bg bG hc
      have hsgr := hg'.out.grown hi'.out hgr.out
      rcases hsgr with h | ⟨b2, off2, rfl, hcg⟩
      · omega
      have hcg' := hcg k hlt
      clear hcg
      have hne : b2 ≠ b := by
        rcases hi'.out with h | h
        · omega
        · exact h _ rfl
      obtain ⟨P, hP⟩ : ∃ P, P = x * g k := ⟨_, rfl⟩
      have hPi : (x : Int) * (g k : Int) = (P : Int) := by rw [hP]; exact (Int.natCast_mul x (g k)).symm
      rw [← hP] at hfit0
      have hP' := Lib.hid hP; clear hP
      go_wp2_with fail
      go_roundw
      case rel =>
        refine ⟨k + 1, put G (off + k) ((c + (P + G (off + k))) % 4294967296), (c + (P + G (off + k))) / 4294967296, by omega, by go_num, int_eq (by omega), by omega, hblk.out.set (off + k) (by omega) _ _ (by omega),
          put_lim hlim.out (Nat.mod_lt _ (by decide)), ?_, ?_, grown_setCell hgr.out _ _⟩
        · intro j hj
          rw [put_ne (by omega)]
          exact hsame.out j (by omega)
        · have e1 : val (fun j => put G (off + k) ((c + (P + G (off + k))) % 4294967296) (off + j)) k = val (fun j => G (off + j)) k := val_congr fun j hj => put_ne (by omega)
          have e2 : G (off + k) = F (off + k) := hsame.out _ (by omega)
          rw [val_succ, val_succ, val_succ, pw_succ, e1, put_at, ← e2]
          refine mul_step hval.out ?_
          rw [← hP'.out]
          omega
      case measure => simp [intOf]; omega
    · obtain rfl : k = m := by omega
      go_wp2_with fail
      go_ret
      exact ⟨c, G, rfl, hc, hblk.out, hlim.out, hsame.out, hval.out, hgr.out⟩

set_option maxHeartbeats 1000000 in
theorem mul_any (ao bo : Option Addr) (n nc m mc : Nat) (f g : Nat → Nat) (w : World) (A : Arg w ao n nc f) (B : Arg w bo m mc g) :
    Calls Try.prog 75 #[.slice ao n nc, .slice bo m mc] w (NumPost (val f n * val g m) w) := by
  obtain ⟨hn, hnc, hnb, hf, lf⟩ := A
  obtain ⟨hm, hmc, hmb, hg, lg⟩ := B
  obtain ⟨i32, hi, hz0, hz1, hz2⟩ := info_parts info32
  go_enter Try.func75, Try.ntmps75
  go_wp2_with fail
  refine (trim_any ao n nc f w hn (by omega) hf).mono ?_
  rintro e w' ⟨k, hk, rfl, htf0, hvf0, rfl⟩
  have htf := Lib.hid htf0; have hvf := Lib.hid hvf0; clear htf0 hvf0
  go_wp2_with fail
  refine (trim_any bo m mc g w hm (by omega) hg).mono ?_
  rintro e w' ⟨l, hl, rfl, htg0, hvg0, rfl⟩
  have htg := Lib.hid htg0; have hvg := Lib.hid hvg0; clear htg0 hvg0
  go_wp2_with (at_make; refine wpList_make_full _ rfl (.tmp 16) (.tmp 16) 22 rfl w.heap.size 47 i32 (.int .u32 0) 1 Try.underlying22 hi hz0 hz1 .i64 .i64 _ _ (k + l) rfl rfl (by omega) (by omega) (by rw [hz2]; omega) (by unfold maxLen; omega) (Nat.le_refl _) ?_)
  intro w1 hown hgrow
  have hblk0 := Lib.hid (Blk.of_made hown)
  have hgr0 := Lib.hid (grown_any hgrow (some w.heap.size))
  clear hown hgrow
  have hsf := Lib.hid (hf.mono hk); have hsg := Lib.hid (hg.mono hl)
  have hlf := Lib.hid (lf.mono hk); have hlg := Lib.hid (lg.mono hl)
  clear hf hg lf lg
  go_wp2_with fail
  go_loopw [20] (fun i wr => ∃ (j : Nat) (F : Nat → Nat), j ≤ k ∧ i = .int .i64 j ∧ Blk wr w.heap.size (k + l) F ∧ Lim F (k + l) ∧ (∀ t, j + l ≤ t → F t = 0) ∧ val F (j + l) = val f j * val g l ∧ w.grownBy wr (some w.heap.size))
    (fun i _ => k - (intOf i).toNat)
  case atStart =>
    refine ⟨0, fun _ => 0, Nat.zero_le _, rfl, hblk0.out, fun j _ => (by decide : 0 < 4294967296), fun _ _ => rfl, ?_, hgr0.out⟩
    rw [Nat.zero_add, val_zero, Nat.zero_mul, val_noughts]
  case round =>
    obtain ⟨j, F, hj, rfl, hblk1, hlim1, hz1, hval1, hgr1⟩ := hrel
    have hlim := Lib.hid hlim1; have hval := Lib.hid hval1; have hgr := Lib.hid hgr1; have hblk := Lib.hid hblk1; have hz := Lib.hid hz1; clear hlim1 hval1 hgr1 hblk1 hz1
    have hsfr := hsf.out.grown hsf.out.off hgr.out
    have hsgr := Lib.hid (hsg.out.grown hsg.out.off hgr.out)
    by_cases hlt : j < k
    · rcases hsfr with h | ⟨b, off, rfl, hcf⟩
      · omega
      have hcf' := hcf j hlt
      have bf := hlf.out j hlt
      clear hcf
      go_wp2_with fail
      refine (addTimes_any w.heap.size (k + l) j l (k + l - j) bo mc (f j) F g wr (by omega) (by omega) hblk.out hlim.out hsgr.out hsg.out.off hlg.out bf).mono ?_
      rintro e w2 ⟨c, F', rfl, hc, hblk2, hlim2, hsame2, hval2, hgr2⟩
      have hlim' := Lib.hid hlim2; have hval' := Lib.hid hval2; have hgr' := Lib.hid (grown_trans hgr.out hgr2); have hblk' := Lib.hid hblk2; have hsame' := Lib.hid hsame2
      clear hlim2 hval2 hgr2 hblk2 hsame2
      have hcell := hblk'.out.cell (j + l) (by omega)
      have hfree := hblk'.out.free (j + l)
      go_wp2_with fail
      go_roundw
      case rel =>
        refine ⟨j + 1, put F' (j + l) c, by omega, by go_num, hblk'.out.set (j + l) (by omega) _ _ rfl, put_lim hlim'.out hc, ?_, ?_, grown_setCell hgr'.out _ _⟩
        · intro t ht
          rw [put_ne (by omega), hsame'.out t (by omega)]
          exact hz.out t (by omega)
        · rw [val_succ]
          exact mul_round (fun t ht => hsame'.out t (by omega)) hval'.out hval.out
      case measure => simp [intOf]; omega
    · obtain rfl : j = k := by omega
      clear hsfr
      have hsl := Sl.of_blk0 hblk.out (j + l) (Nat.le_refl _)
      go_wp2_with fail
      refine (trim_any (some ⟨w.heap.size, 0, none⟩) (j + l) (j + l) F wr (Nat.le_refl _) (by omega) hsl).mono ?_
      rintro e w' ⟨q, hq, rfl, htq0, hvq0, rfl⟩
      have htq := Lib.hid htq0; have hvq := Lib.hid hvq0; clear htq0 hvq0
      go_wp2_with fail
      go_ret
      exact ⟨some ⟨w.heap.size, 0, none⟩, q, j + l, F, rfl, hq, by omega, hsl.mono hq, ⟨hlim.out.mono hq, htq.out, by rw [hvq.out, hval.out, hvf.out, hvg.out]⟩, grown_below hgr.out (Nat.le_refl _) (Nat.le_refl _)⟩

end Go.Proofs.Ytnnipciifjpooaa
