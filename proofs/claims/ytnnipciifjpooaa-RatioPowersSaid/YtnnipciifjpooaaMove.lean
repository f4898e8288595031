/-
  nat.moveUp and nat.moveDown: a number times, and by, a power of two below 2^32.
-/
import Derived.Test.YtnnipciifjpooaaTrim
import Derived.Test.YtnnipciifjpooaaBits
import Derived.Test.YtnnipciifjpooaaBlk
import Derived.Test.YtnnipciifjpooaaNum3
namespace Go.Proofs.Ytnnipciifjpooaa
open Go.RowKit Num

/-- moveUp: new limbs, one more. -/
def UpPost (n v : Nat) (w : World) (e : Ending) (w' : World) : Prop :=
  ∃ B F, e = .returned (.slice (some ⟨B, 0, none⟩) (n + 1) (n + 1)) ∧ w.heap.size ≤ B ∧ B < w'.heap.size ∧ Blk w' B (n + 1) F ∧ Lim F (n + 1) ∧ val F (n + 1) = v ∧ Below w.heap.size w w'

set_option maxHeartbeats 1000000 in
theorem moveUp_any (ao : Option Addr) (n nc u : Nat) (f : Nat → Nat) (w : World) (hu : u < 32) (A : Arg w ao n nc f) :
    Calls Try.prog 99 #[.slice ao n nc, .int .i64 u] w (UpPost n (val f n * 2 ^ u) w) := by
  obtain ⟨hn, hnc, hnb, hf, lf⟩ := A
  obtain ⟨i32, hi, hz0, hz1, hz2⟩ := info_parts info32
  go_enter Try.func99, Try.ntmps99
  go_wp2_with (at_make; refine wpList_make_full _ rfl (.tmp 11) (.tmp 11) 22 rfl w.heap.size 47 i32 (.int .u32 0) 1 Try.underlying22 hi hz0 hz1 .i64 .i64 _ _ (n + 1) rfl rfl (by omega) (by omega) (by rw [hz2]; omega) (by unfold maxLen; omega) (Nat.le_refl _) ?_)
  intro w1 hown hgrow
  have hblk0 := Lib.hid (Blk.of_made hown)
  have hgr0 := Lib.hid (grown_any hgrow (some w.heap.size))
  clear hown hgrow
  have hsf := Lib.hid hf; have hlf := Lib.hid lf
  clear hf lf
  go_wp2_with fail
  go_loopw [15] (fun i wr => ∃ (j : Nat) (F : Nat → Nat), j ≤ n ∧ i = .int .i64 j ∧ Blk wr w.heap.size (n + 1) F ∧ Lim F (n + 1) ∧ (∀ t, j < t → F t = 0) ∧ F j < 2 ^ u ∧ val F (j + 1) = val f j * 2 ^ u ∧ w.grownBy wr (some w.heap.size))
    (fun i _ => n - (intOf i).toNat)
  case atStart =>
    exact ⟨0, fun _ => 0, Nat.zero_le _, rfl, hblk0.out, fun j _ => (by decide : 0 < 4294967296), fun _ _ => rfl, Nat.pow_pos (by decide), by rw [val_succ, val_zero, val_zero]; simp, hgr0.out⟩
  case round =>
    obtain ⟨j, F, hj, rfl, hblk1, hlim1, hz1, hlow1, hval1, hgr1⟩ := hrel
    have hlim := Lib.hid hlim1; have hval := Lib.hid hval1; have hgr := Lib.hid hgr1; have hblk := Lib.hid hblk1; have hz := Lib.hid hz1; have hlow := Lib.hid hlow1; clear hlim1 hval1 hgr1 hblk1 hz1 hlow1
    have hsfr := hsf.out.grown hsf.out.off hgr.out
    by_cases hlt : j < n
    · rcases hsfr with h | ⟨b, off, rfl, hcf⟩
      · omega
      have hcf' := hcf j hlt
      have bf := hlf.out j hlt
      clear hcf
      have hcell := hblk.out.cell j (by omega)
      have hcell' := hblk.out.cell (j + 1) (by omega)
      have hfree := hblk.out.free j
      have hfree' := hblk.out.free (j + 1)
      go_wp2_with fail
      go_roundw
      case rel =>
        obtain ⟨b1, b2, b3⟩ := up_lo_lt hu bf hlow.out
        rw [up_lo hu bf hlow.out, up_hi hu bf]
        refine ⟨j + 1, put (put F j (F j + f j * 2 ^ u % 4294967296)) (j + 1) (f j * 2 ^ u / 4294967296), by omega, by go_num, (hblk.out.set j (by omega) _ _ rfl).set (j + 1) (by omega) _ _ rfl,
          put_lim (put_lim hlim.out b1) b3, ?_, ?_, ?_, grown_setCell (grown_setCell hgr.out _ _) _ _⟩
        · intro t ht
          rw [put_ne (by omega), put_ne (by omega)]
          exact hz.out t (by omega)
        · rw [put_at]; exact b2
        · rw [val_succ f]; exact up_round hval.out
      case measure => simp [intOf]; omega
    · obtain rfl : j = n := by omega
      have hB : w.heap.size < wr.heap.size := hblk.out.lt (by omega)
      go_wp2_with fail
      go_ret
      exact ⟨w.heap.size, F, rfl, Nat.le_refl _, hB, hblk.out, hlim.out, hval.out, grown_below hgr.out (Nat.le_refl _) (Nat.le_refl _)⟩

/-- moveDown, in its own limbs. -/
def DownPost (b n v : Nat) (w : World) (e : Ending) (w' : World) : Prop :=
  ∃ F, e = .returned (.tuple #[]) ∧ Blk w' b n F ∧ Lim F n ∧ val F n = v ∧ w.grownBy w' (some b)

set_option maxHeartbeats 1000000 in
theorem moveDown_any (b n u : Nat) (F : Nat → Nat) (w : World) (hn : n ≤ 1000001) (hu : u < 32) (hF : Blk w b n F) (lF : Lim F n) :
    Calls Try.prog 101 #[.slice (some ⟨b, 0, none⟩) n n, .int .i64 u] w (DownPost b n (val F n / 2 ^ u) w) := by
  have hF' := Lib.hid hF; have lF' := Lib.hid lF
  clear hF lF
  go_enter Try.func101, Try.ntmps101
  go_wp2_with fail
  go_loopw [9] (fun i wr => ∃ (j : Nat) (G : Nat → Nat), j ≤ n ∧ i = .int .i64 j ∧ Blk wr b n G ∧ Lim G n ∧ (∀ t, j ≤ t → G t = F t) ∧ (2 ^ u * val G j + at0 F n 0 % 2 ^ u = val F j + at0 F n j % 2 ^ u * pw j) ∧ w.grownBy wr (some b))
    (fun i _ => n - (intOf i).toNat)
  case atStart =>
    refine ⟨0, F, Nat.zero_le _, rfl, hF'.out, lF'.out, fun _ _ => rfl, ?_, grown_refl _ _⟩
    simp [pw, val]
  case round =>
    obtain ⟨j, G, hj, rfl, hblk1, hlim1, hz1, hval1, hgr1⟩ := hrel
    have hlim := Lib.hid hlim1; have hval := Lib.hid hval1; have hgr := Lib.hid hgr1; have hblk := Lib.hid hblk1; have hz := Lib.hid hz1; clear hlim1 hval1 hgr1 hblk1 hz1
    by_cases hlt : j < n
    · have hcell := hblk.out.cell j hlt
      have hfree := hblk.out.free j
      go_wp2_with fail
      refine (limb_any (some ⟨b, 0, none⟩) n n (j + 1) G wr (by omega) (Sl.of_blk0 hblk.out n (Nat.le_refl _))).mono ?_
      rintro e w' ⟨rfl, rfl⟩
      rw [show ((j : Int) + 1).toNat = j + 1 by omega]
      go_wp2_with fail
      have bh := at0_lt hlim.out (j + 1)
      have bl := hlim.out j hlt
      have eh : at0 G n (j + 1) = at0 F n (j + 1) := by
        unfold at0; split
        · exact hz.out _ (by omega)
        · rfl
      have el : G j = F j := hz.out j (Nat.le_refl _)
      go_roundw
      case rel =>
        rw [down_word hu bh bl]
        refine ⟨j + 1, put G j (at0 G n (j + 1) % 2 ^ u * 2 ^ (32 - u) + G j / 2 ^ u), by omega, by go_num, hblk.out.set j hlt _ _ rfl,
          put_lim hlim.out (down_limb (pow_parts hu) bl (Nat.pow_pos (by decide))).2, ?_, ?_, grown_setCell hgr.out _ _⟩
        · intro t ht
          rw [put_ne (by omega)]
          exact hz.out t (by omega)
        · have e := hval.out
          rw [at0_in hlt] at e
          rw [val_put_succ, val_succ, pw_succ, eh, el]
          exact down_step (pow_parts hu) e
      case measure => simp [intOf]; omega
    · obtain rfl : j = n := by omega
      go_wp2_with fail
      go_end0
      refine ⟨G, rfl, hblk.out, hlim.out, ?_, hgr.out⟩
      have e := hval.out
      rw [at0_out (Nat.le_refl _), Nat.zero_mod, Nat.zero_mul, Nat.add_zero] at e
      rw [← e, Nat.mul_add_div (Nat.pow_pos (by decide)), Nat.div_eq_of_lt (Nat.mod_lt _ (Nat.pow_pos (by decide))), Nat.add_zero]

end Go.Proofs.Ytnnipciifjpooaa
