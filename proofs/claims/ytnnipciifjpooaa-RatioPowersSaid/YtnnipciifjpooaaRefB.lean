/-
  scrimref02.Sub, twice and Bit.
-/
import Derived.Test.YtnnipciifjpooaaRefA
import Derived.Test.YtnnipciifjpooaaSub
namespace Go.Proofs.Ytnnipciifjpooaa
open Go.RowKit Num
set_option maxRecDepth 20000

set_option maxHeartbeats 1000000 in
theorem refSub_any (ao bo : Option Addr) (n nc m mc : Nat) (f g : Nat → Nat) (w : World) (A : Arg w ao n nc f) (B : Arg w bo m mc g) :
    Calls Try.prog 80 #[.slice ao n nc, .slice bo m mc] w (SubPost (val f n) (val g m) w) := by
  obtain ⟨i32, hi, hz0, hz1, hz2⟩ := info_parts info32
  have hA := Lib.hid A; have hB := Lib.hid B
  obtain ⟨hn, hnc, hnb, hf, lf⟩ := A
  obtain ⟨hm, hmc, hmb, hg, lg⟩ := B
  obtain ⟨N, hN0⟩ : ∃ N, N = max n m := ⟨_, rfl⟩
  have hnN : n ≤ N := by omega
  have hmN : m ≤ N := by omega
  have hNb : N ≤ 1000000 := by omega
  have hN := Lib.hid hN0
  have hlf := Lib.hid lf; have hlg := Lib.hid lg; have hsf := Lib.hid hf; have hsg := Lib.hid hg
  clear hN0 hf hg lf lg
  go_enter Try.func80, Try.ntmps80
  go_wp2_with fail
  refine (refCmp_any ao bo n nc m mc f g w hA.out hB.out).mono ?_
  by_cases hlt0 : val f n < val g m
  · rw [cmpI_lt (Int.ofNat_lt.2 hlt0)]
    have hlt := Lib.hid hlt0
    clear hlt0
    rintro e w' ⟨rfl, rfl⟩
    go_wp2_with fail
    go_ret2
    exact ⟨Below.refl _ _, .inl ⟨hlt.out, rfl⟩⟩
  have hge := Lib.hid (Nat.le_of_not_lt hlt0)
  have hcm : 0 ≤ cmpI (val f n) (val g m) := by
    unfold cmpI
    rw [if_neg (by omega)]
    split <;> decide
  clear hlt0
  generalize cmpI (val f n : Int) (val g m : Int) = cm at hcm ⊢
  rintro e w' ⟨rfl, rfl⟩
  go_wp2_with fail
  go_loopw [6, 7, 8] (fun v c i wr => ∃ (j : Nat) (F : Nat → Nat) (cn : Nat), j ≤ N ∧ i = .int .i64 j ∧ c = .int .u64 cn ∧ cn ≤ 1 ∧ wr.ownsRow w.heap.size 47 1 v j (limbCells F j) ∧ Lim F j ∧
      val F j + val (at0 g m) j = val (at0 f n) j + cn * pw j ∧ Below w.heap.size w wr) (fun _ _ i _ => N - (intOf i).toNat)
  case atStart => exact ⟨0, fun _ => 0, 0, Nat.zero_le _, rfl, rfl, by omega, World.ownsRow_nil _ _ _ _, fun j h => by omega, rfl, Below.refl _ _⟩
  case round =>
    obtain ⟨j, F, cn, hj, rfl, rfl, hc, hown0, hlim0, hval0, hbel0⟩ := hrel
    have hown := Lib.hid hown0; have hlim := Lib.hid hlim0; have hval := Lib.hid hval0; have hbel := Lib.hid hbel0
    clear hown0 hlim0 hval0 hbel0
    have bf := at0_lt hlf.out j
    have bg := at0_lt hlg.out j
    go_wp2_with fail
    refine (longer_any ao bo n nc m mc _).mono ?_
    rw [← hN.out]
    rintro e w' ⟨rfl, rfl⟩
    by_cases hlt : j < N
    · go_wp2_with fail
      refine (refLimb_any ao n nc j f wr (by omega) (hsf.out.below hbel.out) hlf.out).mono ?_
      rw [Int.toNat_natCast]
      rintro e w' ⟨rfl, rfl⟩
      go_wp2_with fail
      refine (refLimb_any bo m mc j g wr (by omega) (hsg.out.below hbel.out) hlg.out).mono ?_
      rw [Int.toNat_natCast]
      rintro e w' ⟨rfl, rfl⟩
      go_wp2_with (at_builtin; refine wpList_append_limb rfl (.tmp 31) (.tmp 35) 22 rfl w.heap.size 47 i32 Try.underlying22 hi hz0 hz1 hz2 _ j F _ _ ((4294967296 + at0 f n j - at0 g m j - cn) % 4294967296) rfl rfl hown.out (by omega) (by omega) hbel.out.size ?_)
      intro v' w1 hown1 hb1
      have hown' := Lib.hid hown1; have hbel' := Lib.hid (hbel.out.trans hb1)
      clear hown1 hb1
      go_wp2_with fail
      go_roundw
      case rel =>
        refine ⟨j + 1, put F j ((4294967296 + at0 f n j - at0 g m j - cn) % 4294967296), 1 - (4294967296 + at0 f n j - at0 g m j - cn) / 4294967296, by omega, by go_num, int_eq (by omega), by omega, hown'.out, ?_, ?_, hbel'.out⟩
        · exact put_snoc_lim hlim.out (Nat.mod_lt _ (by decide))
        · rw [val_put_succ, val_succ, val_succ, pw_succ]
          exact dif_step hval.out (by omega)
      case measure => simp [intOf]; omega
    · obtain rfl : j = N := by omega
      obtain ⟨ao', cap', rfl, g1, g2, g3⟩ := owns_slice hown.out
      have A' := Lib.hid (show Arg wr ao' j cap' F from ⟨g1, g2, by omega, g3, hlim.out⟩)
      have hown' := Lib.hid hown.out
      clear g3
      go_wp2_with fail
      refine (refNorm_any ao' j cap' F wr A'.out).mono ?_
      rintro e w2 ⟨bo', p, pc, h, rfl, hp, hpc, hsp, hcp, hb⟩
      have hsp' := Lib.hid hsp; have hcp' := Lib.hid hcp; have hbel' := Lib.hid (hbel.out.trans (hb.mono hbel.out.size))
      clear hsp hcp hb
      go_wp2_with fail
      go_ret2
      refine ⟨hbel'.out, .inr ⟨hge.out, bo', p, pc, h, rfl, hp, hpc, hsp'.out, ?_⟩⟩
      have e1 := hval.out
      rw [val_at0_ge hnN, val_at0_ge hmN] at e1
      rw [← sub_end e1 (val_lt hlim.out) hge.out]
      exact hcp'.out

set_option maxHeartbeats 1000000 in
theorem twice_any (ao : Option Addr) (n nc b : Nat) (f : Nat → Nat) (w : World) (A : Arg w ao n nc f) (hnb' : n < 1000000) (hb : b ≤ 1) :
    Calls Try.prog 91 #[.slice ao n nc, .int .u32 b] w (NumPost (2 * val f n + b) w) := by
  obtain ⟨i32, hi, hz0, hz1, hz2⟩ := info_parts info32
  obtain ⟨hn, hnc, hnb, hf, lf⟩ := A
  have hlf := Lib.hid lf; have hsf := Lib.hid hf
  clear hf lf
  go_enter Try.func91, Try.ntmps91
  go_wp2_with fail
  go_loopw [5, 6, 7] (fun v c i wr => ∃ (j : Nat) (F : Nat → Nat) (cn : Nat), j ≤ n + 1 ∧ i = .int .i64 j ∧ c = .int .u64 cn ∧ cn ≤ 1 ∧ wr.ownsRow w.heap.size 47 1 v j (limbCells F j) ∧ Lim F j ∧
      val F j + cn * pw j = 2 * val (at0 f n) j + b ∧ Below w.heap.size w wr) (fun _ _ i _ => n + 1 - (intOf i).toNat)
  case atStart => exact ⟨0, fun _ => 0, b, Nat.zero_le _, rfl, rfl, hb, World.ownsRow_nil _ _ _ _, fun j h => by omega, by simp [val, pw], Below.refl _ _⟩
  case round =>
    obtain ⟨j, F, cn, hj, rfl, rfl, hc, hown0, hlim0, hval0, hbel0⟩ := hrel
    have hown := Lib.hid hown0; have hlim := Lib.hid hlim0; have hval := Lib.hid hval0; have hbel := Lib.hid hbel0
    clear hown0 hlim0 hval0 hbel0
    have bf := at0_lt hlf.out j
    by_cases hlt : j < n + 1
    · go_wp2_with fail
      refine (refLimb_any ao n nc j f wr (by omega) (hsf.out.below hbel.out) hlf.out).mono ?_
      rw [Int.toNat_natCast]
      rintro e w' ⟨rfl, rfl⟩
      go_wp2_with (at_builtin; refine wpList_append_limb rfl (.tmp 23) (.tmp 27) 22 rfl w.heap.size 47 i32 Try.underlying22 hi hz0 hz1 hz2 _ j F _ _ ((2 * at0 f n j + cn) % 4294967296) rfl rfl hown.out (by omega) (by omega) hbel.out.size ?_)
      intro v' w1 hown1 hb1
      have hown' := Lib.hid hown1; have hbel' := Lib.hid (hbel.out.trans hb1)
      clear hown1 hb1
      go_wp2_with fail
      go_roundw
      case rel =>
        refine ⟨j + 1, put F j ((2 * at0 f n j + cn) % 4294967296), (2 * at0 f n j + cn) / 4294967296, by omega, by go_num, int_eq (by omega), by omega, hown'.out, ?_, ?_, hbel'.out⟩
        · exact put_snoc_lim hlim.out (Nat.mod_lt _ (by decide))
        · rw [val_put_succ, val_succ, pw_succ]
          exact twice_step hval.out (by omega)
      case measure => simp [intOf]; omega
    · obtain rfl : j = n + 1 := by omega
      obtain ⟨ao', cap', rfl, g1, g2, g3⟩ := owns_slice hown.out
      have A' := Lib.hid (show Arg wr ao' (n + 1) cap' F from ⟨g1, g2, by omega, g3, hlim.out⟩)
      have hown' := Lib.hid hown.out
      clear g3
      go_wp2_with fail
      refine (refNorm_any ao' (n + 1) cap' F wr A'.out).mono ?_
      rintro e w2 ⟨bo', p, pc, h, rfl, hp, hpc, hsp, hcp, hb⟩
      have hsp' := Lib.hid hsp; have hcp' := Lib.hid hcp; have hbel' := Lib.hid (hbel.out.trans (hb.mono hbel.out.size))
      clear hsp hcp hb
      go_wp2_with fail
      go_ret
      refine ⟨bo', p, pc, h, rfl, hp, hpc, hsp'.out, ?_, hbel'.out⟩
      have e1 := hval.out
      rw [val_at0_ge (Nat.le_succ n)] at e1
      rw [← twice_end e1 (val_lt hlf.out) (by omega)]
      exact hcp'.out

set_option maxHeartbeats 1000000 in
theorem bit_any (ao : Option Addr) (n nc : Nat) (i : Int) (f : Nat → Nat) (w : World) (i0 : 0 ≤ i) (i1 : i ≤ 1000000000) (hf : Sl w ao n f) (lf : Lim f n) :
    Calls Try.prog 92 #[.slice ao n nc, .int .i64 i] w fun e w' => e = .returned (.int .u32 (bitAt f n i.toNat)) ∧ w = w' := by
  obtain ⟨i, rfl⟩ := Int.eq_ofNat_of_zero_le i0
  rw [Int.toNat_natCast]
  have hb := at0_lt lf (i / 32)
  obtain ⟨x, hx⟩ : ∃ x, x = at0 f n (i / 32) := ⟨_, rfl⟩
  have hx' := Lib.hid hx
  rw [← hx] at hb
  have hsf := Lib.hid hf; have hlf := Lib.hid lf
  clear hf lf hx
  go_enter Try.func92, Try.ntmps92
  go_wp2_with fail
  refine (refLimb_any ao n nc _ f w (by omega) hsf.out hlf.out).mono ?_
  rw [show ((i : Int) / 32).toNat = i / 32 by omega, ← hx'.out]
  rintro e w' ⟨rfl, rfl⟩
  go_wp2_with fail
  go_loop [5, 6] (fun v k => ∃ t y : Nat, t ≤ i % 32 ∧ k = .int .i64 t ∧ v = .int .u64 y ∧ y < 4294967296 ∧ y = x / 2 ^ t) (fun _ k => i % 32 - (intOf k).toNat)
  case atStart => exact ⟨0, x, Nat.zero_le _, rfl, rfl, hb, by simp⟩
  case round =>
    obtain ⟨t, y, ht, rfl, rfl, hd, hy0⟩ := hrel
    have hy := Lib.hid hy0
    clear hy0
    by_cases hlt : t < i % 32
    · go_wp2_with fail
      go_round
      case rel => exact ⟨t + 1, y / 2, by omega, by go_num, int_eq (by omega), by omega, by rw [hy.out, Nat.pow_succ, Nat.div_div_eq_div_mul]⟩
      case measure => simp [intOf]; omega
    · obtain rfl : t = i % 32 := by omega
      go_wp2_with fail
      go_ret
      refine ⟨ret_num ?_, rfl⟩
      unfold bitAt
      rw [← hx'.out, ← hy.out]
      omega

end Go.Proofs.Ytnnipciifjpooaa
