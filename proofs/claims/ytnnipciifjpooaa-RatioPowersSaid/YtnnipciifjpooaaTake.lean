/-
  nat.takeTimes and nat.putBack: x times a number, taken off; a number, put back.
-/
import Derived.Test.YtnnipciifjpooaaTrim
import Derived.Test.YtnnipciifjpooaaBits
import Derived.Test.YtnnipciifjpooaaBlk
import Derived.Test.YtnnipciifjpooaaNum3
import Derived.Deep.RegionWith
namespace Go.Proofs.Ytnnipciifjpooaa
open Go.RowKit Num

theorem bne_toNat {c : Nat} (h : c ≤ 1) : ((c : Int) != 0).toNat = c := by
  have : c = 0 ∨ c = 1 := by omega
  rcases this with rfl | rfl <;> rfl

/-- takeTimes: in a block of N limbs the m + 1 limbs from off on become themselves less x times the other number, and 2^(32 (m + 1)) if that is below 0. -/
def TakePost (b N off m x : Nat) (F g : Nat → Nat) (w : World) (e : Ending) (w' : World) : Prop :=
  ∃ (B : Bool) (F' : Nat → Nat), e = .returned (.bool B) ∧ Blk w' b N F' ∧ Lim F' N ∧ (∀ j, (j < off ∨ off + (m + 1) ≤ j) → F' j = F j) ∧
    val (fun j => F' (off + j)) (m + 1) + x * val g m = val (fun j => F (off + j)) (m + 1) + B.toNat * pw (m + 1) ∧ w.grownBy w' (some b)

set_option maxHeartbeats 1000000 in
theorem takeTimes_any (b N off m cs : Nat) (bo : Option Addr) (mc x : Nat) (F g : Nat → Nat) (w : World) (hN : off + (m + 1) ≤ N) (hmb : m ≤ 1000000)
    (hF : Blk w b N F) (lF : Lim F N) (hg : Sl w bo m g) (hi : Off b bo m) (lg : Lim g m) (hx : x < 4294967296) :
    Calls Try.prog 108 #[.slice (some ⟨b, off, none⟩) (m + 1) cs, .slice bo m mc, .int .u32 x] w (TakePost b N off m x F g w) := by
  have hF' := Lib.hid hF; have lF' := Lib.hid lF; have hg' := Lib.hid hg; have hi' := Lib.hid hi; have lg' := Lib.hid lg
  clear hF lF hg hi lg
  go_enter Try.func108, Try.ntmps108
  go_wp2_with fail
  go_loopw [7, 16] (fun cv i wr => ∃ (k : Nat) (G : Nat → Nat) (c : Nat), k ≤ m ∧ i = .int .i64 k ∧ cv = .int .u64 c ∧ c < 4294967296 ∧ Blk wr b N G ∧ Lim G N ∧ (∀ j, (j < off ∨ off + k ≤ j) → G j = F j) ∧
      val (fun j => G (off + j)) k + x * val g k = val (fun j => F (off + j)) k + c * pw k ∧ w.grownBy wr (some b))
    (fun _ i _ => m - (intOf i).toNat)
  case atStart => exact ⟨0, F, 0, Nat.zero_le _, rfl, rfl, by omega, hF'.out, lF'.out, fun _ _ => rfl, rfl, grown_refl _ _⟩
  case round =>
    obtain ⟨k, G, c, hk, rfl, rfl, hc, hblk1, hlim1, hsame1, hval1, hgr1⟩ := hrel
    have hlim := Lib.hid hlim1; have hval := Lib.hid hval1; have hgr := Lib.hid hgr1; have hblk := Lib.hid hblk1; have hsame := Lib.hid hsame1; clear hlim1 hval1 hgr1 hblk1 hsame1
    by_cases hlt : k < m
    · have hcell := hblk.out.cell (off + k) (by omega)
      have hfree := hblk.out.free (off + k)
      have bG := hlim.out (off + k) (by omega)
      have bg := lg'.out k hlt
      have hfit0 := (take_carry hc hx bg bG 0 (.inl rfl)).1
      have hsgr := hg'.out.grown hi'.out hgr.out
      rcases hsgr with h | ⟨b2, off2, rfl, hcg⟩
      · omega
      have hcg' := hcg k hlt
      clear hcg
      have hne : b2 ≠ b := by
        rcases hi'.out with h | h
        · omega
        · exact h _ rfl
      obtain ⟨P, hP⟩ : ∃ P, P = x * g k := ⟨_, rfl⟩
      have hPi : (x : Int) * (g k : Int) = (P : Int) := by rw [hP]; exact (Int.natCast_mul x (g k)).symm
      rw [← hP] at hfit0
      have hP' := Lib.hid hP; clear hP
      have bl : (c + P) % 4294967296 < 4294967296 := Nat.mod_lt _ (by decide)
      go_wp2_with fail
      rw [show ((c : Int) + (P : Int)) % 4294967296 = (((c + P) % 4294967296 : Nat) : Int) by omega]
      refine (sub32_nat0 (G (off + k)) ((c + P) % 4294967296) wr bG bl).mono ?_
      rintro e w' ⟨rfl, rfl⟩
      obtain ⟨q1, q2, q3⟩ := sub_eq bG bl (Nat.zero_le 1)
      have hb : subC (G (off + k)) ((c + P) % 4294967296) 0 = 0 ∨ (subC (G (off + k)) ((c + P) % 4294967296) 0 = 1 ∧ G (off + k) < (c + x * g k) % 4294967296) := by
        rw [← hP'.out]; unfold subC; split
        · exact .inl rfl
        · exact .inr ⟨rfl, by omega⟩
      have hfit1 := (take_carry hc hx bg bG _ hb).2
      rw [← hP'.out] at hfit1
      have hb' := Lib.hid hb; clear hb
      have q1' := Lib.hid q1; clear q1
      go_wp2_with fail
      go_roundw
      case rel =>
        refine ⟨k + 1, put G (off + k) (subD (G (off + k)) ((c + P) % 4294967296) 0), (c + P) / 4294967296 + subC (G (off + k)) ((c + P) % 4294967296) 0, by omega, by go_num, int_eq (by omega), by omega,
          hblk.out.set (off + k) (by omega) _ _ rfl, put_lim hlim.out q2, ?_, ?_, grown_setCell hgr.out _ _⟩
        · intro j hj
          rw [put_ne (by omega)]
          exact hsame.out j (by omega)
        · have e1 : val (fun j => put G (off + k) (subD (G (off + k)) ((c + P) % 4294967296) 0) (off + j)) k = val (fun j => G (off + j)) k := val_congr fun j hj => put_ne (by omega)
          have e2 : G (off + k) = F (off + k) := hsame.out _ (by omega)
          have e3 := q1'.out
          rw [val_succ, val_succ, val_succ, pw_succ, e1, put_at, ← e2]
          refine take_step (b := subC (G (off + k)) ((c + P) % 4294967296) 0) hval.out ?_ ?_
          · rw [← hP'.out]; omega
          · rw [← hP'.out]
      case measure => simp [intOf]; omega
    · obtain rfl : k = m := by omega
      have hcell := hblk.out.cell (off + k) (by omega)
      have hfree := hblk.out.free (off + k)
      have bG := hlim.out (off + k) (by omega)
      go_wp2_with fail
      refine (sub32_nat0 (G (off + k)) c wr bG hc).mono ?_
      rintro e w' ⟨rfl, rfl⟩
      obtain ⟨q1, q2, q3⟩ := sub_eq bG hc (Nat.zero_le 1)
      have q1' := Lib.hid q1; clear q1
      go_wp2_with fail
      go_ret
      refine ⟨_, put G (off + k) (subD (G (off + k)) c 0), rfl, hblk.out.set (off + k) (by omega) _ _ rfl, put_lim hlim.out q2, ?_, ?_, grown_setCell hgr.out _ _⟩
      · intro j hj
        rw [put_ne (by omega)]
        exact hsame.out j (by omega)
      · have e1 : val (fun j => put G (off + k) (subD (G (off + k)) c 0) (off + j)) k = val (fun j => G (off + j)) k := val_congr fun j hj => put_ne (by omega)
        have e2 : G (off + k) = F (off + k) := hsame.out _ (by omega)
        rw [bne_toNat q3, val_succ, val_succ, e1, put_at, ← e2, pw_succ]
        have e3 := congrArg (· * pw k) q1'.out
        simp only [Nat.add_mul] at e3
        have e4 := hval.out
        have e5 : subC (G (off + k)) c 0 * (4294967296 * pw k) = 4294967296 * subC (G (off + k)) c 0 * pw k := by rw [Nat.mul_left_comm, Nat.mul_assoc]
        omega

/-- putBack: the m + 1 limbs from off on become themselves and the other number, less 2^(32 (m + 1)) if that is no less. -/
def BackPost (b N off m : Nat) (F g : Nat → Nat) (w : World) (e : Ending) (w' : World) : Prop :=
  ∃ (B : Bool) (F' : Nat → Nat), e = .returned (.bool B) ∧ Blk w' b N F' ∧ Lim F' N ∧ (∀ j, (j < off ∨ off + (m + 1) ≤ j) → F' j = F j) ∧
    val (fun j => F' (off + j)) (m + 1) + B.toNat * pw (m + 1) = val (fun j => F (off + j)) (m + 1) + val g m ∧ w.grownBy w' (some b)

set_option maxHeartbeats 1000000 in
theorem putBack_any (b N off m cs : Nat) (bo : Option Addr) (mc : Nat) (F g : Nat → Nat) (w : World) (hN : off + (m + 1) ≤ N) (hmb : m ≤ 1000000)
    (hF : Blk w b N F) (lF : Lim F N) (hg : Sl w bo m g) (hi : Off b bo m) (lg : Lim g m) :
    Calls Try.prog 109 #[.slice (some ⟨b, off, none⟩) (m + 1) cs, .slice bo m mc] w (BackPost b N off m F g w) := by
  have hF' := Lib.hid hF; have lF' := Lib.hid lF; have hg' := Lib.hid hg; have hi' := Lib.hid hi; have lg' := Lib.hid lg
  clear hF lF hg hi lg
  go_enter Try.func109, Try.ntmps109
  go_wp2_with fail
  go_loopw [5, 9] (fun cv i wr => ∃ (k : Nat) (G : Nat → Nat) (c : Nat), k ≤ m + 1 ∧ i = .int .i64 k ∧ cv = .int .u32 c ∧ c ≤ 1 ∧ Blk wr b N G ∧ Lim G N ∧ (∀ j, (j < off ∨ off + k ≤ j) → G j = F j) ∧
      val (fun j => G (off + j)) k + c * pw k = val (fun j => F (off + j)) k + val (at0 g m) k ∧ w.grownBy wr (some b))
    (fun _ i _ => m + 1 - (intOf i).toNat)
  case atStart => exact ⟨0, F, 0, Nat.zero_le _, rfl, rfl, by omega, hF'.out, lF'.out, fun _ _ => rfl, rfl, grown_refl _ _⟩
  case round =>
    obtain ⟨k, G, c, hk, rfl, rfl, hc, hblk1, hlim1, hsame1, hval1, hgr1⟩ := hrel
    have hlim := Lib.hid hlim1; have hval := Lib.hid hval1; have hgr := Lib.hid hgr1; have hblk := Lib.hid hblk1; have hsame := Lib.hid hsame1; clear hlim1 hval1 hgr1 hblk1 hsame1
    by_cases hlt : k < m + 1
    · have hcell := hblk.out.cell (off + k) (by omega)
      have hfree := hblk.out.free (off + k)
      have bG := hlim.out (off + k) (by omega)
      have bg := at0_lt lg'.out k
      have hsgr := Lib.hid (hg'.out.grown hi'.out hgr.out)
      go_wp2_with fail
      go_region_with (first
        | (go_at_call 95; refine (limb_any bo m mc k g _ (by omega) (by exact hsgr.out)).mono ?_; rintro e w' ⟨rfl, rfl⟩; rw [Int.toNat_natCast])
        | (go_at_call 94; refine (add32_any (G (off + k)) (at0 g m k) c _ (by omega) (by omega) (by omega) (by omega) (by omega) (by omega)).mono ?_; rintro e w' ⟨rfl, rfl⟩))
      all_goals
        go_wp2_with fail
        go_roundw
        case rel =>
          refine ⟨k + 1, put G (off + k) ((G (off + k) + at0 g m k + c) % 4294967296), (G (off + k) + at0 g m k + c) / 4294967296, by omega, by go_num, int_eq (by omega), by omega, ?_,
            put_lim hlim.out (Nat.mod_lt _ (by decide)), ?_, ?_, ?_⟩
          · first | exact (hblk.out.set (off + k) (by omega) _ _ (by omega)).drew | exact hblk.out.set (off + k) (by omega) _ _ (by omega)
          · intro j hj
            rw [put_ne (by omega)]
            exact hsame.out j (by omega)
          · have e1 : val (fun j => put G (off + k) ((G (off + k) + at0 g m k + c) % 4294967296) (off + j)) k = val (fun j => G (off + j)) k := val_congr fun j hj => put_ne (by omega)
            have e2 : G (off + k) = F (off + k) := hsame.out _ (by omega)
            rw [val_succ, val_succ, val_succ, pw_succ, e1, put_at, ← e2]
            exact sum_step hval.out (by omega)
          · first | exact grown_drew (grown_setCell hgr.out _ _) | exact grown_setCell hgr.out _ _
        case measure => simp [intOf]; omega
    · obtain rfl : k = m + 1 := by omega
      have e1 := hval.out
      rw [val_at0_ge (Nat.le_succ m)] at e1
      have e2 := Lib.hid e1
      clear e1
      go_wp2_with fail
      go_ret
      exact ⟨_, G, rfl, hblk.out, hlim.out, hsame.out, by rw [bne_toNat hc]; exact e2.out, hgr.out⟩

end Go.Proofs.Ytnnipciifjpooaa
