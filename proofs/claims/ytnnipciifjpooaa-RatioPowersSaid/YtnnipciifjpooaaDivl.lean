/-
  nat.divideLimb: one limb of a quotient.
-/
import Derived.Test.YtnnipciifjpooaaTake
import Derived.Test.YtnnipciifjpooaaCmp
import Derived.Test.YtnnipciifjpooaaNum4
namespace Go.Proofs.Ytnnipciifjpooaa
open Go.RowKit Num

/-- divideLimb, at a value R of the m + 1 limbs from off on, and a divisor D: it tells the quotient, and leaves the rest there. -/
def LimbPost (b N off m R D : Nat) (F : Nat → Nat) (w : World) (e : Ending) (w' : World) : Prop :=
  ∃ (q : Nat) (F' : Nat → Nat), q = R / D ∧ e = .returned (.int .u32 q) ∧ Blk w' b N F' ∧ Lim F' N ∧ (∀ j, (j < off ∨ off + (m + 1) ≤ j) → F' j = F j) ∧
    val (fun j => F' (off + j)) (m + 1) = R % D ∧ w.grownBy w' (some b)

set_option maxHeartbeats 2000000 in
theorem divideLimb_any (b N off m cs : Nat) (bo : Option Addr) (mc : Nat) (F g : Nat → Nat) (w : World) (hN : off + (m + 1 + 1) ≤ N) (hmb : m + 1 ≤ 1000000)
    (hF : Blk w b N F) (lF : Lim F N) (hg : Sl w bo (m + 1) g) (hi : Off b bo (m + 1)) (lg : Lim g (m + 1)) (hR : val (fun j => F (off + j)) (m + 1 + 1) < 4294967296 * val g (m + 1)) :
    Calls Try.prog 100 #[.slice (some ⟨b, off, none⟩) (m + 1 + 1) cs, .slice bo (m + 1) mc] w (LimbPost b N off (m + 1) (val (fun j => F (off + j)) (m + 1 + 1)) (val g (m + 1)) F w) := by
  have hD : 0 < val g (m + 1) := Nat.pos_of_ne_zero (fun e => by rw [e] at hR; omega)
  have hq0 : val (fun j => F (off + j)) (m + 1 + 1) / val g (m + 1) < 4294967296 := (Nat.div_lt_iff_lt_mul hD).2 hR
  obtain ⟨R, hR0⟩ : ∃ R, R = val (fun j => F (off + j)) (m + 1 + 1) := ⟨_, rfl⟩
  obtain ⟨D, hD0⟩ : ∃ D, D = val g (m + 1) := ⟨_, rfl⟩
  have hgs := @guess_ok (fun j => F (off + j)) g m (fun j hj => lF (off + j) (by omega))
  have c1 := hF.cell (off + (m + 1)) (by omega)
  have c2 := hF.cell (off + m) (by omega)
  have b1 := lF (off + (m + 1)) (by omega)
  have b2 := lF (off + m) (by omega)
  have b3 := lg m (by omega)
  rcases hg with h | ⟨b', off', rfl, hcg⟩
  · omega
  have c3 := hcg m (by omega)
  have hsl := Lib.hid (show Sl w (some ⟨b', off', none⟩) (m + 1) g from .inr ⟨b', off', rfl, hcg⟩)
  have hF' := Lib.hid hF; have lF' := Lib.hid lF; have hi' := Lib.hid hi; have lg' := Lib.hid lg; have hR' := Lib.hid hR0; have hD' := Lib.hid hD0
  rw [← hR0, ← hD0] at hq0 hR hgs
  rw [← hD0] at hD
  rw [← hR0, ← hD0]
  have hgs' := Lib.hid hgs
  have hq0' := Lib.hid hq0
  clear hcg hF lF hi lg hR0 hD0 hgs hR hq0
  by_cases hlt : F (off + (m + 1)) < g m
  focus
    obtain ⟨gq, hgq0⟩ : ∃ gq, gq = (F (off + (m + 1)) * 4294967296 + F (off + m)) / g m := ⟨_, rfl⟩
    have hgi : ((F (off + (m + 1)) : Int) * 4294967296 + (F (off + m) : Int)) / (g m : Int) = (gq : Int) := by rw [hgq0, Int.natCast_ediv, Int.natCast_add, Int.natCast_mul]; rfl
    have hgq : gq < 4294967296 := by
      rw [hgq0, Nat.div_lt_iff_lt_mul (by omega)]
      have : (F (off + (m + 1)) + 1) * 4294967296 ≤ g m * 4294967296 := Nat.mul_le_mul_right _ hlt
      omega
    have hgo : R / D ≤ gq := by rw [hgq0]; exact hgs'.out hlt
    have hgo' := Lib.hid hgo
    clear hgo hgq0
    go_enter Try.func100, Try.ntmps100
    go_wp2_with fail
    go_quiet (fail)
    go_wp2_with fail
    obtain ⟨w2, hw2⟩ : ∃ w2, w2 = w.drewN nq := ⟨_, rfl⟩
    have d1 : w2.cell? ⟨b, off + (m + 1), none⟩ = some (.int .u32 (F (off + (m + 1)))) := by rw [hw2]; exact c1
    have d2 : w2.cell? ⟨b, off + m, none⟩ = some (.int .u32 (F (off + m))) := by rw [hw2]; exact c2
    have d3 : w2.cell? ⟨b', off' + m, none⟩ = some (.int .u32 (g m)) := by rw [hw2]; exact c3
    rw [← hw2]
    have hw := Lib.hid hw2
    clear hw2 c1 c2 c3
    go_quiet ((go_at_call 107; exact Calls.quiet_of (div32_any _ _ _ _ (by omega) (by omega) (by omega) (by omega) (by omega) (by omega))))
    go_wp2_with fail
    clear d1 d2 d3 hgi
    obtain ⟨w3, hw3⟩ : ∃ w3, w3 = w2.drewN nq := ⟨_, rfl⟩
    rw [← hw3]
    have blk3 : Hid (Blk w3 b N F) := by rw [hw3, hw.out]; exact (hF'.out.drewN _).drewN _
    have sl3 : Hid (Sl w3 (some ⟨b', off', none⟩) (m + 1) g) := by rw [hw3, hw.out]; exact hsl.out.same (fun _ => rfl)
    have gr3 : Hid (w.grownBy w3 (some b)) := by rw [hw3, hw.out]; exact grown_drewN (grown_drewN (grown_refl _ _) _) _
    clear hw3 hw
  rotate_left
  focus
    obtain ⟨gq, hgq0⟩ : ∃ gq : Nat, gq = 4294967295 := ⟨_, rfl⟩
    have hgq : gq < 4294967296 := by omega
    have hgo' : Hid (R / D ≤ gq) := by have := hq0'.out; show R / D ≤ gq; omega
    have hgi : (4294967295 : Int) = (gq : Int) := by rw [hgq0]; rfl
    clear hgq0
    have hgi' := Lib.hid hgi
    clear hgi
    go_enter Try.func100, Try.ntmps100
    go_wp2_with fail
    go_quiet (fail)
    go_wp2_with fail
    clear c1 c2 c3
    obtain ⟨w3, hw3⟩ : ∃ w3, w3 = w.drewN nq := ⟨_, rfl⟩
    rw [← hw3, hgi'.out]
    have blk3 : Hid (Blk w3 b N F) := by rw [hw3]; exact hF'.out.drewN _
    have sl3 : Hid (Sl w3 (some ⟨b', off', none⟩) (m + 1) g) := by rw [hw3]; exact hsl.out.same (fun _ => rfl)
    have gr3 : Hid (w.grownBy w3 (some b)) := by rw [hw3]; exact grown_drewN (grown_refl _ _) _
    clear hw3 hgi'
  all_goals
    refine (takeTimes_any b N off (m + 1) cs (some ⟨b', off', none⟩) mc gq F g w3 hN (by omega) blk3.out lF'.out sl3.out hi'.out lg'.out hgq).mono ?_
    rintro e w4 ⟨B, G, rfl, hblk1, hlim1, hsame1, hval1, hgr1⟩
    have hlim := Lib.hid hlim1; have hval := Lib.hid hval1; have hgr := Lib.hid (grown_trans gr3.out hgr1); have hblk := Lib.hid hblk1; have hsame := Lib.hid hsame1
    clear hlim1 hval1 hgr1 hblk1 hsame1 gr3 sl3 blk3
    go_wp2_with fail
    go_loopw [6, 7] (fun gv bv wr => ∃ (q : Nat) (B : Bool) (G : Nat → Nat), gv = .int .u32 q ∧ bv = .bool B ∧ q < 4294967296 ∧ R / D ≤ q ∧ Blk wr b N G ∧ Lim G N ∧ (∀ j, (j < off ∨ off + (m + 1 + 1) ≤ j) → G j = F j) ∧
        val (fun j => G (off + j)) (m + 1 + 1) + q * D = R + B.toNat * pw (m + 1 + 1) ∧ w.grownBy wr (some b)) (fun gv _ _ => (intOf gv).toNat)
    case atStart =>
      refine ⟨gq, B, G, rfl, rfl, hgq, hgo'.out, hblk.out, hlim.out, hsame.out, ?_, hgr.out⟩
      rw [hD'.out, hR'.out]
      exact hval.out
    case round =>
      obtain ⟨q, C, H, rfl, rfl, hq, hqo1, hblk1, hlim1, hsame1, hval1, hgr1⟩ := hrel
      clear hblk hlim hsame hval hgr
      have hlim := Lib.hid hlim1; have hval := Lib.hid hval1; have hgr := Lib.hid hgr1; have hblk := Lib.hid hblk1; have hsame := Lib.hid hsame1; have hqo := Lib.hid hqo1
      clear hlim1 hval1 hgr1 hblk1 hsame1 hqo1
      have hT : val (fun j => H (off + j)) (m + 1 + 1) < pw (m + 1 + 1) := val_lt (fun j hj => hlim.out (off + j) (by omega))
      cases C
      · have e1 := hval.out
        rw [Bool.toNat_false, Nat.zero_mul, Nat.add_zero] at e1
        have e2 := Lib.hid (guess_done e1 hqo.out hD)
        clear e1 hT
        go_wp2_with fail
        go_ret
        exact ⟨q, H, e2.out.1, rfl, hblk.out, hlim.out, hsame.out, e2.out.2, hgr.out⟩
      · have e1 := hval.out
        rw [Bool.toNat_true, Nat.one_mul] at e1
        have e2 := Lib.hid (guess_great e1 hT hD)
        have q1 : 1 ≤ q := Nat.le_trans (Nat.succ_le_succ (Nat.zero_le _)) e2.out
        have e3 := Lib.hid e1
        clear e1 hT
        have slr := hsl.out.grown hi'.out hgr.out
        go_wp2_with fail
        refine (putBack_any b N off (m + 1) cs (some ⟨b', off', none⟩) mc H g wr hN hmb hblk.out hlim.out slr hi'.out lg'.out).mono ?_
        rintro e w5 ⟨B2, G2, rfl, hblk2, hlim2, hsame2, hval2, hgr2⟩
        have hlim' := Lib.hid hlim2; have hval' := Lib.hid hval2; have hgr' := Lib.hid (grown_trans hgr.out hgr2); have hblk' := Lib.hid hblk2; have hsame' := Lib.hid hsame2
        clear hlim2 hval2 hgr2 hblk2 hsame2
        go_wp2_with fail
        go_roundw
        case rel =>
          refine ⟨q - 1, !B2, G2, int_eq (by omega), rfl, by omega, Nat.le_sub_of_add_le e2.out, hblk'.out, hlim'.out, fun j hj => (hsame'.out j hj).trans (hsame.out j hj), ?_, hgr'.out⟩
          have e4 := hval'.out
          rw [← hD'.out] at e4
          have e5 := e3.out
          have eq1 : q = q - 1 + 1 := by omega
          rw [eq1] at e5
          have e6 := give_back e5 e4 (by cases B2 <;> decide)
          rw [e6]
          cases B2 <;> rfl
        case measure => simp [intOf]; omega

end Go.Proofs.Ytnnipciifjpooaa
