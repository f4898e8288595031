/-
  nat.takeTimes and nat.putBack: x times a number, taken off; a number, put back.
  Plain facts on long division: a guess from the top limbs is never too small; what a guess that is not too great means; the whole division.
  nat.divideLimb: one limb of a quotient.
  nat.moveUp and nat.moveDown: a number times, and by, a power of two below 2^32.
  nat.DivMod: the quotient and the rest.
  nat.word, fromWord, gcdOfWords and Gcd: the greatest number that divides both.
  A law on append that the kit lacks: nothing, whatever its address, appended to a nil slice.
  scrimref02.Same and Norm, scrimlaw02.few and awake.
  scrimlaw02.awake: chapter 2's examples hold.
  whole.Sign, whole.Cmp, whole.Of.
  Rational numbers: what Make tells of two whole ones (mkE the error, mkT the top with its sign, mkB the bottom), numbers in lowest terms ('Low'), facts on these; blocks of three cells ('Box3'); a number as a call hands it back ('Rt': its top and its bottom without noughts on top; 'ResPost': with an error; 'RatPost': without).
-/
import Derived.Test.YtmkjebembicljaaGreatMrgA
import Derived.Deep.RegionWith
import Derived.Deep.LoopGhost
import Derived.WalkKit
namespace Go.Proofs.YtmkjebembicljaaGreat
open Go.RowKit Num

theorem bne_toNat {c : Nat} (h : c ≤ 1) : ((c : Int) != 0).toNat = c := by
  have : c = 0 ∨ c = 1 := by omega
  rcases this with rfl | rfl <;> rfl

/-- takeTimes: in a block of N limbs the m + 1 limbs from off on become themselves less x times the other number, and 2^(32 (m + 1)) if that is below 0. -/
def TakePost (b N off m x : Nat) (F g : Nat → Nat) (w : World) (e : Ending) (w' : World) : Prop :=
  ∃ (B : Bool) (F' : Nat → Nat), e = .returned (.bool B) ∧ Blk w' b N F' ∧ Lim F' N ∧ (∀ j, (j < off ∨ off + (m + 1) ≤ j) → F' j = F j) ∧
    val (fun j => F' (off + j)) (m + 1) + x * val g m = val (fun j => F (off + j)) (m + 1) + B.toNat * pw (m + 1) ∧ w.grownBy w' (some b)

set_option maxHeartbeats 1000000 in
theorem takeTimes_any (b N off m cs : Nat) (bo : Option Addr) (mc x : Nat) (F g : Nat → Nat) (w : World) (hN : off + (m + 1) ≤ N) (hmb : m ≤ 1000000)
    (hF : Blk w b N F) (lF : Lim F N) (hg : Sl w bo m g) (hi : Off b bo m) (lg : Lim g m) (hx : x < 4294967296) :
    Calls Tryz.prog 114 #[.slice (some ⟨b, off, none⟩) (m + 1) cs, .slice bo m mc, .int .u32 x] w (TakePost b N off m x F g w) := by
  have hF' := Lib.hid hF; have lF' := Lib.hid lF; have hg' := Lib.hid hg; have hi' := Lib.hid hi; have lg' := Lib.hid lg
  clear hF lF hg hi lg
  go_enter Tryz.func114, Tryz.ntmps114
  go_wp2_with fail
  go_loopw [7, 16] (fun cv i wr => ∃ (k : Nat) (G : Nat → Nat) (c : Nat), k ≤ m ∧ i = .int .i64 k ∧ cv = .int .u64 c ∧ c < 4294967296 ∧ Blk wr b N G ∧ Lim G N ∧ (∀ j, (j < off ∨ off + k ≤ j) → G j = F j) ∧
      val (fun j => G (off + j)) k + x * val g k = val (fun j => F (off + j)) k + c * pw k ∧ w.grownBy wr (some b))
    (fun _ i _ => m - (intOf i).toNat)
  case atStart => exact ⟨0, F, 0, Nat.zero_le _, rfl, rfl, by omega, hF'.out, lF'.out, fun _ _ => rfl, rfl, grown_refl _ _⟩
  case round =>
    obtain ⟨k, G, c, hk, rfl, rfl, hc, hblk1, hlim1, hsame1, hval1, hgr1⟩ := hrel
    have hlim := Lib.hid hlim1; have hval := Lib.hid hval1; have hgr := Lib.hid hgr1; have hblk := Lib.hid hblk1; have hsame := Lib.hid hsame1; clear hlim1 hval1 hgr1 hblk1 hsame1
    by_cases hlt : k < m
    · have hcell := hblk.out.cell (off + k) (by omega)
      have hfree := hblk.out.free (off + k)
      have bG := hlim.out (off + k) (by omega)
      have bg := lg'.out k hlt
      have hfit0 := (take_carry hc hx bg bG 0 (.inl rfl)).1
      have hsgr := hg'.out.grown hi'.out hgr.out
      rcases hsgr with h | ⟨b2, off2, rfl, hcg⟩
      · omega
      have hcg' := hcg k hlt
      clear hcg
      have hne : b2 ≠ b := by
        rcases hi'.out with h | h
        · omega
        · exact h _ rfl
      obtain ⟨P, hP⟩ : ∃ P, P = x * g k := ⟨_, rfl⟩
      have hPi : (x : Int) * (g k : Int) = (P : Int) := by rw [hP]; exact (Int.natCast_mul x (g k)).symm
      rw [← hP] at hfit0
      have hP' := Lib.hid hP; clear hP
      have bl : (c + P) % 4294967296 < 4294967296 := Nat.mod_lt _ (by decide)
      go_wp2_with fail
      rw [show ((c : Int) + (P : Int)) % 4294967296 = (((c + P) % 4294967296 : Nat) : Int) by omega]
      refine (sub32_nat0 (G (off + k)) ((c + P) % 4294967296) wr bG bl).mono ?_
      rintro e w' ⟨rfl, rfl⟩
      obtain ⟨q1, q2, q3⟩ := sub_eq bG bl (Nat.zero_le 1)
      have hb : subC (G (off + k)) ((c + P) % 4294967296) 0 = 0 ∨ (subC (G (off + k)) ((c + P) % 4294967296) 0 = 1 ∧ G (off + k) < (c + x * g k) % 4294967296) := by
        rw [← hP'.out]; unfold subC; split
        · exact .inl rfl
        · exact .inr ⟨rfl, by omega⟩
      have hfit1 := (take_carry hc hx bg bG _ hb).2
      rw [← hP'.out] at hfit1
      have hb' := Lib.hid hb; clear hb
      have q1' := Lib.hid q1; clear q1
      go_wp2_with fail
      go_roundw
      case rel =>
        refine ⟨k + 1, put G (off + k) (subD (G (off + k)) ((c + P) % 4294967296) 0), (c + P) / 4294967296 + subC (G (off + k)) ((c + P) % 4294967296) 0, by omega, by go_num, int_eq (by omega), by omega,
          hblk.out.set (off + k) (by omega) _ _ rfl, put_lim hlim.out q2, ?_, ?_, grown_setCell hgr.out _ _⟩
        · intro j hj
          rw [put_ne (by omega)]
          exact hsame.out j (by omega)
        · have e1 : val (fun j => put G (off + k) (subD (G (off + k)) ((c + P) % 4294967296) 0) (off + j)) k = val (fun j => G (off + j)) k := val_congr fun j hj => put_ne (by omega)
          have e2 : G (off + k) = F (off + k) := hsame.out _ (by omega)
          have e3 := q1'.out
          rw [val_succ, val_succ, val_succ, pw_succ, e1, put_at, ← e2]
          refine take_step (b := subC (G (off + k)) ((c + P) % 4294967296) 0) hval.out ?_ ?_
          · rw [← hP'.out]; omega
          · rw [← hP'.out]
      case measure => simp [intOf]; omega
    · obtain rfl : k = m := by omega
      have hcell := hblk.out.cell (off + k) (by omega)
      have hfree := hblk.out.free (off + k)
      have bG := hlim.out (off + k) (by omega)
      go_wp2_with fail
      refine (sub32_nat0 (G (off + k)) c wr bG hc).mono ?_
      rintro e w' ⟨rfl, rfl⟩
      obtain ⟨q1, q2, q3⟩ := sub_eq bG hc (Nat.zero_le 1)
      have q1' := Lib.hid q1; clear q1
      go_wp2_with fail
      go_ret
      refine ⟨_, put G (off + k) (subD (G (off + k)) c 0), rfl, hblk.out.set (off + k) (by omega) _ _ rfl, put_lim hlim.out q2, ?_, ?_, grown_setCell hgr.out _ _⟩
      · intro j hj
        rw [put_ne (by omega)]
        exact hsame.out j (by omega)
      · have e1 : val (fun j => put G (off + k) (subD (G (off + k)) c 0) (off + j)) k = val (fun j => G (off + j)) k := val_congr fun j hj => put_ne (by omega)
        have e2 : G (off + k) = F (off + k) := hsame.out _ (by omega)
        rw [bne_toNat q3, val_succ, val_succ, e1, put_at, ← e2, pw_succ]
        have e3 := congrArg (· * pw k) q1'.out
        simp only [Nat.add_mul] at e3
        have e4 := hval.out
        have e5 : subC (G (off + k)) c 0 * (4294967296 * pw k) = 4294967296 * subC (G (off + k)) c 0 * pw k := by rw [Nat.mul_left_comm, Nat.mul_assoc]
        omega

/-- putBack: the m + 1 limbs from off on become themselves and the other number, less 2^(32 (m + 1)) if that is no less. -/
def BackPost (b N off m : Nat) (F g : Nat → Nat) (w : World) (e : Ending) (w' : World) : Prop :=
  ∃ (B : Bool) (F' : Nat → Nat), e = .returned (.bool B) ∧ Blk w' b N F' ∧ Lim F' N ∧ (∀ j, (j < off ∨ off + (m + 1) ≤ j) → F' j = F j) ∧
    val (fun j => F' (off + j)) (m + 1) + B.toNat * pw (m + 1) = val (fun j => F (off + j)) (m + 1) + val g m ∧ w.grownBy w' (some b)

set_option maxHeartbeats 1000000 in
theorem putBack_any (b N off m cs : Nat) (bo : Option Addr) (mc : Nat) (F g : Nat → Nat) (w : World) (hN : off + (m + 1) ≤ N) (hmb : m ≤ 1000000)
    (hF : Blk w b N F) (lF : Lim F N) (hg : Sl w bo m g) (hi : Off b bo m) (lg : Lim g m) :
    Calls Tryz.prog 115 #[.slice (some ⟨b, off, none⟩) (m + 1) cs, .slice bo m mc] w (BackPost b N off m F g w) := by
  have hF' := Lib.hid hF; have lF' := Lib.hid lF; have hg' := Lib.hid hg; have hi' := Lib.hid hi; have lg' := Lib.hid lg
  clear hF lF hg hi lg
  go_enter Tryz.func115, Tryz.ntmps115
  go_wp2_with fail
  go_loopw [5, 9] (fun cv i wr => ∃ (k : Nat) (G : Nat → Nat) (c : Nat), k ≤ m + 1 ∧ i = .int .i64 k ∧ cv = .int .u32 c ∧ c ≤ 1 ∧ Blk wr b N G ∧ Lim G N ∧ (∀ j, (j < off ∨ off + k ≤ j) → G j = F j) ∧
      val (fun j => G (off + j)) k + c * pw k = val (fun j => F (off + j)) k + val (at0 g m) k ∧ w.grownBy wr (some b))
    (fun _ i _ => m + 1 - (intOf i).toNat)
  case atStart => exact ⟨0, F, 0, Nat.zero_le _, rfl, rfl, by omega, hF'.out, lF'.out, fun _ _ => rfl, rfl, grown_refl _ _⟩
  case round =>
    obtain ⟨k, G, c, hk, rfl, rfl, hc, hblk1, hlim1, hsame1, hval1, hgr1⟩ := hrel
    have hlim := Lib.hid hlim1; have hval := Lib.hid hval1; have hgr := Lib.hid hgr1; have hblk := Lib.hid hblk1; have hsame := Lib.hid hsame1; clear hlim1 hval1 hgr1 hblk1 hsame1
    by_cases hlt : k < m + 1
    · have hcell := hblk.out.cell (off + k) (by omega)
      have hfree := hblk.out.free (off + k)
      have bG := hlim.out (off + k) (by omega)
      have bg := at0_lt lg'.out k
      have hsgr := Lib.hid (hg'.out.grown hi'.out hgr.out)
      go_wp2_with fail
      go_region_with (first
        | (go_at_call 111; refine (limb_any bo m mc k g _ (by omega) (by exact hsgr.out)).mono ?_; rintro e w' ⟨rfl, rfl⟩; rw [Int.toNat_natCast])
        | (go_at_call 119; refine (add32_any (G (off + k)) (at0 g m k) c _ (by omega) (by omega) (by omega) (by omega) (by omega) (by omega)).mono ?_; rintro e w' ⟨rfl, rfl⟩))
      all_goals
        go_wp2_with fail
        go_roundw
        case rel =>
          refine ⟨k + 1, put G (off + k) ((G (off + k) + at0 g m k + c) % 4294967296), (G (off + k) + at0 g m k + c) / 4294967296, by omega, by go_num, int_eq (by omega), by omega, ?_,
            put_lim hlim.out (Nat.mod_lt _ (by decide)), ?_, ?_, ?_⟩
          · first | exact (hblk.out.set (off + k) (by omega) _ _ (by omega)).drew | exact hblk.out.set (off + k) (by omega) _ _ (by omega)
          · intro j hj
            rw [put_ne (by omega)]
            exact hsame.out j (by omega)
          · have e1 : val (fun j => put G (off + k) ((G (off + k) + at0 g m k + c) % 4294967296) (off + j)) k = val (fun j => G (off + j)) k := val_congr fun j hj => put_ne (by omega)
            have e2 : G (off + k) = F (off + k) := hsame.out _ (by omega)
            rw [val_succ, val_succ, val_succ, pw_succ, e1, put_at, ← e2]
            exact sum_step hval.out (by omega)
          · first | exact grown_drew (grown_setCell hgr.out _ _) | exact grown_setCell hgr.out _ _
        case measure => simp [intOf]; omega
    · obtain rfl : k = m + 1 := by omega
      have e1 := hval.out
      rw [val_at0_ge (Nat.le_succ m)] at e1
      have e2 := Lib.hid e1
      clear e1
      go_wp2_with fail
      go_ret
      exact ⟨_, G, rfl, hblk.out, hlim.out, hsame.out, by rw [bne_toNat hc]; exact e2.out, hgr.out⟩

end Go.Proofs.YtmkjebembicljaaGreat

namespace Go.Proofs.YtmkjebembicljaaGreat.Num

theorem guess_ok {F g : Nat → Nat} {m : Nat} (lF : Lim F (m + 1 + 1)) (hlt : F (m + 1) < g m) :
    val F (m + 1 + 1) / val g (m + 1) ≤ (F (m + 1) * 4294967296 + F m) / g m := by
  have hg : 0 < g m := by omega
  have hp := pw_pos m
  rw [Nat.le_div_iff_mul_le hg]
  have h1 : val F (m + 1 + 1) / val g (m + 1) * val g (m + 1) ≤ val F (m + 1 + 1) := Nat.div_mul_le_self _ _
  have h2 : val F (m + 1 + 1) < (F (m + 1) * 4294967296 + F m + 1) * pw m := by
    have a := val_lt (lF.mono (show m ≤ m + 1 + 1 by omega))
    rw [val_succ, val_succ, pw_succ, Nat.add_mul, Nat.add_mul, Nat.mul_assoc]
    omega
  generalize val F (m + 1 + 1) / val g (m + 1) = q at *
  have h3 : q * (g m * pw m) ≤ q * val g (m + 1) := Nat.mul_le_mul_left _ (by rw [val_succ]; omega)
  have h4 : q * g m * pw m < (F (m + 1) * 4294967296 + F m + 1) * pw m := by
    rw [Nat.mul_assoc]; omega
  exact Nat.lt_succ_iff.1 ((Nat.mul_lt_mul_right hp).1 h4)

/-- Nothing is left to give back: the guess is the quotient. -/
theorem guess_done {T q D R : Nat} (h : T + q * D = R) (hq : R / D ≤ q) (hD : 0 < D) : q = R / D ∧ T = R % D := by
  have a : q ≤ R / D := by rw [Nat.le_div_iff_mul_le hD]; omega
  have e : q = R / D := by omega
  refine ⟨e, ?_⟩
  have := Nat.div_add_mod' R D
  rw [← e] at this
  omega

/-- Something is to be given back: the guess is too great. -/
theorem guess_great {T q D R P : Nat} (h : T + q * D = R + P) (hT : T < P) (hD : 0 < D) : R / D + 1 ≤ q := by
  rw [Nat.succ_le_iff, Nat.div_lt_iff_lt_mul hD]
  omega

theorem give_back {T T' q D R P B : Nat} (h : T + (q + 1) * D = R + P) (h' : T' + B * P = T + D) (hB : B ≤ 1) : T' + q * D = R + (1 - B) * P := by
  rw [Nat.add_mul] at h
  have : B = 0 ∨ B = 1 := by omega
  rcases this with rfl | rfl <;> omega

/-- A number below D times 2^(32 j) has nothing from limb j + m on, if D is of m limbs. -/
theorem high_noughts {F : Nat → Nat} {N j m D : Nat} (hD : D ≤ pw m) (h : val F N < D * pw j) : ∀ t, j + m ≤ t → t < N → F t = 0 := by
  intro t h1 h2
  apply Classical.byContradiction
  intro h0
  have a := val_ge h0
  have b : val F (t + 1) ≤ val F N := by
    obtain ⟨k, rfl⟩ := Nat.le.dest (show t + 1 ≤ N by omega)
    rw [val_add F (t + 1) k]
    omega
  have c : pw (j + m) ≤ pw t := pw_le h1
  have d : D * pw j ≤ pw m * pw j := Nat.mul_le_mul_right _ hD
  rw [pw_add, Nat.mul_comm] at c
  omega

theorem val_window {F : Nat → Nat} {N i k : Nat} (hk : i + k ≤ N) (hz : ∀ t, i + k ≤ t → t < N → F t = 0) : val F N = val F i + pw i * val (fun t => F (i + t)) k := by
  rw [← val_add]
  obtain ⟨d, rfl⟩ := Nat.le.dest hk
  rw [val_add F (i + k) d]
  have : val (fun t => F (i + k + t)) d = 0 := by
    rw [val_congr (g := fun _ => 0) (fun t ht => hz (i + k + t) (by omega) (by omega)), val_noughts]
  rw [this]; simp

theorem val_cons (h : Nat → Nat) (n : Nat) : val h (n + 1) = h 0 + 4294967296 * val (fun j => h (j + 1)) n := by
  have e := val_add h 1 n
  rw [Nat.add_comm 1 n] at e
  rw [e, val_congr (f := fun j => h (1 + j)) (g := fun j => h (j + 1)) (fun j _ => by rw [Nat.add_comm])]
  simp [val, pw]

/-- Where a division begins: what is divided is below the divisor times 2^(32 (t + 1)). -/
theorem div_start {x y u k l t : Nat} (hx : x < pw k) (hk : k = l + 1 + t) (hy : 2147483648 * pw l ≤ y) (hu : u < 32) : x * 2 ^ u < y * pw (t + 1) := by
  have h1 : (2 : Nat) ^ u ≤ 2147483648 := by
    have : (2 : Nat) ^ u ≤ 2 ^ 31 := Nat.pow_le_pow_right (by decide) (by omega)
    exact this
  have h2 : x * 2 ^ u < pw k * 2 ^ u := (Nat.mul_lt_mul_right (Nat.pow_pos (by decide))).2 hx
  have h3 : pw k * 2 ^ u ≤ pw k * 2147483648 := Nat.mul_le_mul_left _ h1
  have h4 : 2147483648 * pw l * pw (t + 1) ≤ y * pw (t + 1) := Nat.mul_le_mul_right _ hy
  rw [Nat.mul_assoc, ← pw_add] at h4
  have h5 : l + (t + 1) = k := by omega
  rw [h5, Nat.mul_comm] at h4
  omega

theorem lead_big {g : Nat → Nat} {l P : Nat} (h : 2147483648 ≤ g l * P) : 2147483648 * pw l ≤ val g (l + 1) * P := by
  rw [val_succ, Nat.add_mul]
  have h1 : 2147483648 * pw l ≤ g l * P * pw l := Nat.mul_le_mul_right _ h
  have h2 : g l * pw l * P = g l * P * pw l := Nat.mul_right_comm _ _ _
  omega

/-- One limb of the quotient. -/
theorem div_round {V V' L P Rw D Q A q : Nat} (hV : V = L + P * Rw) (hV' : V' = L + P * (Rw % D)) (hA : V + D * (P * 4294967296) * Q = A) (hq : q = Rw / D) (hL : L < P) (hD : 0 < D) :
    V' + D * P * (q + 4294967296 * Q) = A ∧ V' < D * P := by
  have e := Nat.div_add_mod Rw D
  have e1 : P * Rw = D * P * q + P * (Rw % D) := by
    rw [hq]
    have : P * Rw = P * (D * (Rw / D) + Rw % D) := by rw [e]
    rw [this, Nat.mul_add, ← Nat.mul_assoc, Nat.mul_comm P D]
  constructor
  · rw [Nat.mul_add]
    have e2 : D * P * (4294967296 * Q) = D * (P * 4294967296) * Q := by rw [← Nat.mul_assoc, Nat.mul_assoc D P]
    omega
  · have h1 : P * (Rw % D + 1) ≤ P * D := Nat.mul_le_mul_left _ (Nat.mod_lt _ hD)
    rw [Nat.mul_add, Nat.mul_comm P D] at h1
    omega

theorem div_window {V L P Rw D : Nat} (hV : V = L + P * Rw) (h : V < D * (P * 4294967296)) : Rw < 4294967296 * D := by
  have e : D * (P * 4294967296) = P * (4294967296 * D) := by rw [Nat.mul_left_comm, Nat.mul_comm D]
  rw [e, hV] at h
  have : P * Rw < P * (4294967296 * D) := by omega
  exact Nat.lt_of_mul_lt_mul_left this

/-- The whole division: by a divisor and a number, both moved up. -/
theorem div_whole {V D Q A x y u : Nat} (hA : V + D * Q = A) (hx : A = x * 2 ^ u) (hy : D = y * 2 ^ u) (hV : V < D) : Q = x / y ∧ V / 2 ^ u = x % y := by
  have hp : 0 < 2 ^ u := Nat.pow_pos (by decide)
  have hy0 : 0 < y := Nat.pos_of_ne_zero (fun e => by rw [hy, e] at hV; omega)
  have e1 : D * Q = y * Q * 2 ^ u := by rw [hy, Nat.mul_right_comm]
  have hQ : y * Q * 2 ^ u ≤ x * 2 ^ u := by omega
  have hQ' : y * Q ≤ x := Nat.le_of_mul_le_mul_right hQ hp
  have e2 : V = (x - y * Q) * 2 ^ u := by rw [Nat.sub_mul]; omega
  have e3 : V / 2 ^ u = x - y * Q := by rw [e2, Nat.mul_div_cancel _ hp]
  have lt : x - y * Q < y := by
    rw [e2, hy] at hV
    exact (Nat.mul_lt_mul_right hp).1 hV
  have := Nat.div_mod_unique (b := y) (a := x) (c := x - y * Q) (d := Q) hy0
  obtain ⟨a, b⟩ := this.2 ⟨by omega, lt⟩
  exact ⟨a.symm, by rw [e3, b]⟩

/-- Moved up till its top bit is 1, a number has as many limbs. -/
theorem lead_len {g : Nat → Nat} {m P : Nat} (lg : Lim g m) (h : g m * P < 4294967296) (hPE : ∃ E, P * E = 4294967296) : val g (m + 1) * P < pw (m + 1) := by
  obtain ⟨E, hE⟩ := hPE
  have hP : 0 < P := Nat.pos_of_ne_zero (fun e => by rw [e] at hE; simp at hE)
  have h1 : g m < E := by
    rw [← hE, Nat.mul_comm P] at h
    exact (Nat.mul_lt_mul_right hP).1 h
  have h2 : val g (m + 1) < (g m + 1) * pw m := by
    have := val_lt lg
    rw [val_succ, Nat.add_mul]; omega
  have h3 : (g m + 1) * pw m ≤ E * pw m := Nat.mul_le_mul_right _ h1
  have h4 : val g (m + 1) * P < E * pw m * P := (Nat.mul_lt_mul_right hP).2 (by omega)
  have h5 : E * pw m * P = pw (m + 1) := by rw [pw_succ, ← hE, Nat.mul_right_comm, Nat.mul_comm E]
  omega

end Go.Proofs.YtmkjebembicljaaGreat.Num

namespace Go.Proofs.YtmkjebembicljaaGreat
open Go.RowKit Num

/-- divideLimb, at a value R of the m + 1 limbs from off on, and a divisor D: it tells the quotient, and leaves the rest there. -/
def LimbPost (b N off m R D : Nat) (F : Nat → Nat) (w : World) (e : Ending) (w' : World) : Prop :=
  ∃ (q : Nat) (F' : Nat → Nat), q = R / D ∧ e = .returned (.int .u32 q) ∧ Blk w' b N F' ∧ Lim F' N ∧ (∀ j, (j < off ∨ off + (m + 1) ≤ j) → F' j = F j) ∧
    val (fun j => F' (off + j)) (m + 1) = R % D ∧ w.grownBy w' (some b)

set_option maxHeartbeats 2000000 in
theorem divideLimb_any (b N off m cs : Nat) (bo : Option Addr) (mc : Nat) (F g : Nat → Nat) (w : World) (hN : off + (m + 1 + 1) ≤ N) (hmb : m + 1 ≤ 1000000)
    (hF : Blk w b N F) (lF : Lim F N) (hg : Sl w bo (m + 1) g) (hi : Off b bo (m + 1)) (lg : Lim g (m + 1)) (hR : val (fun j => F (off + j)) (m + 1 + 1) < 4294967296 * val g (m + 1)) :
    Calls Tryz.prog 107 #[.slice (some ⟨b, off, none⟩) (m + 1 + 1) cs, .slice bo (m + 1) mc] w (LimbPost b N off (m + 1) (val (fun j => F (off + j)) (m + 1 + 1)) (val g (m + 1)) F w) := by
  have hD : 0 < val g (m + 1) := Nat.pos_of_ne_zero (fun e => by rw [e] at hR; omega)
  have hq0 : val (fun j => F (off + j)) (m + 1 + 1) / val g (m + 1) < 4294967296 := (Nat.div_lt_iff_lt_mul hD).2 hR
  obtain ⟨R, hR0⟩ : ∃ R, R = val (fun j => F (off + j)) (m + 1 + 1) := ⟨_, rfl⟩
  obtain ⟨D, hD0⟩ : ∃ D, D = val g (m + 1) := ⟨_, rfl⟩
  have hgs := @guess_ok (fun j => F (off + j)) g m (fun j hj => lF (off + j) (by omega))
  have c1 := hF.cell (off + (m + 1)) (by omega)
  have c2 := hF.cell (off + m) (by omega)
  have b1 := lF (off + (m + 1)) (by omega)
  have b2 := lF (off + m) (by omega)
  have b3 := lg m (by omega)
  rcases hg with h | ⟨b', off', rfl, hcg⟩
  · omega
  have c3 := hcg m (by omega)
  have hsl := Lib.hid (show Sl w (some ⟨b', off', none⟩) (m + 1) g from .inr ⟨b', off', rfl, hcg⟩)
  have hF' := Lib.hid hF; have lF' := Lib.hid lF; have hi' := Lib.hid hi; have lg' := Lib.hid lg; have hR' := Lib.hid hR0; have hD' := Lib.hid hD0
  rw [← hR0, ← hD0] at hq0 hR hgs
  rw [← hD0] at hD
  rw [← hR0, ← hD0]
  have hgs' := Lib.hid hgs
  have hq0' := Lib.hid hq0
  clear hcg hF lF hi lg hR0 hD0 hgs hR hq0
  by_cases hlt : F (off + (m + 1)) < g m
  focus
    obtain ⟨gq, hgq0⟩ : ∃ gq, gq = (F (off + (m + 1)) * 4294967296 + F (off + m)) / g m := ⟨_, rfl⟩
    have hgi : ((F (off + (m + 1)) : Int) * 4294967296 + (F (off + m) : Int)) / (g m : Int) = (gq : Int) := by rw [hgq0, Int.natCast_ediv, Int.natCast_add, Int.natCast_mul]; rfl
    have hgq : gq < 4294967296 := by
      rw [hgq0, Nat.div_lt_iff_lt_mul (by omega)]
      have : (F (off + (m + 1)) + 1) * 4294967296 ≤ g m * 4294967296 := Nat.mul_le_mul_right _ hlt
      omega
    have hgo : R / D ≤ gq := by rw [hgq0]; exact hgs'.out hlt
    have hgo' := Lib.hid hgo
    clear hgo hgq0
    go_enter Tryz.func107, Tryz.ntmps107
    go_wp2_with fail
    go_quiet (fail)
    go_wp2_with fail
    obtain ⟨w2, hw2⟩ : ∃ w2, w2 = w.drewN nq := ⟨_, rfl⟩
    have d1 : w2.cell? ⟨b, off + (m + 1), none⟩ = some (.int .u32 (F (off + (m + 1)))) := by rw [hw2]; exact c1
    have d2 : w2.cell? ⟨b, off + m, none⟩ = some (.int .u32 (F (off + m))) := by rw [hw2]; exact c2
    have d3 : w2.cell? ⟨b', off' + m, none⟩ = some (.int .u32 (g m)) := by rw [hw2]; exact c3
    rw [← hw2]
    have hw := Lib.hid hw2
    clear hw2 c1 c2 c3
    go_quiet ((go_at_call 113; exact Calls.quiet_of (div32_any _ _ _ _ (by omega) (by omega) (by omega) (by omega) (by omega) (by omega))))
    go_wp2_with fail
    clear d1 d2 d3 hgi
    obtain ⟨w3, hw3⟩ : ∃ w3, w3 = w2.drewN nq := ⟨_, rfl⟩
    rw [← hw3]
    have blk3 : Hid (Blk w3 b N F) := by rw [hw3, hw.out]; exact (hF'.out.drewN _).drewN _
    have sl3 : Hid (Sl w3 (some ⟨b', off', none⟩) (m + 1) g) := by rw [hw3, hw.out]; exact hsl.out.same (fun _ => rfl)
    have gr3 : Hid (w.grownBy w3 (some b)) := by rw [hw3, hw.out]; exact grown_drewN (grown_drewN (grown_refl _ _) _) _
    clear hw3 hw
  rotate_left
  focus
    obtain ⟨gq, hgq0⟩ : ∃ gq : Nat, gq = 4294967295 := ⟨_, rfl⟩
    have hgq : gq < 4294967296 := by omega
    have hgo' : Hid (R / D ≤ gq) := by have := hq0'.out; show R / D ≤ gq; omega
    have hgi : (4294967295 : Int) = (gq : Int) := by rw [hgq0]; rfl
    clear hgq0
    have hgi' := Lib.hid hgi
    clear hgi
    go_enter Tryz.func107, Tryz.ntmps107
    go_wp2_with fail
    go_quiet (fail)
    go_wp2_with fail
    clear c1 c2 c3
    obtain ⟨w3, hw3⟩ : ∃ w3, w3 = w.drewN nq := ⟨_, rfl⟩
    rw [← hw3, hgi'.out]
    have blk3 : Hid (Blk w3 b N F) := by rw [hw3]; exact hF'.out.drewN _
    have sl3 : Hid (Sl w3 (some ⟨b', off', none⟩) (m + 1) g) := by rw [hw3]; exact hsl.out.same (fun _ => rfl)
    have gr3 : Hid (w.grownBy w3 (some b)) := by rw [hw3]; exact grown_drewN (grown_refl _ _) _
    clear hw3 hgi'
  all_goals
    refine (takeTimes_any b N off (m + 1) cs (some ⟨b', off', none⟩) mc gq F g w3 hN (by omega) blk3.out lF'.out sl3.out hi'.out lg'.out hgq).mono ?_
    rintro e w4 ⟨B, G, rfl, hblk1, hlim1, hsame1, hval1, hgr1⟩
    have hlim := Lib.hid hlim1; have hval := Lib.hid hval1; have hgr := Lib.hid (grown_trans gr3.out hgr1); have hblk := Lib.hid hblk1; have hsame := Lib.hid hsame1
    clear hlim1 hval1 hgr1 hblk1 hsame1 gr3 sl3 blk3
    go_wp2_with fail
    go_loopw [6, 7] (fun gv bv wr => ∃ (q : Nat) (B : Bool) (G : Nat → Nat), gv = .int .u32 q ∧ bv = .bool B ∧ q < 4294967296 ∧ R / D ≤ q ∧ Blk wr b N G ∧ Lim G N ∧ (∀ j, (j < off ∨ off + (m + 1 + 1) ≤ j) → G j = F j) ∧
        val (fun j => G (off + j)) (m + 1 + 1) + q * D = R + B.toNat * pw (m + 1 + 1) ∧ w.grownBy wr (some b)) (fun gv _ _ => (intOf gv).toNat)
    case atStart =>
      refine ⟨gq, B, G, rfl, rfl, hgq, hgo'.out, hblk.out, hlim.out, hsame.out, ?_, hgr.out⟩
      rw [hD'.out, hR'.out]
      exact hval.out
    case round =>
      obtain ⟨q, C, H, rfl, rfl, hq, hqo1, hblk1, hlim1, hsame1, hval1, hgr1⟩ := hrel
      clear hblk hlim hsame hval hgr
      have hlim := Lib.hid hlim1; have hval := Lib.hid hval1; have hgr := Lib.hid hgr1; have hblk := Lib.hid hblk1; have hsame := Lib.hid hsame1; have hqo := Lib.hid hqo1
      clear hlim1 hval1 hgr1 hblk1 hsame1 hqo1
      have hT : val (fun j => H (off + j)) (m + 1 + 1) < pw (m + 1 + 1) := val_lt (fun j hj => hlim.out (off + j) (by omega))
      cases C
      · have e1 := hval.out
        rw [Bool.toNat_false, Nat.zero_mul, Nat.add_zero] at e1
        have e2 := Lib.hid (guess_done e1 hqo.out hD)
        clear e1 hT
        go_wp2_with fail
        go_ret
        exact ⟨q, H, e2.out.1, rfl, hblk.out, hlim.out, hsame.out, e2.out.2, hgr.out⟩
      · have e1 := hval.out
        rw [Bool.toNat_true, Nat.one_mul] at e1
        have e2 := Lib.hid (guess_great e1 hT hD)
        have q1 : 1 ≤ q := Nat.le_trans (Nat.succ_le_succ (Nat.zero_le _)) e2.out
        have e3 := Lib.hid e1
        clear e1 hT
        have slr := hsl.out.grown hi'.out hgr.out
        go_wp2_with fail
        refine (putBack_any b N off (m + 1) cs (some ⟨b', off', none⟩) mc H g wr hN hmb hblk.out hlim.out slr hi'.out lg'.out).mono ?_
        rintro e w5 ⟨B2, G2, rfl, hblk2, hlim2, hsame2, hval2, hgr2⟩
        have hlim' := Lib.hid hlim2; have hval' := Lib.hid hval2; have hgr' := Lib.hid (grown_trans hgr.out hgr2); have hblk' := Lib.hid hblk2; have hsame' := Lib.hid hsame2
        clear hlim2 hval2 hgr2 hblk2 hsame2
        go_wp2_with fail
        go_roundw
        case rel =>
          refine ⟨q - 1, !B2, G2, int_eq (by omega), rfl, by omega, Nat.le_sub_of_add_le e2.out, hblk'.out, hlim'.out, fun j hj => (hsame'.out j hj).trans (hsame.out j hj), ?_, hgr'.out⟩
          have e4 := hval'.out
          rw [← hD'.out] at e4
          have e5 := e3.out
          have eq1 : q = q - 1 + 1 := by omega
          rw [eq1] at e5
          have e6 := give_back e5 e4 (by cases B2 <;> decide)
          rw [e6]
          cases B2 <;> rfl
        case measure => simp [intOf]; omega

end Go.Proofs.YtmkjebembicljaaGreat

namespace Go.Proofs.YtmkjebembicljaaGreat
open Go.RowKit Num

/-- moveUp: new limbs, one more. -/
def UpPost (n v : Nat) (w : World) (e : Ending) (w' : World) : Prop :=
  ∃ B F, e = .returned (.slice (some ⟨B, 0, none⟩) (n + 1) (n + 1)) ∧ w.heap.size ≤ B ∧ B < w'.heap.size ∧ Blk w' B (n + 1) F ∧ Lim F (n + 1) ∧ val F (n + 1) = v ∧ Below w.heap.size w w'

set_option maxHeartbeats 1000000 in
theorem moveUp_any (ao : Option Addr) (n nc u : Nat) (f : Nat → Nat) (w : World) (hu : u < 32) (A : Arg w ao n nc f) :
    Calls Tryz.prog 106 #[.slice ao n nc, .int .i64 u] w (UpPost n (val f n * 2 ^ u) w) := by
  obtain ⟨hn, hnc, hnb, hf, lf⟩ := A
  obtain ⟨i32, hi, hz0, hz1, hz2⟩ := info_parts info32
  go_enter Tryz.func106, Tryz.ntmps106
  go_wp2_with (at_make; refine wpList_make_full _ rfl (.tmp 11) (.tmp 11) 27 rfl w.heap.size 79 i32 (.int .u32 0) 1 Tryz.underlying27 hi hz0 hz1 .i64 .i64 _ _ (n + 1) rfl rfl (by omega) (by omega) (by rw [hz2]; omega) (by unfold maxLen; omega) (Nat.le_refl _) ?_)
  intro w1 hown hgrow
  have hblk0 := Lib.hid (Blk.of_made hown)
  have hgr0 := Lib.hid (grown_any hgrow (some w.heap.size))
  clear hown hgrow
  have hsf := Lib.hid hf; have hlf := Lib.hid lf
  clear hf lf
  go_wp2_with fail
  go_loopw [15] (fun i wr => ∃ (j : Nat) (F : Nat → Nat), j ≤ n ∧ i = .int .i64 j ∧ Blk wr w.heap.size (n + 1) F ∧ Lim F (n + 1) ∧ (∀ t, j < t → F t = 0) ∧ F j < 2 ^ u ∧ val F (j + 1) = val f j * 2 ^ u ∧ w.grownBy wr (some w.heap.size))
    (fun i _ => n - (intOf i).toNat)
  case atStart =>
    exact ⟨0, fun _ => 0, Nat.zero_le _, rfl, hblk0.out, fun j _ => (by decide : 0 < 4294967296), fun _ _ => rfl, Nat.pow_pos (by decide), by rw [val_succ, val_zero, val_zero]; simp, hgr0.out⟩
  case round =>
    obtain ⟨j, F, hj, rfl, hblk1, hlim1, hz1, hlow1, hval1, hgr1⟩ := hrel
    have hlim := Lib.hid hlim1; have hval := Lib.hid hval1; have hgr := Lib.hid hgr1; have hblk := Lib.hid hblk1; have hz := Lib.hid hz1; have hlow := Lib.hid hlow1; clear hlim1 hval1 hgr1 hblk1 hz1 hlow1
    have hsfr := hsf.out.grown hsf.out.off hgr.out
    by_cases hlt : j < n
    · rcases hsfr with h | ⟨b, off, rfl, hcf⟩
      · omega
      have hcf' := hcf j hlt
      have bf := hlf.out j hlt
      clear hcf
      have hcell := hblk.out.cell j (by omega)
      have hcell' := hblk.out.cell (j + 1) (by omega)
      have hfree := hblk.out.free j
      have hfree' := hblk.out.free (j + 1)
      go_wp2_with fail
      go_roundw
      case rel =>
        obtain ⟨b1, b2, b3⟩ := up_lo_lt hu bf hlow.out
        rw [up_lo hu bf hlow.out, up_hi hu bf]
        refine ⟨j + 1, put (put F j (F j + f j * 2 ^ u % 4294967296)) (j + 1) (f j * 2 ^ u / 4294967296), by omega, by go_num, (hblk.out.set j (by omega) _ _ rfl).set (j + 1) (by omega) _ _ rfl,
          put_lim (put_lim hlim.out b1) b3, ?_, ?_, ?_, grown_setCell (grown_setCell hgr.out _ _) _ _⟩
        · intro t ht
          rw [put_ne (by omega), put_ne (by omega)]
          exact hz.out t (by omega)
        · rw [put_at]; exact b2
        · rw [val_succ f]; exact up_round hval.out
      case measure => simp [intOf]; omega
    · obtain rfl : j = n := by omega
      have hB : w.heap.size < wr.heap.size := hblk.out.lt (by omega)
      go_wp2_with fail
      go_ret
      exact ⟨w.heap.size, F, rfl, Nat.le_refl _, hB, hblk.out, hlim.out, hval.out, grown_below hgr.out (Nat.le_refl _) (Nat.le_refl _)⟩

/-- moveDown, in its own limbs. -/
def DownPost (b n v : Nat) (w : World) (e : Ending) (w' : World) : Prop :=
  ∃ F, e = .returned (.tuple #[]) ∧ Blk w' b n F ∧ Lim F n ∧ val F n = v ∧ w.grownBy w' (some b)

set_option maxHeartbeats 1000000 in
theorem moveDown_any (b n u : Nat) (F : Nat → Nat) (w : World) (hn : n ≤ 1000001) (hu : u < 32) (hF : Blk w b n F) (lF : Lim F n) :
    Calls Tryz.prog 108 #[.slice (some ⟨b, 0, none⟩) n n, .int .i64 u] w (DownPost b n (val F n / 2 ^ u) w) := by
  have hF' := Lib.hid hF; have lF' := Lib.hid lF
  clear hF lF
  go_enter Tryz.func108, Tryz.ntmps108
  go_wp2_with fail
  go_loopw [9] (fun i wr => ∃ (j : Nat) (G : Nat → Nat), j ≤ n ∧ i = .int .i64 j ∧ Blk wr b n G ∧ Lim G n ∧ (∀ t, j ≤ t → G t = F t) ∧ (2 ^ u * val G j + at0 F n 0 % 2 ^ u = val F j + at0 F n j % 2 ^ u * pw j) ∧ w.grownBy wr (some b))
    (fun i _ => n - (intOf i).toNat)
  case atStart =>
    refine ⟨0, F, Nat.zero_le _, rfl, hF'.out, lF'.out, fun _ _ => rfl, ?_, grown_refl _ _⟩
    simp [pw, val]
  case round =>
    obtain ⟨j, G, hj, rfl, hblk1, hlim1, hz1, hval1, hgr1⟩ := hrel
    have hlim := Lib.hid hlim1; have hval := Lib.hid hval1; have hgr := Lib.hid hgr1; have hblk := Lib.hid hblk1; have hz := Lib.hid hz1; clear hlim1 hval1 hgr1 hblk1 hz1
    by_cases hlt : j < n
    · have hcell := hblk.out.cell j hlt
      have hfree := hblk.out.free j
      go_wp2_with fail
      refine (limb_any (some ⟨b, 0, none⟩) n n (j + 1) G wr (by omega) (Sl.of_blk0 hblk.out n (Nat.le_refl _))).mono ?_
      rintro e w' ⟨rfl, rfl⟩
      rw [show ((j : Int) + 1).toNat = j + 1 by omega]
      go_wp2_with fail
      have bh := at0_lt hlim.out (j + 1)
      have bl := hlim.out j hlt
      have eh : at0 G n (j + 1) = at0 F n (j + 1) := by
        unfold at0; split
        · exact hz.out _ (by omega)
        · rfl
      have el : G j = F j := hz.out j (Nat.le_refl _)
      go_roundw
      case rel =>
        rw [down_word hu bh bl]
        refine ⟨j + 1, put G j (at0 G n (j + 1) % 2 ^ u * 2 ^ (32 - u) + G j / 2 ^ u), by omega, by go_num, hblk.out.set j hlt _ _ rfl,
          put_lim hlim.out (down_limb (pow_parts hu) bl (Nat.pow_pos (by decide))).2, ?_, ?_, grown_setCell hgr.out _ _⟩
        · intro t ht
          rw [put_ne (by omega)]
          exact hz.out t (by omega)
        · have e := hval.out
          rw [at0_in hlt] at e
          rw [val_put_succ, val_succ, pw_succ, eh, el]
          exact down_step (pow_parts hu) e
      case measure => simp [intOf]; omega
    · obtain rfl : j = n := by omega
      go_wp2_with fail
      go_end0
      refine ⟨G, rfl, hblk.out, hlim.out, ?_, hgr.out⟩
      have e := hval.out
      rw [at0_out (Nat.le_refl _), Nat.zero_mod, Nat.zero_mul, Nat.add_zero] at e
      rw [← e, Nat.mul_add_div (Nat.pow_pos (by decide)), Nat.div_eq_of_lt (Nat.mod_lt _ (Nat.pow_pos (by decide))), Nat.add_zero]

end Go.Proofs.YtmkjebembicljaaGreat

namespace Go.Proofs.YtmkjebembicljaaGreat
open Go.RowKit Num

def DivPost (x y : Nat) (w : World) (e : Ending) (w' : World) : Prop :=
  Below w.heap.size w w' ∧ ((y = 0 ∧ e = .returned (.tuple #[.slice none 0 0, .slice none 0 0, .bool false])) ∨
    (y ≠ 0 ∧ ∃ ao n nc f bo m mc g, e = .returned (.tuple #[.slice ao n nc, .slice bo m mc, .bool true]) ∧ n ≤ nc ∧ nc ≤ 9223372036854775807 ∧ m ≤ mc ∧ mc ≤ 9223372036854775807 ∧
      Sl w' ao n f ∧ Canon (x / y) n f ∧ Sl w' bo m g ∧ Canon (x % y) m g))

set_option maxRecDepth 100000 in
set_option maxHeartbeats 2000000 in
theorem divMod_any (ao bo : Option Addr) (n nc m mc : Nat) (f g : Nat → Nat) (w : World) (A : Arg w ao n nc f) (B : Arg w bo m mc g) :
    Calls Tryz.prog 97 #[.slice ao n nc, .slice bo m mc] w (DivPost (val f n) (val g m) w) := by
  obtain ⟨hn, hnc, hnb, hf, lf⟩ := A
  obtain ⟨hm, hmc, hmb, hg, lg⟩ := B
  obtain ⟨i32, hi, hz0, hz1, hz2⟩ := info_parts info32
  go_enter Tryz.func97, Tryz.ntmps97
  go_wp2_with fail
  refine (trim_any ao n nc f w hn (by omega) hf).mono ?_
  rintro e w' ⟨k, hk, rfl, htf0, hvf0, rfl⟩
  have htf := Lib.hid htf0; have hvf := Lib.hid hvf0; clear htf0 hvf0
  go_wp2_with fail
  refine (trim_any bo m mc g w hm (by omega) hg).mono ?_
  rintro e w' ⟨l, hl, rfl, htg0, hvg0, rfl⟩
  have htg := Lib.hid htg0; have hvg := Lib.hid hvg0; clear htg0 hvg0
  have hsf := Lib.hid (hf.mono hk); have hsg := Lib.hid (hg.mono hl)
  have hlf := Lib.hid (lf.mono hk); have hlg := Lib.hid (lg.mono hl)
  clear hf hg lf lg
  by_cases hl0 : l = 0
  · subst hl0
    go_wp2_with fail
    go_ret3
    exact ⟨Below.refl _ _, .inl ⟨by rw [← hvg.out]; rfl, rfl⟩⟩
  have hgz : val g m ≠ 0 := by
    rw [← hvg.out]
    exact fun e => hl0 ((Canon.ne_zero ⟨hlg.out, htg.out, rfl⟩).2 e)
  by_cases hkl : k < l
  · have hxy : val f n < val g m := by rw [← hvf.out, ← hvg.out]; exact val_lt_of_len hlf.out htg.out hkl
    have hxy' := Lib.hid hxy; have hgz' := Lib.hid hgz
    clear hxy hgz
    go_wp2_with fail
    refine (norm_any ao k nc f w ⟨by omega, by omega, by omega, hsf.out, hlf.out⟩).mono ?_
    rintro e w1 ⟨co, q, qc, h, rfl, hq, hqc, hsh, hch, hbel⟩
    have hsh' := Lib.hid hsh; have hch' := Lib.hid hch; have hbel' := Lib.hid hbel
    clear hsh hch hbel
    go_wp2_with fail
    go_ret3
    refine ⟨hbel'.out, .inr ⟨hgz'.out, none, 0, 0, fun _ => 0, co, q, qc, h, rfl, Nat.le_refl _, by omega, hq, hqc, .inl rfl, ?_, hsh'.out, ?_⟩⟩
    · rw [Nat.div_eq_of_lt hxy'.out]; exact canon_zero _
    · rw [Nat.mod_eq_of_lt hxy'.out, ← hvf.out]; exact hch'.out
  obtain ⟨l, rfl⟩ : ∃ l', l = l' + 1 := ⟨l - 1, by omega⟩
  have hgz' := Lib.hid hgz
  clear hgz
  have htop : g l ≠ 0 := by
    rcases htg.out with h | h
    · omega
    · exact h
  have blg := hlg.out l (by omega)
  rcases hsg.out with h | ⟨b', off', hbo, hcg⟩
  · omega
  subst hbo
  have c1 := hcg l (by omega)
  clear hcg
  obtain ⟨u1, u2, u3⟩ := lead_fits (g l) htop blg
  obtain ⟨u, hu⟩ : ∃ u, u = lead (g l) := ⟨_, rfl⟩
  rw [← hu] at u1 u2 u3
  have u2' := Lib.hid u2; have u3' := Lib.hid u3
  clear u2 u3 htop
  have hu' := Lib.hid hu
  clear hu
  go_wp2_with fail
  refine (lead_any (g l) w blg).mono ?_
  rintro e w' ⟨rfl, rfl⟩
  rw [← hu'.out]
  go_wp2_with fail
  refine (moveUp_any ao k nc u f w u1 ⟨by omega, by omega, by omega, hsf.out, hlf.out⟩).mono ?_
  rintro e w1 ⟨B1, F1, rfl, hB1, hB1', hblk1, hlim1, hval1, hbel1⟩
  have hb1 := Lib.hid hblk1; have hl1 := Lib.hid hlim1; have hv1 := Lib.hid hval1; have hw1 := Lib.hid hbel1
  clear hblk1 hlim1 hval1 hbel1 c1
  go_wp2_with fail
  refine (moveUp_any (some ⟨b', off', none⟩) (l + 1) mc u g w1 u1 ⟨by omega, by omega, by omega, hsg.out.below hw1.out, hlg.out⟩).mono ?_
  rintro e w2 ⟨B2, F2, rfl, hB2, hB2', hblk2, hlim2, hval2, hbel2⟩
  have hb2 := Lib.hid hblk2; have hl2 := Lib.hid hlim2; have hv2 := Lib.hid hval2; have hw2 := Lib.hid (hw1.out.trans (hbel2.mono hw1.out.size)); have hb1' := Lib.hid (hb1.out.below hbel2 hB1')
  have hsz := hbel2.size
  clear hblk2 hlim2 hval2 hbel2 hb1
  go_wp2_with fail
  refine (trim_any (some ⟨B2, 0, none⟩) (l + 1 + 1) (l + 1 + 1) F2 w2 (Nat.le_refl _) (by omega) (Sl.of_blk0 hb2.out _ (Nat.le_refl _))).mono ?_
  rintro e w' ⟨d, hd, rfl, htd0, hvd0, rfl⟩
  have htd := Lib.hid htd0; have hvd := Lib.hid hvd0; clear htd0 hvd0
  have hDv : val F2 d = val g (l + 1) * 2 ^ u := hvd.out.trans hv2.out
  have hcanon : Canon (val g (l + 1) * 2 ^ u) d F2 := ⟨hl2.out.mono hd, htd.out, hDv⟩
  have hd1 : d ≤ l + 1 := hcanon.len_le (lead_len (hlg.out.mono (Nat.le_succ l)) u2'.out ⟨_, pow_parts u1⟩)
  have hd2 : l + 1 ≤ d := len_le_of_val_le (hl2.out.mono hd) htg.out (by rw [hDv]; exact Nat.le_mul_of_pos_right _ (Nat.pow_pos (by decide)))
  obtain rfl : d = l + 1 := by omega
  obtain ⟨t, ht⟩ : ∃ t, k = l + 1 + t := ⟨k - (l + 1), by omega⟩
  subst ht
  have hD1 : val F2 (l + 1) ≤ pw (l + 1) := Nat.le_of_lt (val_lt (hl2.out.mono hd))
  have hst := div_start (x := val f (l + 1 + t)) (y := val F2 (l + 1)) (u := u) (t := t) (val_lt hlf.out) rfl (by rw [hDv]; exact lead_big u3'.out) u1
  have hcan := Lib.hid hcanon; have hDv' := Lib.hid hDv; have hD1' := Lib.hid hD1; have hst' := Lib.hid hst
  have hDpos : 0 < val F2 (l + 1) := Nat.pos_of_ne_zero (fun e => by have := hst'.out; rw [e] at this; omega)
  have hDpos' := Lib.hid hDpos
  clear hDv hcanon hd1 hd2 hD1 hst hDpos
  go_wp2_with (at_make; refine wpList_make_full _ rfl (.tmp 45) (.tmp 45) 27 rfl w2.heap.size 79 i32 (.int .u32 0) 1 Tryz.underlying27 hi hz0 hz1 .i64 .i64 _ _ (t + 1) rfl rfl (by omega) (by omega) (by rw [hz2]; omega) (by unfold maxLen; omega) (Nat.le_refl _) ?_)
  intro w3 hown hgrow
  have hbl3 : Below w2.heap.size w2 w3 := (Below.refl _ w2).grown hgrow (Nat.le_refl _) (fun _ h => by cases h)
  have hb3 := Lib.hid (Blk.of_made hown)
  have hB3 : w2.heap.size < w3.heap.size := hb3.out.lt (by omega)
  have hb13 := Lib.hid (hb1'.out.below hbl3 (by omega))
  have hb23 := Lib.hid ((hb2.out.mono (Nat.le_succ (l + 1))).below hbl3 hB2')
  have hw3 := Lib.hid (hw2.out.trans (hbl3.mono hw2.out.size))
  obtain ⟨B3, hB30⟩ : ∃ B3, B3 = w2.heap.size := ⟨_, rfl⟩
  rw [← hB30] at hb3 hB3 hB2' ⊢
  have hsz1 := hw1.out.size
  have hne12 : B2 ≠ B1 := by omega
  have hne13 : B1 ≠ B3 := by omega
  have hne23 : B2 ≠ B3 := by omega
  have hle1 : w.heap.size ≤ B1 := hB1
  have hle3 : w.heap.size ≤ B3 := by have := hw2.out.size; omega
  clear hown hgrow hbl3 hB30
  obtain ⟨D, hD⟩ : ∃ D, D = val F2 (l + 1) := ⟨_, rfl⟩
  obtain ⟨A, hA⟩ : ∃ A, A = val f (l + 1 + t) * 2 ^ u := ⟨_, rfl⟩
  obtain ⟨NN, hNN⟩ : ∃ NN, NN = l + 1 + t + 1 := ⟨_, rfl⟩
  have hD' := Lib.hid hD; have hA' := Lib.hid hA; have hNN' := Lib.hid hNN
  have hN1 : NN ≤ 1000001 := by omega
  have hN2 : l + t + 2 ≤ NN := by omega
  have hN3 : NN ≤ l + t + 2 := by omega
  clear hD hA hNN
  go_wp2_with fail
  go_loopw [11] (fun i wr => ∃ (j : Nat) (F Q : Nat → Nat), j ≤ t + 1 ∧ i = .int .i64 ((j : Int) - 1) ∧ Blk wr B1 NN F ∧ Lim F NN ∧ Blk wr B3 (t + 1) Q ∧ Lim Q (t + 1) ∧ Blk wr B2 (l + 1) F2 ∧
      val F NN + D * pw j * val (fun s => Q (j + s)) (t + 1 - j) = A ∧ val F NN < D * pw j ∧ Below w.heap.size w wr) (fun i _ => (intOf i + 1).toNat)
  case atStart =>
    refine ⟨t + 1, F1, fun _ => 0, Nat.le_refl _, int_eq (by omega), by rw [hNN'.out]; exact hb13.out, by rw [hNN'.out]; exact hl1.out, hb3.out, fun j _ => (by decide : 0 < 4294967296), hb23.out, ?_, ?_, hw3.out⟩
    · rw [Nat.sub_self, val_zero, Nat.mul_zero, Nat.add_zero, hNN'.out, hv1.out, hA'.out]
    · rw [hNN'.out, hv1.out, hD'.out]; exact hst'.out
  case round =>
    obtain ⟨j, F, Q, hj, rfl, hbF1, hlF1, hbQ1, hlQ1, hbD1, hval1, hlt1, hbel1⟩ := hrel
    have hbF := Lib.hid hbF1; have hlF := Lib.hid hlF1; have hbQ := Lib.hid hbQ1; have hlQ := Lib.hid hlQ1; have hbD := Lib.hid hbD1; have hval := Lib.hid hval1; have hlt := Lib.hid hlt1; have hbel := Lib.hid hbel1
    clear hbF1 hlF1 hbQ1 hlQ1 hbD1 hval1 hlt1 hbel1
    have z1 : B1 < wr.heap.size := hbF.out.lt (by omega)
    have z2 : B2 < wr.heap.size := hbD.out.lt (by omega)
    have z3 : B3 < wr.heap.size := hbQ.out.lt (by omega)
    have hDD : D ≤ pw (l + 1) := by rw [hD'.out]; exact hD1'.out
    have hDP : 0 < D := by rw [hD'.out]; exact hDpos'.out
    have hDD' := Lib.hid hDD; clear hDD
    by_cases h0 : j = 0
    · subst h0
      have hfin := div_whole (V := val F NN) (D := D) (Q := val (fun s => Q (0 + s)) (t + 1 - 0)) (A := A) (x := val f (l + 1 + t)) (y := val g (l + 1)) (u := u) (by have := hval.out; rwa [show pw 0 = 1 from rfl, Nat.mul_one] at this) hA'.out
        (by rw [hD'.out]; exact hDv'.out) (by have := hlt.out; rwa [show pw 0 = 1 from rfl, Nat.mul_one] at this)
      rw [hvf.out, hvg.out] at hfin
      have hQe : val (fun s => Q (0 + s)) (t + 1 - 0) = val Q (t + 1) := val_congr (fun x _ => by rw [Nat.zero_add])
      rw [hQe] at hfin
      have hfin' := Lib.hid hfin
      clear hfin hQe
      rw [← hNN'.out]
      go_wp2_with fail
      refine (moveDown_any B1 NN u F wr (by omega) u1 hbF.out hlF.out).mono ?_
      rintro e w5 ⟨F3, rfl, hb5, hl5, hv5, hg5⟩
      have hb5' := Lib.hid hb5; have hl5' := Lib.hid hl5; have hv5' := Lib.hid hv5
      have hqq := Lib.hid (hbQ.out.kept z3 hg5 (Ne.symm hne13))
      have hbel5 := Lib.hid (hbel.out.grown hg5 (by have := hbel.out.size; omega) (fun k hk => by cases hk; exact hle1))
      clear hb5 hl5 hv5 hg5
      go_wp2_with fail
      refine (trim_any (some ⟨B3, 0, none⟩) (t + 1) (t + 1) Q w5 (Nat.le_refl _) (by omega) (Sl.of_blk0 hqq.out _ (Nat.le_refl _))).mono ?_
      rintro e w' ⟨q1, hq1, rfl, htq0, hvq0, rfl⟩
      have htq := Lib.hid htq0; have hvq := Lib.hid hvq0; clear htq0 hvq0
      go_wp2_with fail
      refine (trim_any (some ⟨B1, 0, none⟩) NN NN F3 w5 (Nat.le_refl _) (by omega) (Sl.of_blk0 hb5'.out _ (Nat.le_refl _))).mono ?_
      rintro e w' ⟨r1, hr1, rfl, htr0, hvr0, rfl⟩
      have htr := Lib.hid htr0; have hvr := Lib.hid hvr0; clear htr0 hvr0
      go_wp2_with fail
      go_ret3
      refine ⟨hbel5.out, .inr ⟨hgz'.out, some ⟨B3, 0, none⟩, q1, t + 1, Q, some ⟨B1, 0, none⟩, r1, NN, F3, rfl, hq1, by omega, hr1, by omega, Sl.of_blk0 hqq.out _ hq1, ?_, Sl.of_blk0 hb5'.out _ hr1, ?_⟩⟩
      · exact ⟨hlQ.out.mono hq1, htq.out, hvq.out.trans hfin'.out.1⟩
      · exact ⟨hl5'.out.mono hr1, htr.out, (hvr.out.trans hv5'.out).trans hfin'.out.2⟩
    · obtain ⟨s, rfl⟩ : ∃ s, j = s + 1 := ⟨j - 1, by omega⟩
      have hz := high_noughts hDD'.out hlt.out
      have hwin := val_window (F := F) (N := NN) (i := s) (k := l + 1 + 1) (by omega) (fun x h1 h2 => hz x (by omega) h2)
      have hRw := div_window (L := val F s) (P := pw s) (Rw := val (fun x => F (s + x)) (l + 1 + 1)) (D := D) hwin (by have := hlt.out; rw [pw_succ, Nat.mul_comm 4294967296] at this; exact this)
      have hz' := Lib.hid hz; have hwin' := Lib.hid hwin; have hRw' := Lib.hid hRw
      clear hz hwin hRw h0
      go_wp2_with fail
      rw [show s + (l + 1) + 1 - s = l + 1 + 1 by omega]
      refine (divideLimb_any B1 NN s l (l + 1 + t + 1 - s) (some ⟨B2, 0, none⟩) (l + 1 + 1) F F2 wr (by omega) (by omega) hbF.out hlF.out (Sl.of_blk0 hbD.out _ (Nat.le_refl _)) (.inr (fun a ha => by cases ha; exact hne12)) (hl2.out.mono (Nat.le_succ _)) (by rw [← hD'.out]; exact hRw'.out)).mono ?_
      rw [← hD'.out]
      rintro e w5 ⟨q, F', hq, rfl, hb5, hl5, hs5, hv5, hg5⟩
      have hq' := Lib.hid hq; have hb5' := Lib.hid hb5; have hl5' := Lib.hid hl5; have hs5' := Lib.hid hs5; have hv5' := Lib.hid hv5; have hg5' := Lib.hid hg5
      have hqq := Lib.hid (hbQ.out.kept z3 hg5 (Ne.symm hne13))
      have hdd := Lib.hid (hbD.out.kept z2 hg5 hne12)
      have hq4 : q < 4294967296 := by rw [hq]; exact (Nat.div_lt_iff_lt_mul hDP).2 hRw'.out
      have z35 : B3 < w5.heap.size := Nat.lt_of_lt_of_le z3 hg5.size
      have z15 : B1 < w5.heap.size := Nat.lt_of_lt_of_le z1 hg5.size
      have z25 : B2 < w5.heap.size := Nat.lt_of_lt_of_le z2 hg5.size
      clear hq hb5 hl5 hs5 hv5 hg5
      have hcell := hqq.out.cell s (by omega)
      have hfree := hqq.out.free s
      go_wp2_with fail
      go_roundw
      case rel =>
        have hg6 : w5.grownBy (w5.setCell ⟨B3, s, none⟩ (.int .u32 q)) (some B3) := grown_setCell (grown_refl _ _) _ _
        have hwin2 : val F' NN = val F' s + pw s * val (fun x => F' (s + x)) (l + 1 + 1) :=
          val_window (by omega) (fun x h1 h2 => (hs5'.out x (by omega)).trans (hz'.out x (by omega) h2))
        have hlow : val F' s = val F s := val_congr (fun x hx => hs5'.out x (by omega))
        rw [hlow, hv5'.out] at hwin2
        have hv := hval.out
        rw [pw_succ, Nat.mul_comm 4294967296] at hv
        obtain ⟨r1, r2⟩ := div_round hwin'.out hwin2 hv hq'.out (val_lt (hlF.out.mono (by omega))) hDP
        refine ⟨s, F', put Q s q, by omega, int_eq (by omega), hb5'.out.kept z15 hg6 hne13, hl5'.out, hqq.out.set s (by omega) _ _ rfl, put_lim hlQ.out hq4, hdd.out.kept z25 hg6 hne23, ?_, r2, ?_⟩
        · rw [← r1]
          have e : t + 1 - s = t + 1 - (s + 1) + 1 := by omega
          rw [e, val_cons, Nat.add_zero, put_at]
          have e3 : val (fun x => put Q s q (s + (x + 1))) (t + 1 - (s + 1)) = val (fun x => Q (s + 1 + x)) (t + 1 - (s + 1)) := val_congr (fun x _ => by rw [put_ne (by omega), show s + (x + 1) = s + 1 + x by omega])
          rw [e3]
        · exact (hbel.out.grown hg5'.out (by have := hbel.out.size; omega) (fun k hk => by cases hk; exact hle1)).grown hg6 (by have := hbel.out.size; have := hg5'.out.size; omega) (fun k hk => by cases hk; exact hle3)
      case measure => simp [intOf]

end Go.Proofs.YtmkjebembicljaaGreat

namespace Go.Proofs.YtmkjebembicljaaGreat
open Go.RowKit Num

theorem val_two {f : Nat → Nat} {n : Nat} (h : n ≤ 2) : at0 f n 1 * 4294967296 + at0 f n 0 = val f n := by
  rw [← val_at0_ge h]
  simp [val, pw]
  omega

set_option maxHeartbeats 400000 in
theorem word_any (ao : Option Addr) (n nc : Nat) (f : Nat → Nat) (w : World) (h2 : n ≤ 2) (hs : Sl w ao n f) (lf : Lim f n) :
    Calls Tryz.prog 104 #[.slice ao n nc] w fun e w' => e = .returned (.int .u64 (val f n)) ∧ w = w' := by
  have b0 := at0_lt lf 0
  have b1 := at0_lt lf 1
  have hor := or_shift (at0 f n 1) (at0 f n 0) (by omega) (by omega) (by omega) (by omega)
  have hv := Lib.hid (val_two (f := f) h2)
  go_enter Tryz.func104, Tryz.ntmps104
  go_wp2_with fail
  refine (limb_any ao n nc 1 f w (by omega) hs).mono ?_
  rintro e w' ⟨rfl, rfl⟩
  rw [show (1 : Int).toNat = 1 from rfl]
  go_wp2_with fail
  refine (limb_any ao n nc 0 f w (by omega) hs).mono ?_
  rintro e w' ⟨rfl, rfl⟩
  rw [show (0 : Int).toNat = 0 from rfl]
  go_wp2_with fail
  go_ret
  exact ⟨ret_num (by rw [← hv.out]; omega), rfl⟩

set_option maxHeartbeats 400000 in
theorem gcdOfWords_any (x y : Nat) (w : World) (hx : x < 18446744073709551616) (hy : y < 18446744073709551616) :
    Calls Tryz.prog 103 #[.int .u64 x, .int .u64 y] w fun e w' => e = .returned (.int .u64 (Nat.gcd x y)) ∧ ∃ q, w' = w.drewN q := by
  obtain ⟨G, hG0⟩ : ∃ G, G = Nat.gcd x y := ⟨_, rfl⟩
  rw [← hG0]
  have hG := Lib.hid hG0
  clear hG0
  go_enter Tryz.func103, Tryz.ntmps103
  go_wp2_with fail
  go_loopw [0, 1] (fun a b wr => ∃ u v : Nat, a = .int .u64 u ∧ b = .int .u64 v ∧ u < 18446744073709551616 ∧ v < 18446744073709551616 ∧ G = Nat.gcd u v ∧ ∃ q, wr = w.drewN q) (fun _ b _ => (intOf b).toNat)
  case atStart => exact ⟨x, y, rfl, rfl, hx, hy, hG.out, 0, rfl⟩
  case round =>
    obtain ⟨u, v, rfl, rfl, hu, hv, hg0, hq0⟩ := hrel
    have hg := Lib.hid hg0; have hq := Lib.hid hq0
    clear hg0 hq0
    by_cases h0 : v = 0
    · subst h0
      go_wp2_with fail
      go_ret
      exact ⟨ret_num (by rw [hg.out, Nat.gcd_zero_right]), hq.out⟩
    · have hb : ((v : Int) != 0) = true := by rw [bne_iff_ne]; omega
      have hm : (u : Int) % (v : Int) = ((u % v : Nat) : Int) := by omega
      have hm' := Lib.hid hm
      have hm0 : 0 ≤ (u : Int) % (v : Int) := by omega
      have hlt : u % v < v := Nat.mod_lt _ (by omega)
      clear hm
      go_wp2_with fail
      go_quiet (fail)
      go_wp2_with fail
      go_roundw
      case rel =>
        obtain ⟨q, hq'⟩ := hq.out
        exact ⟨v, u % v, rfl, int_eq hm'.out, hv, by omega, by rw [hg.out, Nat.gcd_comm, Nat.gcd_rec, Nat.gcd_comm], drewN_trans hq' _⟩
      case measure => simp [intOf]; omega

set_option maxHeartbeats 400000 in
theorem fromWord_any (x : Nat) (w : World) (hx : x < 18446744073709551616) :
    Calls Tryz.prog 102 #[.int .u64 x] w (NumPost x w) := by
  go_enter Tryz.func102, Tryz.ntmps102
  go_wp2_with fail
  obtain ⟨w1, hw1⟩ : ∃ w1, w1 = w.alloc (.cells #[.int .u32 ((x : Int) % 4294967296), .int .u32 ((x : Int) / 4294967296)] 79) := ⟨_, rfl⟩
  rw [← hw1]
  have hblk : Blk w1 w.heap.size 2 (put (put (fun _ => 0) 0 (x % 4294967296)) 1 (x / 4294967296)) := by
    refine ⟨fun j hj => ?_, fun j => ?_⟩
    · rw [hw1, World.cell?_alloc_new]
      have : j = 0 ∨ j = 1 := by omega
      rcases this with rfl | rfl
      · rw [put_ne (by decide), put_at]; simp
      · rw [put_at]; simp
    · rw [hw1, World.frozen?_alloc_new]
  have hbel : Below w.heap.size w w1 := by rw [hw1]; exact (Below.refl _ _).alloc (Nat.le_refl _) _
  have hsl := Lib.hid (Sl.of_blk0 hblk 2 (Nat.le_refl _)); have hbel' := Lib.hid hbel
  clear hblk hbel hw1
  refine (trim_any (some ⟨w.heap.size, 0, none⟩) 2 2 _ w1 (Nat.le_refl _) (by omega) hsl.out).mono ?_
  rintro e w' ⟨k, hk, rfl, htf0, hvf0, rfl⟩
  have htf := Lib.hid htf0; have hvf := Lib.hid hvf0; clear htf0 hvf0
  go_wp2_with fail
  go_ret
  refine ⟨_, k, 2, _, rfl, hk, by omega, hsl.out.mono hk, ⟨?_, htf.out, ?_⟩, hbel'.out⟩
  · refine Lim.mono (n := 2) (fun j hj => ?_) hk
    have : j = 0 ∨ j = 1 := by omega
    rcases this with rfl | rfl
    · rw [put_ne (by decide), put_at]; exact Nat.mod_lt _ (by decide)
    · rw [put_at]; omega
  · rw [hvf.out, val_succ, val_succ, val_zero, put_at, put_ne (by decide), put_at]
    simp [pw]
    omega

/-- A number of at most 1000000 limbs without noughts on top, that may be handed on. -/
theorem Num.Canon.arg {w : World} {ao : Option Addr} {n nc v : Nat} {f : Nat → Nat} (h : Canon v n f) (hs : Sl w ao n f) (hn : n ≤ nc) (hc : nc ≤ 9223372036854775807) (hv : v < pw 1000000) : Arg w ao n nc f :=
  ⟨hn, hc, h.len_le hv, hs, h.lim⟩

set_option maxHeartbeats 1000000 in
theorem gcd_any (ao bo : Option Addr) (n nc m mc : Nat) (f g : Nat → Nat) (w : World) (A : Arg w ao n nc f) (B : Arg w bo m mc g) :
    Calls Tryz.prog 96 #[.slice ao n nc, .slice bo m mc] w (NumPost (Nat.gcd (val f n) (val g m)) w) := by
  have vx : val f n < pw 1000000 := Nat.lt_of_lt_of_le (val_lt A.lim) (pw_le A.few)
  have vy : val g m < pw 1000000 := Nat.lt_of_lt_of_le (val_lt B.lim) (pw_le B.few)
  obtain ⟨X, hX⟩ : ∃ X, X = val f n := ⟨_, rfl⟩
  obtain ⟨Y, hY⟩ : ∃ Y, Y = val g m := ⟨_, rfl⟩
  obtain ⟨G, hG0⟩ : ∃ G, G = Nat.gcd X Y := ⟨_, rfl⟩
  obtain ⟨T, hT⟩ : ∃ T, T = pw 1000000 := ⟨_, rfl⟩
  rw [← hX, ← hY, ← hG0]
  rw [← hT] at vx vy
  rw [← hX] at vx
  rw [← hY] at vy
  have hX' := Lib.hid hX; have hY' := Lib.hid hY; have hG' := Lib.hid hG0; have hT' := Lib.hid hT; have vx' := Lib.hid vx; have vy' := Lib.hid vy
  have hA := Lib.hid A; have hB := Lib.hid B
  clear hX hY hG0 hT vx vy A B
  go_enter Tryz.func96, Tryz.ntmps96
  go_wp2_with fail
  refine (norm_any ao n nc f w hA.out).mono ?_
  rintro e w1 ⟨co, q, qc, h, rfl, hq, hqc, hsh, hch, hbel⟩
  have hsh' := Lib.hid hsh; have hch' := Lib.hid hch; have hbel' := Lib.hid hbel
  clear hsh hch hbel
  go_wp2_with fail
  refine (norm_any bo m mc g w1 (hB.out.below hbel'.out)).mono ?_
  rintro e w2 ⟨do_, r, rc, i, rfl, hr, hrc, hsi, hci, hbel⟩
  have hsi' := Lib.hid hsi; have hci' := Lib.hid hci; have hbel2 := Lib.hid (hbel'.out.trans (hbel.mono hbel'.out.size)); have hsh2 := Lib.hid (hsh'.out.below hbel)
  clear hsi hci hbel hsh'
  go_wp2_with fail
  go_loopg [0, 1] Y (fun y a b wr => ∃ (x : Nat) (ao : Option Addr) (n nc : Nat) (f : Nat → Nat) (bo : Option Addr) (m mc : Nat) (g : Nat → Nat), a = .slice ao n nc ∧ b = .slice bo m mc ∧ n ≤ nc ∧ nc ≤ 9223372036854775807 ∧ m ≤ mc ∧ mc ≤ 9223372036854775807 ∧
      Sl wr ao n f ∧ Canon x n f ∧ Sl wr bo m g ∧ Canon y m g ∧ x < T ∧ y < T ∧ G = Nat.gcd x y ∧ Below w.heap.size w wr)
  case atStart =>
    exact ⟨X, co, q, qc, h, do_, r, rc, i, rfl, rfl, hq, hqc, hr, hrc, hsh2.out, by rw [hX'.out]; exact hch'.out, hsi'.out, by rw [hY'.out]; exact hci'.out, vx'.out, vy'.out, hG'.out, hbel2.out⟩
  case round =>
    obtain ⟨x, ao, n, nc, f, bo, m, mc, g, rfl, rfl, hn, hnc, hm, hmc, hsf0, hcf0, hsg0, hcg0, hx0, hy0, hg0, hbel0⟩ := hrel
    have hsf := Lib.hid hsf0; have hcf := Lib.hid hcf0; have hsg := Lib.hid hsg0; have hcg := Lib.hid hcg0; have hx := Lib.hid hx0; have hy := Lib.hid hy0; have hg := Lib.hid hg0; have hbel := Lib.hid hbel0
    clear hsf0 hcf0 hsg0 hcg0 hx0 hy0 hg0 hbel0
    by_cases hm0 : m = 0
    · subst hm0
      go_wp2_with fail
      go_ret
      refine ⟨ao, n, nc, f, rfl, hn, hnc, hsf.out, ?_, hbel.out⟩
      have e : gk = 0 := hcg.out.ne_zero.1 rfl
      have e2 := hg.out
      rw [e, Nat.gcd_zero_right] at e2
      rw [e2]; exact hcf.out
    · have hy1 : 0 < gk := Nat.pos_of_ne_zero (fun e => hm0 (hcg.out.ne_zero.2 e))
      by_cases hsmall : n ≤ 2 ∧ m ≤ 2
      · obtain ⟨s1, s2⟩ := hsmall
        have wx : x < 18446744073709551616 := Nat.lt_of_lt_of_le hcf.out.lt_pw (pw_le s1)
        have wy : gk < 18446744073709551616 := Nat.lt_of_lt_of_le hcg.out.lt_pw (pw_le s2)
        go_wp2_with fail
        refine (word_any ao n nc f wr s1 hsf.out hcf.out.lim).mono ?_
        rw [hcf.out.val]
        rintro e w' ⟨rfl, rfl⟩
        go_wp2_with fail
        refine (word_any bo m mc g wr s2 hsg.out hcg.out.lim).mono ?_
        rw [hcg.out.val]
        rintro e w' ⟨rfl, rfl⟩
        go_wp2_with fail
        refine (gcdOfWords_any x gk wr wx wy).mono ?_
        rw [← hg.out]
        have wg : G < 18446744073709551616 := by rw [hg.out]; exact Nat.lt_of_le_of_lt (Nat.gcd_le_right _ hy1) wy
        rintro e w' ⟨rfl, p, rfl⟩
        go_wp2_with fail
        refine (fromWord_any G (wr.drewN p) wg).mono ?_
        rintro e w3 ⟨ao3, n3, nc3, f3, rfl, h1, h2, h3, h4, h5⟩
        have h3' := Lib.hid h3; have h4' := Lib.hid h4
        have hbel3 := Lib.hid ((below_drewN hbel.out p).trans (h5.mono hbel.out.size))
        clear h3 h4 h5
        go_wp2_with fail
        go_ret
        exact ⟨ao3, n3, nc3, f3, rfl, h1, h2, h3'.out, h4'.out, hbel3.out⟩
      · by_cases s1 : n ≤ 2
        · have s2 : ¬ m ≤ 2 := fun h => hsmall ⟨s1, h⟩
          clear hsmall
          go_wp2_with fail
          refine (divMod_any ao bo n nc m mc f g wr (hcf.out.arg hsf.out hn hnc (by rw [← hT'.out]; exact hx.out)) (hcg.out.arg hsg.out hm hmc (by rw [← hT'.out]; exact hy.out))).mono ?_
          rw [hcf.out.val, hcg.out.val]
          rintro e w3 ⟨hb3, h3⟩
          rcases h3 with ⟨h3, _⟩ | ⟨_, ao3, n3, nc3, f3, bo3, m3, mc3, g3, rfl, _, _, hm3, hmc3, _, _, hsg3, hcg3⟩
          · exact absurd h3 (Nat.pos_iff_ne_zero.1 hy1)
          have hb3' := Lib.hid hb3; have hsg3' := Lib.hid hsg3; have hcg3' := Lib.hid hcg3; have hsg4 := Lib.hid (hsg.out.below hb3)
          have hbel3 := Lib.hid (hbel.out.trans (hb3.mono hbel.out.size))
          clear hb3 hsg3 hcg3
          go_wp2_with fail
          go_roundg (x % gk)
          case measure => exact Nat.mod_lt _ hy1
          case rel =>
            exact ⟨gk, bo, m, mc, g, bo3, m3, mc3, g3, rfl, rfl, hm, hmc, hm3, hmc3, hsg4.out, hcg.out, hsg3'.out, hcg3'.out, hy.out, Nat.lt_trans (Nat.mod_lt _ hy1) hy.out, by rw [hg.out, Nat.gcd_comm, Nat.gcd_rec, Nat.gcd_comm], hbel3.out⟩
        · clear hsmall
          go_wp2_with fail
          refine (divMod_any ao bo n nc m mc f g wr (hcf.out.arg hsf.out hn hnc (by rw [← hT'.out]; exact hx.out)) (hcg.out.arg hsg.out hm hmc (by rw [← hT'.out]; exact hy.out))).mono ?_
          rw [hcf.out.val, hcg.out.val]
          rintro e w3 ⟨hb3, h3⟩
          rcases h3 with ⟨h3, _⟩ | ⟨_, ao3, n3, nc3, f3, bo3, m3, mc3, g3, rfl, _, _, hm3, hmc3, _, _, hsg3, hcg3⟩
          · exact absurd h3 (Nat.pos_iff_ne_zero.1 hy1)
          have hb3' := Lib.hid hb3; have hsg3' := Lib.hid hsg3; have hcg3' := Lib.hid hcg3; have hsg4 := Lib.hid (hsg.out.below hb3)
          have hbel3 := Lib.hid (hbel.out.trans (hb3.mono hbel.out.size))
          clear hb3 hsg3 hcg3
          go_wp2_with fail
          go_roundg (x % gk)
          case measure => exact Nat.mod_lt _ hy1
          case rel =>
            exact ⟨gk, bo, m, mc, g, bo3, m3, mc3, g3, rfl, rfl, hm, hmc, hm3, hmc3, hsg4.out, hcg.out, hsg3'.out, hcg3'.out, hy.out, Nat.lt_trans (Nat.mod_lt _ hy1) hy.out, by rw [hg.out, Nat.gcd_comm, Nat.gcd_rec, Nat.gcd_comm], hbel3.out⟩

end Go.Proofs.YtmkjebembicljaaGreat

namespace Go.Proofs.YtmkjebembicljaaGreat
open Go.RowKit

theorem wpList_append_empty {P : Program} {w : World} {ops : Array Oper} {rest : List Oper} {o : Oper} {a : Act} {Q : Exit → Act → World → Prop} (hgd : o.guard = none) (s x : Operand) (t : TypeId)
    (ho : o.op = .call { callee := .builtin .append, args := #[s, x], argTypes := #[t, t] }) (e : TypeId) (i : TypeInfo) (ht : P.underlying t = some (.slice e)) (hi : P.info? e = some i)
    (ao : Option Addr) (c : Nat) (hs : a.eval s = .slice none 0 0) (hx : a.eval x = .slice ao 0 c)
    (h : wpList P ops Q rest (a.put o.dst (.slice none 0 0)) w) : wpList P ops Q (o :: rest) a w := by
  refine wpList_plain hgd fun K hK => ?_
  have hrun : (Builtin.append_ #[t, t] o.type #[.slice none 0 0, .slice ao 0 c]).run P w = .ok (.slice none 0 0) w := by
    cases ao <;> simp [Builtin.append_, run_underlying ht, sizeOf, typeInfo, hi, Builtin.lenOf, Builtin.firstCells, loadCells, loadCellsFrom]
  unfold Oper.wp
  simp [execOp, ho, resolve, invoke, builtin, hs, hx, hrun, Result.andThen]
  exact hK _ _ h

end Go.Proofs.YtmkjebembicljaaGreat

namespace Go.Proofs.YtmkjebembicljaaGreat
open Go.RowKit Num

set_option maxHeartbeats 400000 in
/-- Same, of the same limbs. -/
theorem same_yes (ao bo : Option Addr) (n nc mc : Nat) (f g : Nat → Nat) (w : World) (hn : n ≤ 9223372036854775807) (hf : Sl w ao n f) (hg : Sl w bo n g) (he : ∀ j, j < n → f j = g j) :
    Calls Tryz.prog 47 #[.slice ao n nc, .slice bo n mc] w fun e w' => e = .returned (.bool true) ∧ ∃ q, w' = w.drewN q := by
  have he' := Lib.hid he
  clear he
  go_enter Tryz.func47, Tryz.ntmps47
  go_wp2_with fail
  go_loopw [5] (fun i wr => ∃ j : Nat, j ≤ n ∧ i = .int .i64 j ∧ ∃ q, wr = w.drewN q) (fun i _ => n - (intOf i).toNat)
  case atStart => exact ⟨0, Nat.zero_le _, rfl, 0, rfl⟩
  case round =>
    obtain ⟨j, hj, rfl, q, rfl⟩ := hrel
    by_cases hlt : j < n
    · rcases hf with h | ⟨b, off, rfl, hc⟩
      · omega
      rcases hg with h | ⟨b', off', rfl, hc'⟩
      · omega
      have c1 := hc j hlt
      have c2 := hc' j hlt
      rw [← he'.out j hlt] at c2
      clear hc hc'
      go_wp2_with fail
      go_quiet (fail)
      go_wp2_with fail
      go_roundw
      case rel => exact ⟨j + 1, by omega, by go_num, _, rfl⟩
      case measure => simp [intOf]; omega
    · go_wp2_with fail
      go_ret
      exact ⟨rfl, q, rfl⟩

theorem same_canon (ao bo : Option Addr) (v n nc m mc : Nat) (f g : Nat → Nat) (w : World) (hn : n ≤ nc) (hnc : nc ≤ 9223372036854775807) (hf : Sl w ao n f) (hg : Sl w bo m g) (cf : Canon v n f) (cg : Canon v m g) :
    Calls Tryz.prog 47 #[.slice ao n nc, .slice bo m mc] w fun e w' => e = .returned (.bool true) ∧ ∃ q, w' = w.drewN q := by
  obtain rfl := cf.len cg
  exact same_yes ao bo n nc mc f g w (by omega) hf hg (cf.eq cg)

theorem owns_slice {w : World} {base n : Nat} {t : TypeId} {v : Value} {f : Nat → Nat} (h : w.ownsRow base t 1 v n (limbCells f n)) :
    ∃ ao cap, v = .slice ao n cap ∧ n ≤ cap ∧ cap ≤ 9223372036854775807 ∧ Sl w ao n f := by
  rcases h.2 with ⟨rfl, rfl⟩ | ⟨g, cap, cur, hv, hb, hg, hnc, hcm, hcs, ht⟩
  · exact ⟨none, 0, rfl, Nat.le_refl _, by omega, .inl rfl⟩
  · subst hv
    refine ⟨_, cap, rfl, hnc, by unfold maxLen at hcm; omega, ?_⟩
    by_cases h0 : n = 0
    · exact .inl h0
    · refine .inr ⟨g, 0, rfl, fun j hj => ?_⟩
      rw [Nat.zero_add, h.cellAt j (by omega), limbCells_get f n j hj]

set_option maxHeartbeats 1000000 in
theorem refNorm_any (ao : Option Addr) (n nc : Nat) (f : Nat → Nat) (w : World) (A : Arg w ao n nc f) :
    Calls Tryz.prog 90 #[.slice ao n nc] w (NumPost (val f n) w) := by
  obtain ⟨i32, hi, hz0, hz1, hz2⟩ := info_parts info32
  obtain ⟨hn, hnc, hnb, hf, lf⟩ := A
  have lf' := Lib.hid lf
  clear lf
  rcases hf with rfl | ⟨b, off, rfl, hc⟩
  · go_enter Tryz.func90, Tryz.ntmps90
    go_wp2_with fail
    go_loop [3] (fun i => i = .int .i64 0) (fun i => (intOf i).toNat)
    case atStart => exact rfl
    case round =>
      obtain rfl := hrel
      go_wp2_with (at_builtin; refine wpList_append_empty rfl (.tmp 19) (.tmp 22) 27 rfl 79 i32 Tryz.underlying27 hi _ _ rfl rfl ?_)
      all_goals
        go_ret
        exact ⟨none, 0, 0, f, rfl, Nat.le_refl _, by omega, .inl rfl, canon_zero f, Below.refl _ _⟩
  · go_enter Tryz.func90, Tryz.ntmps90
    go_wp2_with fail
    go_loop [3] (fun i => ∃ k : Nat, k ≤ n ∧ i = .int .i64 k ∧ val f k = val f n) (fun i => (intOf i).toNat)
    case atStart => exact ⟨n, Nat.le_refl _, rfl, rfl⟩
    case round =>
      obtain ⟨k, hk, rfl, hv0⟩ := hrel
      have hv := Lib.hid hv0; clear hv0
      by_cases h0 : k = 0
      · subst h0
        go_wp2_with (at_builtin; refine wpList_append_empty rfl (.tmp 19) (.tmp 22) 27 rfl 79 i32 Tryz.underlying27 hi _ _ rfl rfl ?_)
        go_ret
        exact ⟨none, 0, 0, f, rfl, Nat.le_refl _, by omega, .inl rfl, by rw [← hv.out]; exact canon_zero f, Below.refl _ _⟩
      · have hpos : 0 < k := by omega
        have hcell := hc (k - 1) (by omega)
        have hc' := Lib.hid hc
        clear hc
        by_cases hz : f (k - 1) = 0
        · have hzi : ((f (k - 1) : Int) == 0) = true := by simp [hz]
          have hz' := Lib.hid hz; clear hz
          go_wp2_with fail
          go_round
          case rel =>
            have hk1 : k = k - 1 + 1 := by omega
            have e := val_nought hz'.out
            rw [← hk1] at e
            exact ⟨k - 1, by omega, int_eq (by omega), e.symm.trans hv.out⟩
          case measure => simp [intOf]; omega
        · have hzi : ((f (k - 1) : Int) == 0) = false := by simp [hz]
          have hone := limbCells_one f k
          have hlen := limbCells_length f k
          have hat := limbCells_at (w := w) (b := b) (off := off) (n := k) (f := f) (fun j hj => hc'.out j (by omega))
          obtain ⟨cs, hcs⟩ : ∃ cs, cs = limbCells f k := ⟨_, rfl⟩
          rw [← hcs] at hone hlen hat
          have hcs' := Lib.hid hcs; have hlen' := Lib.hid hlen
          clear hcs hlen
          go_wp2_with (at_builtin; refine wpList_append_own _ rfl (.tmp 19) (.tmp 22) 27 rfl w.heap.size 79 i32 (.int .u32 0) 1 4 Tryz.underlying27 hi hz0 hz1 hz2 rfl (by decide) _ _ _ rfl (World.ownsRow_nil _ _ _ _) ⟨b, off, none⟩ k nc cs rfl (by rw [hlen'.out]; omega) hat hone (by unfold maxLen; omega) (by omega) (Nat.le_refl _) ?_)
          intro v' w1 hown hgr hnil
          rw [hcs'.out] at hown
          obtain ⟨ao', cap', rfl, g1, g2, g3⟩ := owns_slice hown
          have g3' := Lib.hid g3
          have hb := Lib.hid ((Below.refl w.heap.size w).grown hgr (Nat.le_refl _) (fun _ h => by cases h))
          clear hown hgr hnil g3
          go_wp2_with fail
          go_ret
          exact ⟨ao', k, cap', f, rfl, g1, g2, g3'.out, ⟨lf'.out.mono hk, .inr hz, hv.out⟩, hb.out⟩

end Go.Proofs.YtmkjebembicljaaGreat

namespace Go.Proofs.YtmkjebembicljaaGreat
open Go.RowKit Num

theorem sl_new1 (w : World) (t : TypeId) (v : Int) (x : Nat) (h : v = x) : Sl (w.alloc (.cells #[.int .u32 v] t)) (some ⟨w.heap.size, 0, none⟩) 1 (fun _ => x) := by
  subst h
  refine .inr ⟨w.heap.size, 0, rfl, fun j hj => ?_⟩
  obtain rfl : j = 0 := by omega
  rw [Nat.zero_add, World.cell?_alloc_new]
  rfl

theorem sl_new2 (w : World) (t : TypeId) (u v : Int) (x y : Nat) (hu : u = x) (hv : v = y) : Sl (w.alloc (.cells #[.int .u32 u, .int .u32 v] t)) (some ⟨w.heap.size, 0, none⟩) 2 (put (fun _ => x) 1 y) := by
  subst hu hv
  refine .inr ⟨w.heap.size, 0, rfl, fun j hj => ?_⟩
  rw [Nat.zero_add, World.cell?_alloc_new]
  have : j = 0 ∨ j = 1 := by omega
  rcases this with rfl | rfl <;> rfl

theorem canon_one (x : Nat) (h0 : x ≠ 0) (h : x < 4294967296) : Canon x 1 (fun _ => x) := ⟨fun _ _ => h, .inr h0, by simp [val, pw]⟩

def AwakePost (w : World) (e : Ending) (w' : World) : Prop := e = .returned (.bool true) ∧ Below w.heap.size w w'

end Go.Proofs.YtmkjebembicljaaGreat

namespace Go.Proofs.YtmkjebembicljaaGreat
open Go.RowKit Num

attribute [local go_sem ↓] Go.wp_at_zero Go.wp_at_succ

/-- This comes back; what lay there before lies there still. -/
def Says (v : Value) (w : World) (e : Ending) (w' : World) : Prop := e = .returned v ∧ Below w.heap.size w w'

theorem below_drawn {w w' : World} (h : ∃ q, w' = w.drewN q) : Below w.heap.size w w' := by
  obtain ⟨q, rfl⟩ := h
  exact below_drewN (Below.refl _ _) q

theorem sign_sgn (b : Bool) (v : Nat) : (sgn b v).sign = if b then -cmpI v 0 else cmpI v 0 := by
  cases b
  · by_cases h : v = 0
    · subst h; simp [sgn, cmpI]
    · have h1 : (0 : Int) < (v : Int) := by omega
      simp only [sgn_false, Int.sign_eq_one_of_pos h1, cmpI_gt h1]; simp
  · by_cases h : v = 0
    · subst h; simp [sgn, cmpI]
    · have h1 : (0 : Int) < (v : Int) := by omega
      simp only [sgn_true, Int.sign_neg, Int.sign_eq_one_of_pos h1, cmpI_gt h1]; simp

set_option maxHeartbeats 1000000 in
theorem wSign_any (b : Bool) (ao : Option Addr) (n nc : Nat) (x : Int) (w : World) (A : Whole w b ao n nc x) :
    Calls Tryz.prog 95 #[.agg #[.bool b, .slice ao n nc]] w (Says (.int .i64 x.sign) w) := by
  obtain ⟨f, A, hx⟩ := A.ex
  have A' := Lib.hid A
  have hs : x.sign = if b then -cmpI (val f n) 0 else cmpI (val f n) 0 := by rw [← hx]; exact sign_sgn b _
  rw [hs]
  clear A hx hs
  cases b
  all_goals
   go_enter Tryz.func95, Tryz.ntmps95
   go_wp2_with fail
   refine gen_calls (fun w' => Below w.heap.size w w' ∧ Box w' w.heap.size _ (.slice ao n nc)) ⟨(Below.refl _ w).alloc (Nat.le_refl _) _, Box.new _ _ _ rfl⟩ ?_
   rintro w0 ⟨hb0, x0⟩
   refine (cmp_any ao none n nc 0 0 f (fun _ => 0) _ (A'.out.below hb0) ⟨Nat.le_refl _, by omega, by omega, .inl rfl, fun _ h => by omega⟩).mono ?_
   rintro e w1 ⟨rfl, hd⟩
   have hb := below_drawn hd
   have y0 := x0.later hb
   have hb1 := Lib.hid (below_then hb0 (Nat.le_refl _) hb)
   have p0 := y0.c0
   clear hd hb hb0 x0
   have hv : cmpI (val f n : Nat) (val (fun _ => 0) 0 : Nat) = cmpI (val f n) 0 := rfl
   rw [hv]
   have hc : cmpI (val f n) 0 = 0 ∨ cmpI (val f n) 0 = 1 := by
     by_cases h : val f n = 0
     · exact .inl (cmpI_eq (by omega))
     · exact .inr (cmpI_gt (by omega))
   clear hv
   rcases hc with hc | hc <;> have hc' := Lib.hid hc <;> rw [hc] <;> clear hc
   all_goals
     go_wp2_with fail
     go_ret
     refine ⟨ret_num ?_, hb1.out⟩
     simp [hc'.out]

theorem wrap_back (v : Nat) (h : v ≤ 9223372036854775808) : IntKind.u64.wrap (-IntKind.u64.wrap (-(v : Int))) = (v : Int) := by
  simp [IntKind.wrap, IntKind.bits, IntKind.signed]
  omega

theorem sl_two {w : World} {B : Nat} {u v : Int} {x y : Nat} (t : TypeId) (h : B = w.heap.size) (hu : u = x) (hv : v = y) : Sl (w.alloc (.cells #[.int .u32 u, .int .u32 v] t)) (some ⟨B, 0, none⟩) 2 (put (fun _ => x) 1 y) := by
  subst h
  exact sl_new2 w t u v x y hu hv

theorem lim_two {x y : Nat} (hx : x < 4294967296) (hy : y < 4294967296) : Lim (put (fun _ => x) 1 y) 2 := put_lim (fun _ _ => hx) hy

theorem val_pair (x y : Nat) : val (put (fun _ => x) 1 y) 2 = x + 4294967296 * y := by
  rw [val_succ, val_succ, val_zero, put_at, put_ne (by decide)]
  simp [pw]
  omega

set_option maxHeartbeats 1000000 in
theorem wOf_any (n : Int) (w : World) (h0 : -9223372036854775808 ≤ n) (h1 : n ≤ 9223372036854775807) :
    Calls Tryz.prog 58 #[.int .i64 n] w (IntPost n w) := by
  by_cases hn : n < 0
  · obtain ⟨v, hv⟩ : ∃ v : Nat, n = -(v : Int) := ⟨n.natAbs, by omega⟩
    subst hv
    have hw := wrap_back v (by omega)
    have hp : 0 < v := by omega
    go_enter Tryz.func58, Tryz.ntmps58
    go_wp2_with fail
    refine gen_calls (fun w' => Below w.heap.size w w' ∧ Box w' w.heap.size (.bool false) (.slice none 0 0) ∧ Sl w' (some ⟨w.heap.size + 1, 0, none⟩) 2 (put (fun _ => v % 4294967296) 1 (v / 4294967296)))
      ⟨((Below.refl _ w).alloc (Nat.le_refl _) _).alloc (by simp) _, (Box.new _ _ _ rfl).alloc _, sl_two _ (by simp) (by omega) (by omega)⟩ ?_
    rintro w0 ⟨hb0, x0, hs⟩
    refine (norm_any (some ⟨w.heap.size + 1, 0, none⟩) 2 2 _ _ ⟨Nat.le_refl _, by omega, by omega, hs, lim_two (by omega) (by omega)⟩).mono ?_
    rw [val_pair, Nat.mod_add_div]
    rintro e w1 ⟨co, cn, cc, c, rfl, g1, g2, g3, g4, hb⟩
    have y0 := x0.later hb
    have hb1 := Lib.hid (below_then hb0 (Nat.le_refl _) hb)
    have g3' := Lib.hid g3; have g4' := Lib.hid g4
    clear g3 g4 hb hs x0 hb0
    go_wp2_with fail
    refine (signed_any true co _ cn cc c _ g1 g2 g3'.out g4'.out).mono ?_
    rintro e w3 ⟨sb, so, sn, sc, rfl, hR, hb4⟩
    have z2 := y0.later hb4
    have q1 := z2.c0; have q2 := z2.c1; have q3 := z2.fr 0; have q4 := z2.fr 1
    have hb2 := below_then hb1.out (Nat.le_refl _) hb4
    have z3 := z2.set (.bool sb) (.slice so sn sc)
    have e0 := z3.c0; have e1 := z3.c1
    have hR' := Lib.hid hR; have z2' := Lib.hid z2; have hb2' := Lib.hid hb2
    clear hR z2 hb2 hb4 y0
    go_wp2_with fail
    refine bodyPost_ret (v := .agg #[.bool sb, .slice so sn sc]) (by simp [results, Tryz.results58, go_sem, e0, e1]) rfl ?_
    exact IntPost.stored hR'.out z2'.out hb2'.out (by omega)
  · obtain ⟨v, hv⟩ : ∃ v : Nat, n = (v : Int) := ⟨n.natAbs, by omega⟩
    subst hv
    go_enter Tryz.func58, Tryz.ntmps58
    go_wp2_with fail
    refine gen_calls (fun w' => Below w.heap.size w w' ∧ Box w' w.heap.size (.bool false) (.slice none 0 0) ∧ Sl w' (some ⟨w.heap.size + 1, 0, none⟩) 2 (put (fun _ => v % 4294967296) 1 (v / 4294967296)))
      ⟨((Below.refl _ w).alloc (Nat.le_refl _) _).alloc (by simp) _, (Box.new _ _ _ rfl).alloc _, sl_two _ (by simp) (by omega) (by omega)⟩ ?_
    rintro w0 ⟨hb0, x0, hs⟩
    refine (norm_any (some ⟨w.heap.size + 1, 0, none⟩) 2 2 _ _ ⟨Nat.le_refl _, by omega, by omega, hs, lim_two (by omega) (by omega)⟩).mono ?_
    rw [val_pair, Nat.mod_add_div]
    rintro e w1 ⟨co, cn, cc, c, rfl, g1, g2, g3, g4, hb⟩
    have y0 := x0.later hb
    have hb1 := Lib.hid (below_then hb0 (Nat.le_refl _) hb)
    have g3' := Lib.hid g3; have g4' := Lib.hid g4
    clear g3 g4 hb hs x0 hb0
    go_wp2_with fail
    refine (signed_any false co _ cn cc c _ g1 g2 g3'.out g4'.out).mono ?_
    rintro e w3 ⟨sb, so, sn, sc, rfl, hR, hb4⟩
    have z2 := y0.later hb4
    have q1 := z2.c0; have q2 := z2.c1; have q3 := z2.fr 0; have q4 := z2.fr 1
    have hb2 := below_then hb1.out (Nat.le_refl _) hb4
    have z3 := z2.set (.bool sb) (.slice so sn sc)
    have e0 := z3.c0; have e1 := z3.c1
    have hR' := Lib.hid hR; have z2' := Lib.hid z2; have hb2' := Lib.hid hb2
    clear hR z2 hb2 hb4 y0
    go_wp2_with fail
    refine bodyPost_ret (v := .agg #[.bool sb, .slice so sn sc]) (by simp [results, Tryz.results58, go_sem, e0, e1]) rfl ?_
    exact IntPost.stored hR'.out z2'.out hb2'.out (by omega)

end Go.Proofs.YtmkjebembicljaaGreat

namespace Go.Proofs.YtmkjebembicljaaGreat
open Go.RowKit Num

/-- In lowest terms, of at most 32 limbs each. -/
def Low (P : Int) (Q : Nat) : Prop := Q ≠ 0 ∧ Nat.gcd P.natAbs Q = 1 ∧ P.natAbs < pw 32 ∧ Q < pw 32

/-- What Make tells of p by q: the error, the top, the bottom. -/
def mkG (p q : Int) : Nat := Nat.gcd p.natAbs q.natAbs

def mkE (p q : Int) : Int := if q = 0 then 3 else if p.natAbs / mkG p q < pw 32 ∧ q.natAbs / mkG p q < pw 32 then 0 else 7

def mkT (p q : Int) : Int := if mkE p q = 0 then sgn (decide (p.sign * q.sign < 0)) (p.natAbs / mkG p q) else 0

def mkB (p q : Int) : Nat := if mkE p q = 0 then q.natAbs / mkG p q else 0

theorem mkG_pos {p q : Int} (hq : q ≠ 0) : 0 < mkG p q := Nat.gcd_pos_of_pos_right _ (by omega)

theorem mkE_ok {p q : Int} : mkE p q = 0 ↔ q ≠ 0 ∧ p.natAbs / mkG p q < pw 32 ∧ q.natAbs / mkG p q < pw 32 := by
  unfold mkE
  by_cases h : q = 0
  · simp [h]
  · by_cases k : p.natAbs / mkG p q < pw 32 ∧ q.natAbs / mkG p q < pw 32
    · simp only [h, k, if_false, if_true, ne_eq, not_false_eq_true, and_self]
    · simp only [h, k, if_false, ne_eq, not_false_eq_true, true_and, iff_false]
      decide

theorem mkE_cases (p q : Int) : mkE p q = 0 ∨ mkE p q = 3 ∨ mkE p q = 7 := by
  unfold mkE; repeat' split
  all_goals simp

theorem mk_bad {p q : Int} (h : mkE p q ≠ 0) : mkT p q = 0 ∧ mkB p q = 0 := by simp [mkT, mkB, h]

theorem mk_three {p q : Int} : mkE p q = 3 ↔ q = 0 := by
  unfold mkE
  by_cases h : q = 0
  · simp [h]
  · simp only [h, if_false, iff_false]; split <;> decide

theorem mkT_ok {p q : Int} (h : mkE p q = 0) : mkT p q = sgn (decide (p.sign * q.sign < 0)) (p.natAbs / mkG p q) := by simp [mkT, h]

theorem mkB_ok {p q : Int} (h : mkE p q = 0) : mkB p q = q.natAbs / mkG p q := by simp [mkB, h]

theorem mkT_abs {p q : Int} (h : mkE p q = 0) : (mkT p q).natAbs = p.natAbs / mkG p q := by rw [mkT_ok h, sgn_abs]

theorem mkT_le (p q : Int) : (mkT p q).natAbs ≤ p.natAbs := by
  by_cases h : mkE p q = 0
  · rw [mkT_abs h]; exact Nat.div_le_self _ _
  · rw [(mk_bad h).1]; exact Nat.zero_le _

theorem mkB_le (p q : Int) : mkB p q ≤ q.natAbs := by
  by_cases h : mkE p q = 0
  · rw [mkB_ok h]; exact Nat.div_le_self _ _
  · rw [(mk_bad h).2]; exact Nat.zero_le _

theorem mkT_lt (p q : Int) : (mkT p q).natAbs < pw 32 := by
  by_cases h : mkE p q = 0
  · rw [mkT_abs h]; exact (mkE_ok.1 h).2.1
  · rw [(mk_bad h).1]; exact pw_pos _

theorem mkB_lt (p q : Int) : mkB p q < pw 32 := by
  by_cases h : mkE p q = 0
  · rw [mkB_ok h]; exact (mkE_ok.1 h).2.2
  · rw [(mk_bad h).2]; exact pw_pos _

theorem mkE_small {p q : Int} (hq : q ≠ 0) (hp : p.natAbs < pw 32) (h : q.natAbs < pw 32) : mkE p q = 0 :=
  mkE_ok.2 ⟨hq, Nat.lt_of_le_of_lt (Nat.div_le_self _ _) hp, Nat.lt_of_le_of_lt (Nat.div_le_self _ _) h⟩

theorem mk_low {p q : Int} (h : mkE p q = 0) : Low (mkT p q) (mkB p q) := by
  obtain ⟨hq, h1, h2⟩ := mkE_ok.1 h
  have hg := mkG_pos (p := p) hq
  refine ⟨?_, ?_, mkT_lt _ _, mkB_lt _ _⟩
  · rw [mkB_ok h]
    have : mkG p q ≤ q.natAbs := Nat.gcd_le_right _ (by omega)
    have := Nat.div_pos this hg
    omega
  · rw [mkT_abs h, mkB_ok h]
    rw [mkG, Nat.gcd_div (Nat.gcd_dvd_left _ _) (Nat.gcd_dvd_right _ _)]; exact Nat.div_self hg

theorem abs_sign (x : Int) : (x.natAbs : Int) * x.sign = x := by rw [Int.mul_comm]; exact Int.sign_mul_natAbs x

theorem sgn_sign {x : Int} {v : Nat} (h' : x = 0 → v = 0) : sgn (decide (x < 0)) v = x.sign * v := by
  rcases Int.lt_trichotomy x 0 with hx | hx | hx
  · rw [Int.sign_eq_neg_one_of_neg hx]; simp [hx, sgn]
  · rw [hx, h' hx]; simp [sgn]
  · rw [Int.sign_eq_one_of_pos hx]; simp [sgn, Int.not_lt.2 (Int.le_of_lt hx)]

theorem mk_cross {p q : Int} (h : mkE p q = 0) : mkT p q * q = p * mkB p q := by
  obtain ⟨hq, _, _⟩ := mkE_ok.1 h
  have hg := mkG_pos (p := p) hq
  have e1 : mkG p q * (p.natAbs / mkG p q) = p.natAbs := Nat.mul_div_cancel' (Nat.gcd_dvd_left _ _)
  have e2 : mkG p q * (q.natAbs / mkG p q) = q.natAbs := Nat.mul_div_cancel' (Nat.gcd_dvd_right _ _)
  rw [mkT_ok h, mkB_ok h]
  generalize p.natAbs / mkG p q = a at *
  generalize q.natAbs / mkG p q = b at *
  generalize mkG p q = g at *
  have es : (p.sign * q.sign).sign = p.sign * q.sign := by rw [Int.sign_mul, Int.sign_sign, Int.sign_sign]
  have k1 : p.sign * q.sign = 0 → a = 0 := by
    intro h0
    rcases Int.mul_eq_zero.1 h0 with h1 | h1
    · have : p = 0 := Int.sign_eq_zero_iff_zero.1 h1
      subst this
      rcases Nat.mul_eq_zero.1 (e1.trans rfl) with h2 | h2
      · omega
      · exact h2
    · exact absurd (Int.sign_eq_zero_iff_zero.1 h1) hq
  rw [sgn_sign k1, es]
  have sq : q.sign * q.sign = 1 := by
    rcases Int.lt_or_gt_of_ne hq with h1 | h1
    · rw [Int.sign_eq_neg_one_of_neg h1]; rfl
    · rw [Int.sign_eq_one_of_pos h1]; rfl
  have ep := abs_sign p
  have eq := abs_sign q
  have f1 : (g : Int) * a = p.natAbs := by exact_mod_cast e1
  have f2 : (g : Int) * b = q.natAbs := by exact_mod_cast e2
  generalize p.sign = sp at *
  generalize q.sign = sq' at *
  generalize (p.natAbs : Int) = pa at *
  generalize (q.natAbs : Int) = qa at *
  generalize (a : Int) = a at *
  generalize (b : Int) = b at *
  generalize (g : Int) = g at *
  subst f1 f2 ep eq
  grind

theorem low_unique {P P' : Int} {Q Q' : Nat} (a : Low P Q) (b : Low P' Q') (h : P * Q' = P' * Q) : P = P' ∧ Q = Q' := by
  obtain ⟨a0, a1, _, _⟩ := a
  obtain ⟨b0, b1, _, _⟩ := b
  have hn : P.natAbs * Q' = P'.natAbs * Q := by
    have := congrArg Int.natAbs h
    simpa [Int.natAbs_mul] using this
  have d1 : Q ∣ Q' := (Nat.Coprime.symm a1).dvd_of_dvd_mul_left ⟨P'.natAbs, by rw [hn, Nat.mul_comm]⟩
  have d2 : Q' ∣ Q := (Nat.Coprime.symm b1).dvd_of_dvd_mul_left ⟨P.natAbs, by rw [← hn, Nat.mul_comm]⟩
  have e : Q = Q' := Nat.dvd_antisymm d1 d2
  subst e
  exact ⟨Int.eq_of_mul_eq_mul_right (by omega) h, rfl⟩

/-- A number that is right, told by any two that make it. -/
theorem mk_of_low {p q : Int} {P : Int} {Q : Nat} (a : Low P Q) (hq : q ≠ 0) (e : p * Q = P * q) : mkE p q = 0 ∧ mkT p q = P ∧ mkB p q = Q := by
  have h : mkE p q = 0 := by
    obtain ⟨a0, a1, a2, a3⟩ := a
    have hn : p.natAbs * Q = P.natAbs * q.natAbs := by
      have := congrArg Int.natAbs e
      simpa [Int.natAbs_mul] using this
    have d1 : Q ∣ q.natAbs := (Nat.Coprime.symm a1).dvd_of_dvd_mul_left ⟨p.natAbs, by rw [← hn, Nat.mul_comm]⟩
    obtain ⟨k, hk⟩ := d1
    have hp : p.natAbs = P.natAbs * k := by
      rw [hk, Nat.mul_left_comm, Nat.mul_comm] at hn
      exact Nat.eq_of_mul_eq_mul_left (by omega) hn
    have hk0 : 0 < k := by
      rcases Nat.eq_zero_or_pos k with rfl | h
      · simp at hk; omega
      · exact h
    have hg : mkG p q = k := by
      unfold mkG
      rw [hp, hk, Nat.gcd_mul_right, a1, Nat.one_mul]
    refine mkE_ok.2 ⟨hq, ?_, ?_⟩
    · rw [hg, hp, Nat.mul_div_cancel _ hk0]; exact a2
    · rw [hg, hk, Nat.mul_div_cancel _ hk0]; exact a3
  have c := mk_cross h
  refine ⟨h, low_unique (mk_low h) a ?_⟩
  refine Int.eq_of_mul_eq_mul_right hq ?_
  rw [Int.mul_right_comm, c, Int.mul_right_comm, e, Int.mul_right_comm]

theorem mk_same {p q p' q' : Int} (h : mkE p q = 0) (hq' : q' ≠ 0) (e : p * q' = p' * q) : mkE p' q' = 0 ∧ mkT p' q' = mkT p q ∧ mkB p' q' = mkB p q := by
  refine mk_of_low (mk_low h) hq' ?_
  have c := mk_cross h
  obtain ⟨hq, _, _⟩ := mkE_ok.1 h
  refine Int.eq_of_mul_eq_mul_right hq ?_
  grind

theorem Low.nz {P : Int} {Q : Nat} (a : Low P Q) : (Q : Int) ≠ 0 := by have := a.1; omega

theorem mk_self {P : Int} {Q : Nat} (a : Low P Q) : mkE P Q = 0 ∧ mkT P Q = P ∧ mkB P Q = Q := mk_of_low a a.nz rfl

theorem low_one {P : Int} (h : P.natAbs < pw 32) : Low P 1 := ⟨by omega, Nat.gcd_one_right _, h, Nat.lt_of_lt_of_le (by decide : 1 < pw 1) (pw_le (by omega))⟩

theorem low_zero {Q : Nat} (a : Low 0 Q) : Q = 1 := by have := a.2.1; simpa using this

theorem Low.neg {P : Int} {Q : Nat} (a : Low P Q) : Low (-P) Q := ⟨a.1, by rw [Int.natAbs_neg]; exact a.2.1, by rw [Int.natAbs_neg]; exact a.2.2.1, a.2.2.2⟩

theorem Low.abs {P : Int} {Q : Nat} (a : Low P Q) : Low P.natAbs Q := ⟨a.1, by rw [Int.natAbs_natCast]; exact a.2.1, by rw [Int.natAbs_natCast]; exact a.2.2.1, a.2.2.2⟩

theorem fdiv_abs (P : Int) {Q : Nat} (hQ : Q ≠ 0) : (P.fdiv Q).natAbs ≤ P.natAbs := by
  have hq : (0 : Int) < (Q : Int) := by omega
  have e := Int.fmod_add_mul_fdiv P Q
  have h1 := Int.fmod_nonneg_of_pos P hq
  have h2 := Int.fmod_lt_of_pos P hq
  generalize P.fdiv Q = f at *
  generalize P.fmod Q = r at *
  have hQ1 : (1 : Int) ≤ (Q : Int) := by omega
  by_cases hf : 0 ≤ f
  · have : 1 * f ≤ (Q : Int) * f := Int.mul_le_mul_of_nonneg_right hQ1 hf
    omega
  · have : (Q : Int) * (f + 1) ≤ 1 * (f + 1) := Int.mul_le_mul_of_nonpos_right hQ1 (by omega)
    rw [Int.mul_add] at this
    omega

theorem low_floor {P : Int} {Q : Nat} (a : Low P Q) : Low (P.fdiv Q) 1 := low_one (Nat.lt_of_le_of_lt (fdiv_abs P a.1) a.2.2.1)

/-- A block of three cells, none of them frozen. -/
structure Box3 (w : World) (B : Nat) (v0 v1 v2 : Value) : Prop where
  c0 : w.cell? ⟨B, 0, none⟩ = some v0
  c1 : w.cell? ⟨B, 1, none⟩ = some v1
  c2 : w.cell? ⟨B, 2, none⟩ = some v2
  fr : ∀ j, w.frozen? ⟨B, j, none⟩ = false

theorem Box3.lt {w : World} {B : Nat} {v0 v1 v2 : Value} (h : Box3 w B v0 v1 v2) : B < w.heap.size := World.block_lt_of_cell? w _ h.c0

theorem Box3.new {w : World} {B : Nat} (v0 v1 v2 : Value) (t : TypeId) (h : B = w.heap.size) : Box3 (w.alloc (.cells #[v0, v1, v2] t)) B v0 v1 v2 := by
  subst h
  exact ⟨by simp, by simp, by simp, fun j => by
    have hh := heap_alloc_new w (.cells #[v0, v1, v2] t)
    simp only [World.frozen?, hh]
    simp⟩

theorem Box3.below {w w' : World} {B C : Nat} {v0 v1 v2 : Value} (h : Box3 w B v0 v1 v2) (hb : Below C w w') (hC : B < C) : Box3 w' B v0 v1 v2 :=
  ⟨(hb.cell hC).trans h.c0, (hb.cell hC).trans h.c1, (hb.cell hC).trans h.c2, fun j => (hb.frozen hC).trans (h.fr j)⟩

theorem Box3.later {w w' : World} {B : Nat} {v0 v1 v2 : Value} (h : Box3 w B v0 v1 v2) (hb : Below w.heap.size w w') : Box3 w' B v0 v1 v2 := h.below hb h.lt

theorem Box3.alloc {w : World} {B : Nat} {v0 v1 v2 : Value} (h : Box3 w B v0 v1 v2) (o : Obj) : Box3 (w.alloc o) B v0 v1 v2 := h.later ((Below.refl _ w).alloc (Nat.le_refl _) o)

theorem Box3.drew {w : World} {B : Nat} {v0 v1 v2 : Value} (h : Box3 w B v0 v1 v2) : Box3 w.drew B v0 v1 v2 := ⟨h.c0, h.c1, h.c2, h.fr⟩

theorem cell_set_ne {w : World} {a b : Addr} {v : Value} (h : a ≠ b) : (w.setCell b v).cell? a = w.cell? a := World.cell?_setCell_other _ _ _ _ (fun e => h e.symm)

theorem Box3.set {w : World} {B : Nat} {v0 v1 v2 : Value} (h : Box3 w B v0 v1 v2) (u0 u1 u2 : Value) : Box3 (((w.setCell ⟨B, 0, none⟩ u0).setCell ⟨B, 1, none⟩ u1).setCell ⟨B, 2, none⟩ u2) B u0 u1 u2 := by
  have ne : ∀ {j k : Nat}, j ≠ k → (⟨B, j, none⟩ : Addr) ≠ ⟨B, k, none⟩ := fun h e => h (by injection e)
  refine ⟨?_, ?_, ?_, fun j => by rw [World.frozen?_setCell, World.frozen?_setCell, World.frozen?_setCell]; exact h.fr j⟩
  · rw [cell_set_ne (ne (by decide)), cell_set_ne (ne (by decide))]
    exact World.cell?_setCell_same _ _ _ h.c0
  · rw [cell_set_ne (ne (by decide))]
    refine World.cell?_setCell_same _ _ _ (?_ : _ = some v1)
    rw [cell_set_ne (ne (by decide))]
    exact h.c1
  · refine World.cell?_setCell_same _ _ _ (?_ : _ = some v2)
    rw [cell_set_ne (ne (by decide)), cell_set_ne (ne (by decide))]
    exact h.c2

theorem Box3.other {w : World} {B C : Nat} {v0 v1 v2 : Value} (h : Box3 w B v0 v1 v2) (hne : B ≠ C) (u0 u1 : Value) : Box3 ((w.setCell ⟨C, 0, none⟩ u0).setCell ⟨C, 1, none⟩ u1) B v0 v1 v2 := by
  have ne : ∀ j k, (⟨B, j, none⟩ : Addr) ≠ ⟨C, k, none⟩ := fun j k e => hne (by injection e)
  refine ⟨?_, ?_, ?_, fun j => by rw [World.frozen?_setCell, World.frozen?_setCell]; exact h.fr j⟩
  · rw [cell_set_ne (ne _ _), cell_set_ne (ne _ _)]; exact h.c0
  · rw [cell_set_ne (ne _ _), cell_set_ne (ne _ _)]; exact h.c1
  · rw [cell_set_ne (ne _ _), cell_set_ne (ne _ _)]; exact h.c2

theorem Box3.other3 {w : World} {B C : Nat} {v0 v1 v2 : Value} (h : Box3 w B v0 v1 v2) (hne : B ≠ C) (u0 u1 u2 : Value) : Box3 (((w.setCell ⟨C, 0, none⟩ u0).setCell ⟨C, 1, none⟩ u1).setCell ⟨C, 2, none⟩ u2) B v0 v1 v2 := by
  have ne : ∀ j k, (⟨B, j, none⟩ : Addr) ≠ ⟨C, k, none⟩ := fun j k e => hne (by injection e)
  refine ⟨?_, ?_, ?_, fun j => by rw [World.frozen?_setCell, World.frozen?_setCell, World.frozen?_setCell]; exact h.fr j⟩
  · rw [cell_set_ne (ne _ _), cell_set_ne (ne _ _), cell_set_ne (ne _ _)]; exact h.c0
  · rw [cell_set_ne (ne _ _), cell_set_ne (ne _ _), cell_set_ne (ne _ _)]; exact h.c1
  · rw [cell_set_ne (ne _ _), cell_set_ne (ne _ _), cell_set_ne (ne _ _)]; exact h.c2

theorem Box.other3 {w : World} {B C : Nat} {v0 v1 : Value} (h : Box w B v0 v1) (hne : B ≠ C) (u0 u1 u2 : Value) : Box (((w.setCell ⟨C, 0, none⟩ u0).setCell ⟨C, 1, none⟩ u1).setCell ⟨C, 2, none⟩ u2) B v0 v1 := by
  have ne : ∀ j k, (⟨B, j, none⟩ : Addr) ≠ ⟨C, k, none⟩ := fun j k e => hne (by injection e)
  refine ⟨?_, ?_, fun j => by rw [World.frozen?_setCell, World.frozen?_setCell, World.frozen?_setCell]; exact h.fr j⟩
  · rw [cell_set_ne (ne _ _), cell_set_ne (ne _ _), cell_set_ne (ne _ _)]; exact h.c0
  · rw [cell_set_ne (ne _ _), cell_set_ne (ne _ _), cell_set_ne (ne _ _)]; exact h.c1

theorem below_set3 {w w' : World} {A B : Nat} (h : Below A w w') (hB : A ≤ B) (u0 u1 u2 : Value) : Below A w (((w'.setCell ⟨B, 0, none⟩ u0).setCell ⟨B, 1, none⟩ u1).setCell ⟨B, 2, none⟩ u2) := ((h.setCell (p := ⟨B, 0, none⟩) hB u0).setCell (p := ⟨B, 1, none⟩) hB u1).setCell (p := ⟨B, 2, none⟩) hB u2

theorem Sl.box3 {w : World} {ao : Option Addr} {n B : Nat} {f : Nat → Nat} {c : Bool} {p q : Option Addr} {k l k' l' : Nat} (h : Sl w ao n f) (z : Box3 w B (.bool c) (.slice p k l) (.slice q k' l')) (u0 u1 u2 : Value) : Sl (((w.setCell ⟨B, 0, none⟩ u0).setCell ⟨B, 1, none⟩ u1).setCell ⟨B, 2, none⟩ u2) ao n f := by
  rcases h with rfl | ⟨d, off, rfl, hc⟩
  · exact .inl rfl
  · refine .inr ⟨d, off, rfl, fun j hj => ?_⟩
    have e := hc j hj
    rw [cell_set_ne (fun e1 => by rw [e1, z.c2] at e; cases e), cell_set_ne (fun e1 => by rw [e1, z.c1] at e; cases e), cell_set_ne (fun e1 => by rw [e1, z.c0] at e; cases e)]
    exact e

theorem Right.box3 {w : World} {b : Bool} {ao : Option Addr} {n nc B : Nat} {x : Int} {c : Bool} {p q : Option Addr} {k l k' l' : Nat} (h : Right w b ao n nc x) (z : Box3 w B (.bool c) (.slice p k l) (.slice q k' l')) (u0 u1 u2 : Value) : Right (((w.setCell ⟨B, 0, none⟩ u0).setCell ⟨B, 1, none⟩ u1).setCell ⟨B, 2, none⟩ u2) b ao n nc x := by
  obtain ⟨f, h1, h2, h3, h4, h5⟩ := h.ex
  exact ⟨f, h1, h2, h3.box3 z u0 u1 u2, h4, h5⟩

theorem Whole.box3 {w : World} {b : Bool} {ao : Option Addr} {n nc B : Nat} {x : Int} {c : Bool} {p q : Option Addr} {k l k' l' : Nat} (h : Whole w b ao n nc x) (z : Box3 w B (.bool c) (.slice p k l) (.slice q k' l')) (u0 u1 u2 : Value) : Whole (((w.setCell ⟨B, 0, none⟩ u0).setCell ⟨B, 1, none⟩ u1).setCell ⟨B, 2, none⟩ u2) b ao n nc x := by
  obtain ⟨f, A, e⟩ := h.ex
  exact ⟨f, ⟨A.len, A.cap, A.few, A.sl.box3 z u0 u1 u2, A.lim⟩, e⟩

/-- A number as a call hands it back: top and bottom without noughts on top, a sign below 0 alone. -/
structure Rt (w : World) (b : Bool) (ao : Option Addr) (n nc : Nat) (bo : Option Addr) (m mc : Nat) (P : Int) (Q : Nat) : Prop where
  top : Right w b ao n nc P
  bot : Right w false bo m mc Q

theorem Rt.below {w w' : World} {b : Bool} {ao bo : Option Addr} {n nc m mc Q : Nat} {P : Int} (h : Rt w b ao n nc bo m mc P Q) (hb : Below w.heap.size w w') : Rt w' b ao n nc bo m mc P Q := ⟨h.top.below hb, h.bot.below hb⟩

theorem Rt.box {w : World} {b : Bool} {ao bo : Option Addr} {n nc m mc Q B : Nat} {P : Int} {c : Bool} {p : Option Addr} {k l : Nat} (h : Rt w b ao n nc bo m mc P Q) (z : Box w B (.bool c) (.slice p k l)) (u0 u1 : Value) : Rt ((w.setCell ⟨B, 0, none⟩ u0).setCell ⟨B, 1, none⟩ u1) b ao n nc bo m mc P Q := ⟨h.top.box z u0 u1, h.bot.box z u0 u1⟩

theorem Rt.box3 {w : World} {b : Bool} {ao bo : Option Addr} {n nc m mc Q B : Nat} {P : Int} {c : Bool} {p q : Option Addr} {k l k' l' : Nat} (h : Rt w b ao n nc bo m mc P Q) (z : Box3 w B (.bool c) (.slice p k l) (.slice q k' l')) (u0 u1 u2 : Value) : Rt (((w.setCell ⟨B, 0, none⟩ u0).setCell ⟨B, 1, none⟩ u1).setCell ⟨B, 2, none⟩ u2) b ao n nc bo m mc P Q := ⟨h.top.box3 z u0 u1 u2, h.bot.box3 z u0 u1 u2⟩

theorem Right.whole32 {w : World} {b : Bool} {ao : Option Addr} {n nc : Nat} {x : Int} (h : Right w b ao n nc x) (hx : x.natAbs < pw 32) : Whole w b ao n nc x := h.whole hx (by omega)

theorem Low.abs_lt {P : Int} {Q : Nat} (h : Low P Q) : P.natAbs < pw 32 := h.2.2.1

theorem Low.bot_lt {P : Int} {Q : Nat} (h : Low P Q) : (Q : Int).natAbs < pw 32 := by rw [Int.natAbs_natCast]; exact h.2.2.2

theorem Rt.upper {w : World} {b : Bool} {ao bo : Option Addr} {n nc m mc Q : Nat} {P : Int} (h : Rt w b ao n nc bo m mc P Q) (l : Low P Q) : Whole w b ao n nc P := h.top.whole32 l.abs_lt

theorem Rt.lower {w : World} {b : Bool} {ao bo : Option Addr} {n nc m mc Q : Nat} {P : Int} (h : Rt w b ao n nc bo m mc P Q) (l : Low P Q) : Whole w false bo m mc Q := h.bot.whole32 l.bot_lt

theorem rt_zero (w : World) : Rt w false none 0 0 none 0 0 0 0 := ⟨⟨fun _ => 0, Nat.le_refl _, by omega, .inl rfl, canon_zero _, rfl⟩, ⟨fun _ => 0, Nat.le_refl _, by omega, .inl rfl, canon_zero _, rfl⟩⟩

/-- A number and an error come back. -/
def ResPost (T : Int) (B : Nat) (E : Int) (w : World) (e : Ending) (w' : World) : Prop :=
  ∃ b ao n nc bo m mc, e = .returned (.tuple #[.agg #[.bool b, .slice ao n nc, .slice bo m mc], .int .i64 E]) ∧ Rt w' b ao n nc bo m mc T B ∧ Below w.heap.size w w'

/-- A number comes back. -/
def RatPost (T : Int) (B : Nat) (w : World) (e : Ending) (w' : World) : Prop :=
  ∃ b ao n nc bo m mc, e = .returned (.agg #[.bool b, .slice ao n nc, .slice bo m mc]) ∧ Rt w' b ao n nc bo m mc T B ∧ Below w.heap.size w w'

abbrev MakePost (p q : Int) := ResPost (mkT p q) (mkB p q) (mkE p q)

theorem ResPost.stored {w w2 : World} {b : Bool} {ao bo : Option Addr} {n nc m mc B Q : Nat} {T E : Int} {c : Bool} {p q : Option Addr} {k l k' l' : Nat} (h : Rt w2 b ao n nc bo m mc T Q) (z : Box3 w2 B (.bool c) (.slice p k l) (.slice q k' l')) (hb : Below w.heap.size w w2) (hB : w.heap.size ≤ B) :
    ResPost T Q E w (.returned (.tuple #[.agg #[.bool b, .slice ao n nc, .slice bo m mc], .int .i64 E])) (((w2.setCell ⟨B, 0, none⟩ (.bool b)).setCell ⟨B, 1, none⟩ (.slice ao n nc)).setCell ⟨B, 2, none⟩ (.slice bo m mc)) :=
  ⟨b, ao, n, nc, bo, m, mc, rfl, h.box3 z _ _ _, below_set3 hb hB _ _ _⟩

theorem RatPost.stored {w w2 : World} {b : Bool} {ao bo : Option Addr} {n nc m mc B Q : Nat} {T : Int} {c : Bool} {p q : Option Addr} {k l k' l' : Nat} (h : Rt w2 b ao n nc bo m mc T Q) (z : Box3 w2 B (.bool c) (.slice p k l) (.slice q k' l')) (hb : Below w.heap.size w w2) (hB : w.heap.size ≤ B) :
    RatPost T Q w (.returned (.agg #[.bool b, .slice ao n nc, .slice bo m mc])) (((w2.setCell ⟨B, 0, none⟩ (.bool b)).setCell ⟨B, 1, none⟩ (.slice ao n nc)).setCell ⟨B, 2, none⟩ (.slice bo m mc)) :=
  ⟨b, ao, n, nc, bo, m, mc, rfl, h.box3 z _ _ _, below_set3 hb hB _ _ _⟩

end Go.Proofs.YtmkjebembicljaaGreat
