/-
  Rational numbers: what Make tells of two whole ones (mkE the error, mkT the top with its sign, mkB the bottom), numbers in lowest terms ('Low'), facts on these; blocks of three cells ('Box3'); a number as a call hands it back ('Rt': its top and its bottom without noughts on top; 'ResPost': with an error; 'RatPost': without).
  scrimref03.Norm, Same, Neg, Sign; scrimlaw03.Mine, Theirs, few, same.
  Plain facts on the document's answers: numbers doubled, their bits, products and quotients bit by bit, the steps of a greatest divisor.
  scrimref02.Sub, twice and Bit.
  scrimref02.Mul, DivMod and Gcd.
  scrimref03.Add, Sub, Cmp, Mul.
  scrimref03.Sub, Cmp, Mul.
  ratio.Whole, Of, Sign, Neg, Abs, Cmp.
  scrimref02.Gcd of longer numbers.
  scrimref03.Of; scrimlaw03.awake: chapter 3's examples hold.
  scrimref04.Top, Bot, Make.
  scrimref02.Same of any limbs; scrimref04.Same, Right.
  scrimref04.Whole, Of, Neg, Mul, Div, Add, Sub, Cmp.
  What the laws of ratio ask for: a number as it is handed in; which ones are right; Make where it goes; brackets.
  slices.Equal of any limbs; ratio.Int, Gcd; scrimref04.IsWhole, Gcd.
  scrimref10.Number but for the product: what it tells of a right number.
-/
import Derived.Test.YtaepelipkkmeaaaGreatMgsA
import Derived.Test.YtaepelipkkmeaaaGreatMgsB
import Derived.Test.YtaepelipkkmeaaaGreatMgsC
import Derived.Test.YtaepelipkkmeaaaGreatMgsD
import Derived.Test.YtaepelipkkmeaaaGreatMgsE
import Derived.WalkKit
import Derived.Lib.Small
import Derived.Lib.Walk
import Derived.Lib.BitFns
import Derived.Deep.QuietTactic
import Derived.BigQuiet
import Derived.Deep.LoopGhost
import Derived.Laws.CopyOwn
import Derived.Deep.RegionWith
import Derived.WalkSpells
import Derived.WalkLawsBesides
import Derived.Lib.Hide
import Derived.Deep.RegionHeld3
import Derived.Deep.DrawnRows
import Derived.Deep.CutRange
namespace Go.Proofs.YtaepelipkkmeaaaGreat

open Go.RowKit Num

theorem low_zero {Q : Nat} (a : Low 0 Q) : Q = 1 := by have := a.2.1; simpa using this

theorem Low.abs {P : Int} {Q : Nat} (a : Low P Q) : Low P.natAbs Q := ⟨a.1, by rw [Int.natAbs_natCast]; exact a.2.1, by rw [Int.natAbs_natCast]; exact a.2.2.1, a.2.2.2⟩

end Go.Proofs.YtaepelipkkmeaaaGreat
namespace Go.Proofs.YtaepelipkkmeaaaGreat

open Go.RowKit Num

attribute [local go_sem ↓] Go.wp_at_zero Go.wp_at_succ

set_option maxHeartbeats 1000000 in
theorem rNeg_any (b : Bool) (ao : Option Addr) (n nc : Nat) (x : Int) (w : World) (A : Whole w b ao n nc x) :
    Calls Tryz.prog 159 #[.agg #[.bool b, .slice ao n nc]] w (IntPost (-x) w) := by
  have B : Whole w (!b) ao n nc (-x) := by
    obtain ⟨g, B, hy⟩ := A.ex
    exact ⟨g, B, by rw [sgn_not, hy]⟩
  have B' := Lib.hid B
  clear A B
  go_enter Tryz.func159, Tryz.ntmps159
  go_wp2_with fail
  refine gen_calls (fun w' => Below w.heap.size w w' ∧ Box w' w.heap.size (.bool b) (.slice ao n nc) ∧ Box w' (w.heap.size + 1) (.bool false) (.slice none 0 0))
    ⟨(((Below.refl _ w).alloc (Nat.le_refl _) _).alloc (by first | (simp; done) | (simp; omega)) _), ((Box.new _ _ _ rfl).alloc _), (Box.new _ _ _ (by first | (simp; done) | (simp; omega)))⟩ ?_
  rintro w0 ⟨hb0, x0, x1⟩
  refine (rNorm_any (!b) ao n nc (-x) _ (B'.out.below hb0)).mono ?_
  rintro e w1 ⟨sb, so, sn, sc, rfl, hR, hb⟩
  have z2 := x1.later hb
  have q1 := z2.c0; have q2 := z2.c1; have q3 := z2.fr 0; have q4 := z2.fr 1
  have z3 := z2.set (.bool sb) (.slice so sn sc)
  have e0 := z3.c0; have e1 := z3.c1
  have hR' := Lib.hid hR; have z2' := Lib.hid z2; have hb1' := Lib.hid (below_then hb0 (Nat.le_refl _) hb)
  clear hR z2 z3 hb hb0 x0 x1
  go_wp2_with fail
  refine bodyPost_ret (v := .agg #[.bool sb, .slice so sn sc]) (by simp [results, Tryz.results159, go_sem, e0, e1]) rfl ?_
  exact IntPost.stored hR'.out z2'.out hb1'.out (by omega)

set_option maxHeartbeats 1000000 in
theorem rSign_any (b : Bool) (ao : Option Addr) (n nc : Nat) (x : Int) (w : World) (A : Whole w b ao n nc x) :
    Calls Tryz.prog 118 #[.agg #[.bool b, .slice ao n nc]] w (Says (.int .i64 x.sign) w) := by
  have A' := Lib.hid A
  clear A
  go_enter Tryz.func118, Tryz.ntmps118
  go_wp2_with fail
  refine gen_calls (fun w' => Below w.heap.size w w' ∧ Box w' w.heap.size (.bool b) (.slice ao n nc))
    ⟨((Below.refl _ w).alloc (Nat.le_refl _) _), (Box.new _ _ _ rfl)⟩ ?_
  rintro w0 ⟨hb0, x0⟩
  refine (rNorm_any b ao n nc x _ (A'.out.below hb0)).mono ?_
  rintro e w1 ⟨sb, so, sn, sc, rfl, hR, hb⟩
  obtain ⟨f, r1, r2, r3, r4, r5⟩ := hR.ex
  have hb1 := Lib.hid (below_then hb0 (Nat.le_refl _) hb)
  have hz := Lib.hid r4.ne_zero; have hs := Lib.hid r5
  clear hR r1 r2 r3 r4 r5 hb hb0 x0
  by_cases h0 : sn = 0
  · subst h0
    have e : x = 0 := by have := hz.out; omega
    subst e
    go_wp2_with fail
    go_ret
    exact ⟨rfl, hb1.out.alloc hb1.out.size _⟩
  · have hx0 : x.natAbs ≠ 0 := fun e => h0 (hz.out.2 e)
    by_cases hn : x < 0
    · have : sb = true := by rw [hs.out]; simp [hn]
      subst this
      go_wp2_with fail
      go_ret
      exact ⟨ret_num (Int.sign_eq_neg_one_of_neg hn).symm, hb1.out.alloc hb1.out.size _⟩
    · have : sb = false := by rw [hs.out]; simp [hn]
      subst this
      go_wp2_with fail
      go_ret
      exact ⟨ret_num (Int.sign_eq_one_of_pos (show 0 < x by omega)).symm, hb1.out.alloc hb1.out.size _⟩

end Go.Proofs.YtaepelipkkmeaaaGreat
namespace Go.Proofs.YtaepelipkkmeaaaGreat.Num

theorem twice_step {S A c c' s x P b : Nat} (h : S + c * P = 2 * A + b) (e : s + 4294967296 * c' = 2 * x + c) : S + s * P + c' * (4294967296 * P) = 2 * (A + x * P) + b := by
  have e' := congrArg (· * P) e
  simp only [Nat.add_mul] at e'
  have h1 : c' * (4294967296 * P) = 4294967296 * c' * P := by rw [Nat.mul_left_comm, Nat.mul_assoc]
  have h2 : 2 * (A + x * P) = 2 * A + 2 * x * P := by rw [Nat.mul_add, Nat.mul_assoc]
  omega

theorem twice_end {S A c b n : Nat} (h : S + c * pw (n + 1) = 2 * A + b) (hA : A < pw n) (hb : b ≤ 1) : S = 2 * A + b := by
  have hp := pw_pos n
  rw [pw_succ] at h
  by_cases h0 : c = 0
  · subst h0; omega
  · have : 1 * (4294967296 * pw n) ≤ c * (4294967296 * pw n) := Nat.mul_le_mul_right _ (by omega)
    omega

theorem sub_end {S c A B P : Nat} (h : S + B = A + c * P) (hS : S < P) (hBA : B ≤ A) : S = A - B := by
  by_cases h0 : c = 0
  · subst h0; omega
  · have : 1 * P ≤ c * P := Nat.mul_le_mul_right _ (by omega)
    omega

/-- The i-th bit. -/
def bitAt (f : Nat → Nat) (n i : Nat) : Nat := at0 f n (i / 32) / 2 ^ (i % 32) % 2

theorem bitAt_le (f : Nat → Nat) (n i : Nat) : bitAt f n i ≤ 1 := by unfold bitAt; omega

theorem bit_low {a R s : Nat} (hs : s < 32) : (a + 4294967296 * R) / 2 ^ s % 2 = a / 2 ^ s % 2 := by
  have e : (4294967296 : Nat) = 2 ^ s * (2 * 2 ^ (31 - s)) := by
    have e1 : (2 : Nat) * 2 ^ (31 - s) = 2 ^ (32 - s) := by
      rw [Nat.mul_comm, ← Nat.pow_succ]
      congr 1
      omega
    rw [e1, ← Nat.pow_add]
    have : s + (32 - s) = 32 := by omega
    rw [this]
  have e2 : 4294967296 * R = 2 ^ s * (2 * (2 ^ (31 - s) * R)) := by
    rw [e]
    simp only [Nat.mul_assoc]
  rw [e2, Nat.add_mul_div_left _ _ (Nat.pow_pos (by decide))]
  omega

theorem val_bit {f : Nat → Nat} {n : Nat} (lf : Lim f n) (i : Nat) : val f n / 2 ^ i % 2 = bitAt f n i := by
  unfold bitAt
  have hi : i = 32 * (i / 32) + i % 32 := by omega
  have hp : (2 : Nat) ^ i = pw (i / 32) * 2 ^ (i % 32) := by
    rw [pw_two, ← Nat.pow_add, ← hi]
  rw [hp, ← Nat.div_div_eq_div_mul]
  generalize hm : i / 32 = m
  have hs : i % 32 < 32 := Nat.mod_lt _ (by decide)
  generalize i % 32 = s at hs
  by_cases h : m < n
  · rw [at0_in h]
    obtain ⟨d, rfl⟩ := Nat.le.dest (show m + 1 ≤ n by omega)
    have e : val f (m + 1 + d) = val f m + pw m * (f m + 4294967296 * val (fun j => f (m + 1 + j)) d) := by
      rw [val_add, val_succ, pw_succ, Nat.mul_add, Nat.mul_comm (f m), ← Nat.add_assoc]
      congr 1
      rw [Nat.mul_left_comm, Nat.mul_assoc, Nat.mul_left_comm]
    rw [e, Nat.add_mul_div_left _ _ (pw_pos m), Nat.div_eq_of_lt (val_lt (lf.mono (by omega))), Nat.zero_add]
    exact bit_low hs
  · rw [at0_out (by omega)]
    have : val f n < pw m := Nat.lt_of_lt_of_le (val_lt lf) (pw_le (by omega))
    rw [Nat.div_eq_of_lt this]

/-- The bits from place j on, and the one below. -/
theorem val_top {f : Nat → Nat} {n : Nat} (lf : Lim f n) (j : Nat) : val f n / 2 ^ j = 2 * (val f n / 2 ^ (j + 1)) + bitAt f n j := by
  rw [← val_bit lf j]
  have e : val f n / 2 ^ (j + 1) = val f n / 2 ^ j / 2 := by rw [Nat.pow_succ, Nat.div_div_eq_div_mul]
  rw [e]
  omega

theorem val_none {f : Nat → Nat} {n : Nat} (lf : Lim f n) : val f n / 2 ^ (32 * n) = 0 := by
  rw [← pw_two]; exact Nat.div_eq_of_lt (val_lt lf)

/-- A bit more: the quotient and the rest. -/
theorem div_bit {Z Y b : Nat} (hY : 0 < Y) (hb : b ≤ 1) :
    (Y ≤ 2 * (Z % Y) + b → (2 * Z + b) / Y = 2 * (Z / Y) + 1 ∧ (2 * Z + b) % Y = 2 * (Z % Y) + b - Y) ∧
    (2 * (Z % Y) + b < Y → (2 * Z + b) / Y = 2 * (Z / Y) ∧ (2 * Z + b) % Y = 2 * (Z % Y) + b) := by
  have e := Nat.div_add_mod Z Y
  have hr := Nat.mod_lt Z hY
  generalize hq : Z / Y = q at *
  generalize hm : Z % Y = r at *
  constructor
  · intro h
    have e1 : Y * (2 * q + 1) = 2 * (Y * q) + Y := by rw [Nat.mul_add, Nat.mul_left_comm]; omega
    exact (Nat.div_mod_unique hY).2 ⟨by omega, by omega⟩
  · intro h
    have e1 : Y * (2 * q) = 2 * (Y * q) := Nat.mul_left_comm _ _ _
    exact (Nat.div_mod_unique hY).2 ⟨by omega, by omega⟩

/-- A step of a greatest divisor halves the product. -/
theorem gcd_step {x y k T : Nat} (hyx : y < x) (hy : 0 < y) (h : x * y * 2 ^ k ≤ T) : x % y < y ∧ y * (x % y) * 2 ^ (k + 1) ≤ T := by
  have hm := Nat.mod_lt x hy
  refine ⟨hm, ?_⟩
  have e := Nat.div_add_mod x y
  have q1 : 1 ≤ x / y := (Nat.le_div_iff_mul_le hy).2 (by omega)
  have q2 : y * 1 ≤ y * (x / y) := Nat.mul_le_mul_left _ q1
  have h2 : 2 * (x % y) ≤ x := by omega
  have h3 : y * (x % y) * 2 ^ (k + 1) = y * (2 * (x % y)) * 2 ^ k := by
    rw [Nat.pow_succ, Nat.mul_comm (2 ^ k) 2, ← Nat.mul_assoc, Nat.mul_assoc y, Nat.mul_comm (x % y) 2]
  rw [h3]
  refine Nat.le_trans (Nat.mul_le_mul_right _ (Nat.mul_le_mul_left _ h2)) ?_
  rw [Nat.mul_comm y x]; exact h

theorem gcd_start {x y n m : Nat} (hx : x ≤ pw n) (hy : y ≤ pw n) (hm : 64 * n + 1 ≤ m) : x * y * 2 ^ 1 ≤ 2 ^ m := by
  have a : x * y ≤ pw n * pw n := Nat.mul_le_mul hx hy
  rw [pw_two, ← Nat.pow_add] at a
  have b : x * y * 2 ^ 1 ≤ 2 ^ (32 * n + 32 * n) * 2 ^ 1 := Nat.mul_le_mul_right _ a
  rw [← Nat.pow_add] at b
  exact Nat.le_trans b (Nat.pow_le_pow_right (by decide) (by omega))

theorem gcd_few {x y k m : Nat} (hyx : y < x) (hy : 0 < y) (h : x * y * 2 ^ k ≤ 2 ^ m) : k ≤ m := by
  have h1 : 1 ≤ x * y := Nat.mul_pos (by omega) hy
  have h2 : 1 * 2 ^ k ≤ x * y * 2 ^ k := Nat.mul_le_mul_right _ h1
  have h3 : 2 ^ k ≤ 2 ^ m := by omega
  exact (Nat.pow_le_pow_iff_right (by decide)).1 h3

end Go.Proofs.YtaepelipkkmeaaaGreat.Num
namespace Go.Proofs.YtaepelipkkmeaaaGreat

open Go.RowKit Num

set_option maxRecDepth 20000

set_option maxHeartbeats 1000000 in
theorem refSub_any (ao bo : Option Addr) (n nc m mc : Nat) (f g : Nat → Nat) (w : World) (A : Arg w ao n nc f) (B : Arg w bo m mc g) :
    Calls Tryz.prog 144 #[.slice ao n nc, .slice bo m mc] w (SubPost (val f n) (val g m) w) := by
  obtain ⟨i32, hi, hz0, hz1, hz2⟩ := info_parts info32
  have hA := Lib.hid A; have hB := Lib.hid B
  obtain ⟨hn, hnc, hnb, hf, lf⟩ := A
  obtain ⟨hm, hmc, hmb, hg, lg⟩ := B
  obtain ⟨N, hN0⟩ : ∃ N, N = max n m := ⟨_, rfl⟩
  have hnN : n ≤ N := by omega
  have hmN : m ≤ N := by omega
  have hNb : N ≤ 1000000 := by omega
  have hN := Lib.hid hN0
  have hlf := Lib.hid lf; have hlg := Lib.hid lg; have hsf := Lib.hid hf; have hsg := Lib.hid hg
  clear hN0 hf hg lf lg
  go_enter Tryz.func144, Tryz.ntmps144
  go_wp2_with fail
  refine (refCmp_any ao bo n nc m mc f g w hA.out hB.out).mono ?_
  by_cases hlt0 : val f n < val g m
  · rw [cmpI_lt (Int.ofNat_lt.2 hlt0)]
    have hlt := Lib.hid hlt0
    clear hlt0
    rintro e w' ⟨rfl, rfl⟩
    go_wp2_with fail
    go_ret2
    exact ⟨Below.refl _ _, .inl ⟨hlt.out, rfl⟩⟩
  have hge := Lib.hid (Nat.le_of_not_lt hlt0)
  have hcm : 0 ≤ cmpI (val f n) (val g m) := by
    unfold cmpI
    rw [if_neg (by omega)]
    split <;> decide
  clear hlt0
  generalize cmpI (val f n : Int) (val g m : Int) = cm at hcm ⊢
  rintro e w' ⟨rfl, rfl⟩
  go_wp2_with fail
  go_loopw [6, 7, 8] (fun v c i wr => ∃ (j : Nat) (F : Nat → Nat) (cn : Nat), j ≤ N ∧ i = .int .i64 j ∧ c = .int .u64 cn ∧ cn ≤ 1 ∧ wr.ownsRow w.heap.size 104 1 v j (limbCells F j) ∧ Lim F j ∧
      val F j + val (at0 g m) j = val (at0 f n) j + cn * pw j ∧ Below w.heap.size w wr) (fun _ _ i _ => N - (intOf i).toNat)
  case atStart => exact ⟨0, fun _ => 0, 0, Nat.zero_le _, rfl, rfl, by omega, World.ownsRow_nil _ _ _ _, fun j h => by omega, rfl, Below.refl _ _⟩
  case round =>
    obtain ⟨j, F, cn, hj, rfl, rfl, hc, hown0, hlim0, hval0, hbel0⟩ := hrel
    have hown := Lib.hid hown0; have hlim := Lib.hid hlim0; have hval := Lib.hid hval0; have hbel := Lib.hid hbel0
    clear hown0 hlim0 hval0 hbel0
    have bf := at0_lt hlf.out j
    have bg := at0_lt hlg.out j
    go_wp2_with fail
    refine (longer_any ao bo n nc m mc _).mono ?_
    rw [← hN.out]
    rintro e w' ⟨rfl, rfl⟩
    by_cases hlt : j < N
    · go_wp2_with fail
      refine (refLimb_any ao n nc j f wr (by omega) (hsf.out.below hbel.out) hlf.out).mono ?_
      rw [Int.toNat_natCast]
      rintro e w' ⟨rfl, rfl⟩
      go_wp2_with fail
      refine (refLimb_any bo m mc j g wr (by omega) (hsg.out.below hbel.out) hlg.out).mono ?_
      rw [Int.toNat_natCast]
      rintro e w' ⟨rfl, rfl⟩
      go_wp2_with (at_builtin; refine wpList_append_limb rfl (.tmp 31) (.tmp 35) 22 rfl w.heap.size 104 i32 Tryz.underlying22 hi hz0 hz1 hz2 _ j F _ _ ((4294967296 + at0 f n j - at0 g m j - cn) % 4294967296) rfl rfl hown.out (by omega) (by omega) hbel.out.size ?_)
      intro v' w1 hown1 hb1
      have hown' := Lib.hid hown1; have hbel' := Lib.hid (hbel.out.trans hb1)
      clear hown1 hb1
      go_wp2_with fail
      go_roundw
      case rel =>
        refine ⟨j + 1, put F j ((4294967296 + at0 f n j - at0 g m j - cn) % 4294967296), 1 - (4294967296 + at0 f n j - at0 g m j - cn) / 4294967296, by omega, by go_num, int_eq (by omega), by omega, hown'.out, ?_, ?_, hbel'.out⟩
        · exact put_snoc_lim hlim.out (Nat.mod_lt _ (by decide))
        · rw [val_put_succ, val_succ, val_succ, pw_succ]
          exact dif_step hval.out (by omega)
      case measure => simp [intOf]; omega
    · obtain rfl : j = N := by omega
      obtain ⟨ao', cap', rfl, g1, g2, g3⟩ := owns_slice hown.out
      have A' := Lib.hid (show Arg wr ao' j cap' F from ⟨g1, g2, by omega, g3, hlim.out⟩)
      have hown' := Lib.hid hown.out
      clear g3
      go_wp2_with fail
      refine (refNorm_any ao' j cap' F wr A'.out).mono ?_
      rintro e w2 ⟨bo', p, pc, h, rfl, hp, hpc, hsp, hcp, hb⟩
      have hsp' := Lib.hid hsp; have hcp' := Lib.hid hcp; have hbel' := Lib.hid (hbel.out.trans (hb.mono hbel.out.size))
      clear hsp hcp hb
      go_wp2_with fail
      go_ret2
      refine ⟨hbel'.out, .inr ⟨hge.out, bo', p, pc, h, rfl, hp, hpc, hsp'.out, ?_⟩⟩
      have e1 := hval.out
      rw [val_at0_ge hnN, val_at0_ge hmN] at e1
      rw [← sub_end e1 (val_lt hlim.out) hge.out]
      exact hcp'.out

set_option maxHeartbeats 1000000 in
theorem twice_any (ao : Option Addr) (n nc b : Nat) (f : Nat → Nat) (w : World) (A : Arg w ao n nc f) (hnb' : n < 1000000) (hb : b ≤ 1) :
    Calls Tryz.prog 142 #[.slice ao n nc, .int .u32 b] w (NumPost (2 * val f n + b) w) := by
  obtain ⟨i32, hi, hz0, hz1, hz2⟩ := info_parts info32
  obtain ⟨hn, hnc, hnb, hf, lf⟩ := A
  have hlf := Lib.hid lf; have hsf := Lib.hid hf
  clear hf lf
  go_enter Tryz.func142, Tryz.ntmps142
  go_wp2_with fail
  go_loopw [5, 6, 7] (fun v c i wr => ∃ (j : Nat) (F : Nat → Nat) (cn : Nat), j ≤ n + 1 ∧ i = .int .i64 j ∧ c = .int .u64 cn ∧ cn ≤ 1 ∧ wr.ownsRow w.heap.size 104 1 v j (limbCells F j) ∧ Lim F j ∧
      val F j + cn * pw j = 2 * val (at0 f n) j + b ∧ Below w.heap.size w wr) (fun _ _ i _ => n + 1 - (intOf i).toNat)
  case atStart => exact ⟨0, fun _ => 0, b, Nat.zero_le _, rfl, rfl, hb, World.ownsRow_nil _ _ _ _, fun j h => by omega, by simp [val, pw], Below.refl _ _⟩
  case round =>
    obtain ⟨j, F, cn, hj, rfl, rfl, hc, hown0, hlim0, hval0, hbel0⟩ := hrel
    have hown := Lib.hid hown0; have hlim := Lib.hid hlim0; have hval := Lib.hid hval0; have hbel := Lib.hid hbel0
    clear hown0 hlim0 hval0 hbel0
    have bf := at0_lt hlf.out j
    by_cases hlt : j < n + 1
    · go_wp2_with fail
      refine (refLimb_any ao n nc j f wr (by omega) (hsf.out.below hbel.out) hlf.out).mono ?_
      rw [Int.toNat_natCast]
      rintro e w' ⟨rfl, rfl⟩
      go_wp2_with (at_builtin; refine wpList_append_limb rfl (.tmp 23) (.tmp 27) 22 rfl w.heap.size 104 i32 Tryz.underlying22 hi hz0 hz1 hz2 _ j F _ _ ((2 * at0 f n j + cn) % 4294967296) rfl rfl hown.out (by omega) (by omega) hbel.out.size ?_)
      intro v' w1 hown1 hb1
      have hown' := Lib.hid hown1; have hbel' := Lib.hid (hbel.out.trans hb1)
      clear hown1 hb1
      go_wp2_with fail
      go_roundw
      case rel =>
        refine ⟨j + 1, put F j ((2 * at0 f n j + cn) % 4294967296), (2 * at0 f n j + cn) / 4294967296, by omega, by go_num, int_eq (by omega), by omega, hown'.out, ?_, ?_, hbel'.out⟩
        · exact put_snoc_lim hlim.out (Nat.mod_lt _ (by decide))
        · rw [val_put_succ, val_succ, pw_succ]
          exact twice_step hval.out (by omega)
      case measure => simp [intOf]; omega
    · obtain rfl : j = n + 1 := by omega
      obtain ⟨ao', cap', rfl, g1, g2, g3⟩ := owns_slice hown.out
      have A' := Lib.hid (show Arg wr ao' (n + 1) cap' F from ⟨g1, g2, by omega, g3, hlim.out⟩)
      have hown' := Lib.hid hown.out
      clear g3
      go_wp2_with fail
      refine (refNorm_any ao' (n + 1) cap' F wr A'.out).mono ?_
      rintro e w2 ⟨bo', p, pc, h, rfl, hp, hpc, hsp, hcp, hb⟩
      have hsp' := Lib.hid hsp; have hcp' := Lib.hid hcp; have hbel' := Lib.hid (hbel.out.trans (hb.mono hbel.out.size))
      clear hsp hcp hb
      go_wp2_with fail
      go_ret
      refine ⟨bo', p, pc, h, rfl, hp, hpc, hsp'.out, ?_, hbel'.out⟩
      have e1 := hval.out
      rw [val_at0_ge (Nat.le_succ n)] at e1
      rw [← twice_end e1 (val_lt hlf.out) (by omega)]
      exact hcp'.out

set_option maxHeartbeats 1000000 in
theorem bit_any (ao : Option Addr) (n nc : Nat) (i : Int) (f : Nat → Nat) (w : World) (i0 : 0 ≤ i) (i1 : i ≤ 1000000000) (hf : Sl w ao n f) (lf : Lim f n) :
    Calls Tryz.prog 143 #[.slice ao n nc, .int .i64 i] w fun e w' => e = .returned (.int .u32 (bitAt f n i.toNat)) ∧ w = w' := by
  obtain ⟨i, rfl⟩ := Int.eq_ofNat_of_zero_le i0
  rw [Int.toNat_natCast]
  have hb := at0_lt lf (i / 32)
  obtain ⟨x, hx⟩ : ∃ x, x = at0 f n (i / 32) := ⟨_, rfl⟩
  have hx' := Lib.hid hx
  rw [← hx] at hb
  have hsf := Lib.hid hf; have hlf := Lib.hid lf
  clear hf lf hx
  go_enter Tryz.func143, Tryz.ntmps143
  go_wp2_with fail
  refine (refLimb_any ao n nc _ f w (by omega) hsf.out hlf.out).mono ?_
  rw [show ((i : Int) / 32).toNat = i / 32 by omega, ← hx'.out]
  rintro e w' ⟨rfl, rfl⟩
  go_wp2_with fail
  go_loop [5, 6] (fun v k => ∃ t y : Nat, t ≤ i % 32 ∧ k = .int .i64 t ∧ v = .int .u64 y ∧ y < 4294967296 ∧ y = x / 2 ^ t) (fun _ k => i % 32 - (intOf k).toNat)
  case atStart => exact ⟨0, x, Nat.zero_le _, rfl, rfl, hb, by simp⟩
  case round =>
    obtain ⟨t, y, ht, rfl, rfl, hd, hy0⟩ := hrel
    have hy := Lib.hid hy0
    clear hy0
    by_cases hlt : t < i % 32
    · go_wp2_with fail
      go_round
      case rel => exact ⟨t + 1, y / 2, by omega, by go_num, int_eq (by omega), by omega, by rw [hy.out, Nat.pow_succ, Nat.div_div_eq_div_mul]⟩
      case measure => simp [intOf]; omega
    · obtain rfl : t = i % 32 := by omega
      go_wp2_with fail
      go_ret
      refine ⟨ret_num ?_, rfl⟩
      unfold bitAt
      rw [← hx'.out, ← hy.out]
      omega

end Go.Proofs.YtaepelipkkmeaaaGreat
namespace Go.Proofs.YtaepelipkkmeaaaGreat

open Go.RowKit Num

theorem small' {v k K : Nat} (h : v < pw k) (hk : k ≤ K) : v < pw K := Nat.lt_of_lt_of_le h (pw_le hk)

/-- A number in new memory, short enough to go on with. -/
theorem Num.Canon.few {w : World} {ao : Option Addr} {n nc v k : Nat} {f : Nat → Nat} (h : Canon v n f) (hs : Sl w ao n f) (hn : n ≤ nc) (hc : nc ≤ 9223372036854775807) (hv : v < pw k) (hk : k ≤ 1000000) : Arg w ao n nc f ∧ n ≤ k :=
  ⟨⟨hn, hc, Nat.le_trans (h.len_le hv) hk, hs, h.lim⟩, h.len_le hv⟩

theorem half_lt {X j n : Nat} (h : X < pw n) : X / 2 ^ j < pw n := Nat.lt_of_le_of_lt (Nat.div_le_self _ _) h

set_option maxHeartbeats 2000000 in
theorem refDivMod_any (ao bo : Option Addr) (n nc m mc : Nat) (f g : Nat → Nat) (w : World) (A : Arg w ao n nc f) (B : Arg w bo m mc g) (hn40 : n ≤ 1000) (hm40 : m ≤ 1000) :
    Calls Tryz.prog 99 #[.slice ao n nc, .slice bo m mc] w (DivPost (val f n) (val g m) w) := by
  have hA := Lib.hid A; have hB := Lib.hid B
  have hX := Lib.hid (val_lt A.lim); have hY := Lib.hid (val_lt B.lim)
  obtain ⟨X, hX0⟩ : ∃ X, X = val f n := ⟨_, rfl⟩
  obtain ⟨Y, hY0⟩ : ∃ Y, Y = val g m := ⟨_, rfl⟩
  rw [← hX0, ← hY0]
  rw [← hX0] at hX
  rw [← hY0] at hY
  have hX' := Lib.hid hX0; have hY' := Lib.hid hY0
  clear A B hX0 hY0
  go_enter Tryz.func99, Tryz.ntmps99
  go_wp2_with fail
  refine (refNorm_any bo m mc g w hB.out).mono ?_
  rw [← hY'.out]
  rintro e w1 ⟨no, q, qc, h, rfl, hq, hqc, hsh, hch, hb⟩
  have hbel1 := Lib.hid hb; have hne := Lib.hid hch.ne_zero
  clear hsh hch hb
  by_cases hq0 : q = 0
  · have hYz := Lib.hid (hne.out.1 hq0)
    clear hne
    subst hq0
    go_wp2_with fail
    go_ret3
    exact ⟨hbel1.out, .inl ⟨hYz.out, rfl⟩⟩
  have hY0 : 0 < Y := Nat.pos_of_ne_zero (fun e => hq0 (hne.out.2 e))
  have hqb : ((q : Int) == 0) = false := by simp [hq0]
  go_wp2_with fail
  clear hqb hq0
  go_loopw [7, 8, 9] (fun v r i wr => ∃ (j : Nat) (co : Option Addr) (k kc : Nat) (F : Nat → Nat) (eo : Option Addr) (l lc : Nat) (G : Nat → Nat), j ≤ 32 * n ∧ i = .int .i64 ((j : Int) - 1) ∧ v = .slice co k kc ∧ r = .slice eo l lc ∧ k ≤ kc ∧ kc ≤ 9223372036854775807 ∧ l ≤ lc ∧ lc ≤ 9223372036854775807 ∧
      Sl wr co k F ∧ Canon (X / 2 ^ j / Y) k F ∧ Sl wr eo l G ∧ Canon (X / 2 ^ j % Y) l G ∧ Below w.heap.size w wr)
    (fun _ _ i _ => (intOf i + 1).toNat)
  case atStart =>
    refine ⟨32 * n, none, 0, 0, fun _ => 0, none, 0, 0, fun _ => 0, Nat.le_refl _, int_eq (by omega), rfl, rfl, Nat.le_refl _, by omega, Nat.le_refl _, by omega, .inl rfl, ?_, .inl rfl, ?_, hbel1.out⟩
    · rw [hX'.out, val_none hA.out.lim, Nat.zero_div]
      exact canon_zero _
    · rw [hX'.out, val_none hA.out.lim, Nat.zero_mod]
      exact canon_zero _
  case round =>
    obtain ⟨j, co, k, kc, F, eo, l, lc, G, hj, rfl, rfl, rfl, hk, hkc, hl, hlc, hsF0, hcF0, hsG0, hcG0, hbel0⟩ := hrel
    have hsF := Lib.hid hsF0; have hcF := Lib.hid hcF0; have hsG := Lib.hid hsG0; have hcG := Lib.hid hcG0; have hbel := Lib.hid hbel0
    clear hsF0 hcF0 hsG0 hcG0 hbel0
    by_cases h0 : j = 0
    · subst h0
      go_wp2_with fail
      go_ret3
      refine ⟨hbel.out, .inr ⟨Nat.pos_iff_ne_zero.1 hY0, co, k, kc, F, eo, l, lc, G, rfl, hk, hkc, hl, hlc, hsF.out, ?_, hsG.out, ?_⟩⟩
      · have e := hcF.out
        rw [Nat.pow_zero, Nat.div_one] at e
        exact e
      · have e := hcG.out
        rw [Nat.pow_zero, Nat.div_one] at e
        exact e
    · obtain ⟨s, rfl⟩ : ∃ s, j = s + 1 := ⟨j - 1, by omega⟩
      have bq := Nat.lt_of_le_of_lt (Nat.div_le_self (X / 2 ^ (s + 1)) Y) (half_lt (j := s + 1) hX.out)
      have br := Nat.lt_of_lt_of_le (Nat.mod_lt (X / 2 ^ (s + 1)) hY0) (Nat.le_of_lt hY.out)
      obtain ⟨hQ, hkn⟩ := hcF.out.few hsF.out hk hkc bq (by omega)
      obtain ⟨hR, hlm⟩ := hcG.out.few hsG.out hl hlc br (by omega)
      have hQ' := Lib.hid hQ; have hR' := Lib.hid hR; have br' := Lib.hid br
      clear hQ hR bq br h0
      go_wp2_with fail
      refine (bit_any ao n nc _ f wr (by omega) (by omega) (hA.out.below hbel.out).sl hA.out.lim).mono ?_
      rw [show (s : Int).toNat = s from Int.toNat_natCast s]
      rintro e w' ⟨rfl, rfl⟩
      have htop := val_top hA.out.lim s
      rw [← hX'.out] at htop
      have hbl := bitAt_le f n s
      obtain ⟨b, hbb⟩ : ∃ b, b = bitAt f n s := ⟨_, rfl⟩
      rw [← hbb] at htop hbl ⊢
      have htop' := Lib.hid htop
      clear htop hbb
      obtain ⟨dv1, dv2⟩ := div_bit (Z := X / 2 ^ (s + 1)) hY0 hbl
      have dv1' := Lib.hid dv1; have dv2' := Lib.hid dv2
      clear dv1 dv2
      go_wp2_with fail
      refine (twice_any eo l lc b G wr hR'.out (by omega) hbl).mono ?_
      rw [hcG.out.val]
      rintro e w2 ⟨xo, p, pc, H, rfl, hp, hpc, hsp, hcp, hb⟩
      have hT : 2 * (X / 2 ^ (s + 1) % Y) + b < pw (m + 1) := by
        have e1 : pw (m + 1) = 4294967296 * pw m := pw_succ m
        have := br'.out
        omega
      obtain ⟨hD, hp2⟩ := hcp.few hsp hp hpc hT (by omega)
      have hD' := Lib.hid hD; have hsp' := Lib.hid hsp; have hcp' := Lib.hid hcp; have hb' := Lib.hid (hbel.out.trans (hb.mono hbel.out.size)); have hQ2 := Lib.hid (hQ'.out.below hb)
      clear hsp hcp hb hD hT
      go_wp2_with fail
      refine (refSub_any xo bo p pc m mc H g w2 hD'.out (hB.out.below hb'.out)).mono ?_
      rw [hcp'.out.val, ← hY'.out]
      rintro e w3 ⟨hb3, h3⟩
      have hb3' := Lib.hid (hb'.out.trans (hb3.mono hb'.out.size)); have hQ3 := Lib.hid (hQ2.out.below hb3); have hsp3 := Lib.hid (hsp'.out.below hb3)
      clear hb3
      rcases h3 with ⟨hlt, rfl⟩ | ⟨hge, yo, y, yc, I, rfl, hy, hyc, hsI, hcI⟩
      · have d := dv2'.out hlt
        have d' := Lib.hid d
        clear d hlt
        go_wp2_with fail
        refine (twice_any co k kc 0 F w3 hQ3.out (by omega) (by omega)).mono ?_
        rw [hcF.out.val]
        rintro e w4 ⟨zo, z, zc, J, rfl, hz, hzc, hsz, hcz, hb4⟩
        have hsz' := Lib.hid hsz; have hcz' := Lib.hid hcz; have hb4' := Lib.hid (hb3'.out.trans (hb4.mono hb3'.out.size)); have hsp4 := Lib.hid (hsp3.out.below hb4)
        clear hsz hcz hb4
        go_wp2_with fail
        go_roundw
        case rel =>
          refine ⟨s, zo, z, zc, J, xo, p, pc, H, by omega, int_eq (by omega), rfl, rfl, hz, hzc, hp, hpc, hsz'.out, ?_, hsp4.out, ?_, hb4'.out⟩
          · rw [htop'.out, d'.out.1]; exact hcz'.out
          · rw [htop'.out, d'.out.2]; exact hcp'.out
        case measure => simp [intOf]
      · have d := dv1'.out hge
        have d' := Lib.hid d; have hsI' := Lib.hid hsI; have hcI' := Lib.hid hcI
        clear d hge hsI hcI
        go_wp2_with fail
        refine (twice_any co k kc 1 F w3 hQ3.out (by omega) (by omega)).mono ?_
        rw [hcF.out.val]
        rintro e w4 ⟨zo, z, zc, J, rfl, hz, hzc, hsz, hcz, hb4⟩
        have hsz' := Lib.hid hsz; have hcz' := Lib.hid hcz; have hb4' := Lib.hid (hb3'.out.trans (hb4.mono hb3'.out.size)); have hsI4 := Lib.hid (hsI'.out.below hb4)
        clear hsz hcz hb4
        go_wp2_with fail
        go_roundw
        case rel =>
          refine ⟨s, zo, z, zc, J, yo, y, yc, I, by omega, int_eq (by omega), rfl, rfl, hz, hzc, hy, hyc, hsz'.out, ?_, hsI4.out, ?_, hb4'.out⟩
          · rw [htop'.out, d'.out.1]; exact hcz'.out
          · rw [htop'.out, d'.out.2]; exact hcI'.out
        case measure => simp [intOf]

end Go.Proofs.YtaepelipkkmeaaaGreat
namespace Go.Proofs.YtaepelipkkmeaaaGreat

open Go.RowKit Num

attribute [local go_sem ↓] Go.wp_at_zero Go.wp_at_succ

theorem sum_small {u v k : Nat} (hk : k + 1 ≤ 1000000) (hu : u < pw k) (hv : v < pw k) : u + v < pw 1000000 := by
  have e : pw (k + 1) = 4294967296 * pw k := rfl
  exact Nat.lt_of_lt_of_le (m := pw (k + 1)) (by omega) (pw_le hk)

theorem Whole.drew {w : World} {b : Bool} {ao : Option Addr} {n nc : Nat} {x : Int} (h : Whole w b ao n nc x) : Whole w.drew b ao n nc x := h.below (Below.refl _ w).drew

set_option maxHeartbeats 4000000 in
theorem rAdd_any (b c : Bool) (ao bo : Option Addr) (n nc m mc : Nat) (x y : Int) (w : World) (A : Whole w b ao n nc x) (B : Whole w c bo m mc y) (M : Nat) (hM : M ≤ 1000) (hx : x.natAbs < pw M) (hy : y.natAbs < pw M) :
    Calls Tryz.prog 128 #[.agg #[.bool b, .slice ao n nc], .agg #[.bool c, .slice bo m mc]] w (IntPost (x + y) w) := by
  have A' := Lib.hid A; have B' := Lib.hid B
  clear A B
  go_enter Tryz.func128, Tryz.ntmps128
  go_upto_region 1 with fail
  refine gen_wp (fun w' => Below w.heap.size w w' ∧ Box w' w.heap.size (.bool b) (.slice ao n nc) ∧ Box w' (w.heap.size + 1) (.bool c) (.slice bo m mc) ∧ Box w' (w.heap.size + 2) (.bool false) (.slice none 0 0))
    ⟨((((Below.refl _ w).alloc (Nat.le_refl _) _).alloc (by first | (simp; done) | (simp; omega)) _).alloc (by first | (simp; done) | (simp; omega)) _), (((Box.new _ _ _ rfl).alloc _).alloc _), ((Box.new _ _ _ (by first | (simp; done) | (simp; omega))).alloc _), (Box.new _ _ _ (by first | (simp; done) | (simp; omega)))⟩ ?_
  rintro w0 ⟨hb0, x0, x1, x2⟩
  go_cut [5, 6] from 11 to 14 (fun s t wx => ∃ P Q sb so sn sc tb to_ tn tc, s = .pointer (some ⟨P, 0, none⟩) ∧ t = .pointer (some ⟨Q, 0, none⟩) ∧ Box wx P (.bool sb) (.slice so sn sc) ∧ Box wx Q (.bool tb) (.slice to_ tn tc) ∧ Box wx (w.heap.size + 2) (.bool false) (.slice none 0 0) ∧ 
    w.heap.size ≤ P ∧ w.heap.size ≤ Q ∧ P ≠ Q ∧ P ≠ w.heap.size + 2 ∧ Q ≠ w.heap.size + 2 ∧ Right wx sb so sn sc x ∧ Right wx tb to_ tn tc y ∧ Below w.heap.size w wx)
  case first =>
    have l0 := x0.lt; have l1 := x1.lt; have l2 := x2.lt; have gs0 := hb0.size
    have gb0 := hb0
    have A0 := A'.out.below gb0; have B0 := B'.out.below gb0
    go_region_held3 (fun w' => w'.cell? ⟨w.heap.size, 0, none⟩ = some (.bool b) ∧ w'.cell? ⟨w.heap.size, 1, none⟩ = some (.slice ao n nc) ∧ w'.cell? ⟨w.heap.size + 1, 0, none⟩ = some (.bool c) ∧ w'.cell? ⟨w.heap.size + 1, 1, none⟩ = some (.slice bo m mc))
      (first | with_reducible exact ⟨x0.drew.c0, x0.drew.c1, x1.drew.c0, x1.drew.c1⟩ | with_reducible exact ⟨(x0.alloc _).drew.c0, (x0.alloc _).drew.c1, (x1.alloc _).drew.c0, (x1.alloc _).drew.c1⟩ | with_reducible exact ⟨((x0.alloc _).alloc _).drew.c0, ((x0.alloc _).alloc _).drew.c1, ((x1.alloc _).alloc _).drew.c0, ((x1.alloc _).alloc _).drew.c1⟩ | with_reducible exact ⟨y0.c0, y0.c1, y1.c0, y1.c1⟩ | with_reducible exact ⟨(y0.alloc _).c0, (y0.alloc _).c1, (y1.alloc _).c0, (y1.alloc _).c1⟩ | with_reducible exact ⟨((y0.alloc _).alloc _).c0, ((y0.alloc _).alloc _).c1, ((y1.alloc _).alloc _).c0, ((y1.alloc _).alloc _).c1⟩ | with_reducible exact ⟨z0.c0, z0.c1, z1.c0, z1.c1⟩ | with_reducible exact ⟨(z0.alloc _).c0, (z0.alloc _).c1, (z1.alloc _).c0, (z1.alloc _).c1⟩ | with_reducible exact ⟨((z0.alloc _).alloc _).c0, ((z0.alloc _).alloc _).c1, ((z1.alloc _).alloc _).c0, ((z1.alloc _).alloc _).c1⟩ | with_reducible exact ⟨(z0.other (by omega) _ _).c0, (z0.other (by omega) _ _).c1, (z1.other (by omega) _ _).c0, (z1.other (by omega) _ _).c1⟩ | with_reducible exact ⟨((z0.other (by omega) _ _).alloc _).c0, ((z0.other (by omega) _ _).alloc _).c1, ((z1.other (by omega) _ _).alloc _).c0, ((z1.other (by omega) _ _).alloc _).c1⟩ | with_reducible exact ⟨((z0.other (by omega) _ _).other (by omega) _ _).c0, ((z0.other (by omega) _ _).other (by omega) _ _).c1, ((z1.other (by omega) _ _).other (by omega) _ _).c0, ((z1.other (by omega) _ _).other (by omega) _ _).c1⟩ | go_keep)
      (first
      | (go_at_call_of 95 ao; refine (rNorm_any b ao n nc x _ ?_).mono ?_; (first | with_reducible exact A0.drew | with_reducible exact (A0.alloc _).drew | with_reducible exact ((A0.alloc _).alloc _).drew); rintro e w1 ⟨sb, so, sn, sc, rfl, hR1, hb1⟩; have hc1 : Below w0.heap.size w0 w1 := (by (first | exact (Below.refl _ _).drew.trans hb1 | exact ((Below.refl _ _).alloc (by first | exact Nat.le_refl _ | (simp; done) | (simp; omega)) _).drew.trans (hb1.mono (by first | (simp; done) | (simp; omega))) | exact (((Below.refl _ _).alloc (by first | exact Nat.le_refl _ | (simp; done) | (simp; omega)) _).alloc (by first | exact Nat.le_refl _ | (simp; done) | (simp; omega)) _).drew.trans (hb1.mono (by first | (simp; done) | (simp; omega))))); have hz1 := hc1.size; have y0 := x0.later hc1; have ly0 := y0.lt; have y1 := x1.later hc1; have ly1 := y1.lt; have y2 := x2.later hc1; have ly2 := y2.lt; have B1 := B0.below hc1; have gb1 := below_then gb0 (Nat.le_refl _) hc1; have gs1 := gb1.size; (first | (with_reducible have mm := made2' hb1; obtain ⟨m10, m11⟩ := mm) | (with_reducible have m10 := made1' hb1) | skip); (try have k10 := m10.lt); (try have k11 := m11.lt))
      | (go_at_call_of 95 bo; refine (rNorm_any c bo m mc y _ ?_).mono ?_; (first | with_reducible exact B1 | with_reducible exact (B1.alloc _) | with_reducible exact ((B1.alloc _).alloc _)); rintro e w2 ⟨tb, to_, tn, tc, rfl, hR2, hb2⟩; have hc2 : Below w1.heap.size w1 w2 := (by (first | with_reducible exact hb2 | exact ((Below.refl _ _).alloc (by first | exact Nat.le_refl _ | (simp; done) | (simp; omega)) _).trans (hb2.mono (by first | (simp; done) | (simp; omega))) | exact (((Below.refl _ _).alloc (by first | exact Nat.le_refl _ | (simp; done) | (simp; omega)) _).alloc (by first | exact Nat.le_refl _ | (simp; done) | (simp; omega)) _).trans (hb2.mono (by first | (simp; done) | (simp; omega))))); have hz2 := hc2.size; have z0 := y0.later hc2; have lz0 := z0.lt; have z1 := y1.later hc2; have lz1 := z1.lt; have z2 := y2.later hc2; have lz2 := z2.lt; have hR1 := hR1.below hc2; have gb2 := below_then gb1 (Nat.le_refl _) hc2; have gs2 := gb2.size; (try have m10 := m10.later hc2); (try have m11 := m11.later hc2); (first | (with_reducible have mm := made2 hb2; obtain ⟨m20, m21⟩ := mm) | (with_reducible have m20 := made1 hb2) | skip); (try have k10 := m10.lt); (try have k11 := m11.lt); (try have k20 := m20.lt); (try have k21 := m21.lt); (try (have f100 := m10.c0; have f101 := m10.c1; have f102 := m10.fr 0; have f103 := m10.fr 1)); (try (have f110 := m11.c0; have f111 := m11.c1; have f112 := m11.fr 0; have f113 := m11.fr 1)); (try (have f200 := m20.c0; have f201 := m20.c1; have f202 := m20.fr 0; have f203 := m20.fr 1)); (try (have f210 := m21.c0; have f211 := m21.c1; have f212 := m21.fr 0; have f213 := m21.fr 1))))
    · go_wp2_with fail; go_meet; exact ⟨_, _, _, _, _, _, _, _, _, _, rfl, rfl, ((Box.new _ _ _ (by first | rfl | (simp; done))).alloc _), (Box.new _ _ _ (by first | rfl | (simp; done))), ((z2.alloc _).alloc _), by first | omega | (simp; omega), by first | omega | (simp; omega), by first | omega | (simp; omega), by first | omega | (simp; omega), by first | omega | (simp; omega), ((hR1.alloc _).alloc _), ((hR2.alloc _).alloc _), (Below.alloc (Below.alloc gb2 (by first | omega | (simp; omega) | (simp; done)) _) (by first | omega | (simp; omega) | (simp; done)) _)⟩
    · go_wp2_with fail; go_meet; exact ⟨_, _, _, _, _, _, _, _, _, _, rfl, rfl, (Box.new _ _ _ (by first | rfl | (simp; done))), ((Box.new _ _ _ (by first | rfl | (simp; done))).alloc _), ((z2.alloc _).alloc _), by first | omega | (simp; omega), by first | omega | (simp; omega), by first | omega | (simp; omega), by first | omega | (simp; omega), by first | omega | (simp; omega), ((hR1.alloc _).alloc _), ((hR2.alloc _).alloc _), (Below.alloc (Below.alloc gb2 (by first | omega | (simp; omega) | (simp; done)) _) (by first | omega | (simp; omega) | (simp; done)) _)⟩
    · go_wp2_with fail; go_meet; exact ⟨_, _, _, _, _, _, _, _, _, _, rfl, rfl, ((m20.set _ _).alloc _), (Box.new _ _ _ (by first | rfl | (simp; done))), ((z2.other (by omega) _ _).alloc _), by first | omega | (simp; omega), by first | omega | (simp; omega), by first | omega | (simp; omega), by first | omega | (simp; omega), by first | omega | (simp; omega), ((hR1.box m20 _ _).alloc _), ((hR2.box m20 _ _).alloc _), (Below.alloc (below_set gb2 (by omega) _ _) (by first | omega | (simp; omega) | (simp; done)) _)⟩
    · go_wp2_with fail; go_meet; exact ⟨_, _, _, _, _, _, _, _, _, _, rfl, rfl, ((m20.set _ _).other (by omega) _ _), ((m21.other (by omega) _ _).set _ _), ((z2.other (by omega) _ _).other (by omega) _ _), by first | omega | (simp; omega), by first | omega | (simp; omega), by first | omega | (simp; omega), by first | omega | (simp; omega), by first | omega | (simp; omega), ((hR1.box m20 _ _).box (m21.other (by omega) _ _) _ _), ((hR2.box m20 _ _).box (m21.other (by omega) _ _) _ _), (below_set (below_set gb2 (by omega) _ _) (by omega) _ _)⟩
    · go_wp2_with fail; go_meet; exact ⟨_, _, _, _, _, _, _, _, _, _, rfl, rfl, (Box.new _ _ _ (by first | rfl | (simp; done))), ((m20.set _ _).alloc _), ((z2.other (by omega) _ _).alloc _), by first | omega | (simp; omega), by first | omega | (simp; omega), by first | omega | (simp; omega), by first | omega | (simp; omega), by first | omega | (simp; omega), ((hR1.box m20 _ _).alloc _), ((hR2.box m20 _ _).alloc _), (Below.alloc (below_set gb2 (by omega) _ _) (by first | omega | (simp; omega) | (simp; done)) _)⟩
    · go_wp2_with fail; go_meet; exact ⟨_, _, _, _, _, _, _, _, _, _, rfl, rfl, ((m21.set _ _).other (by omega) _ _), ((m20.other (by omega) _ _).set _ _), ((z2.other (by omega) _ _).other (by omega) _ _), by first | omega | (simp; omega), by first | omega | (simp; omega), by first | omega | (simp; omega), by first | omega | (simp; omega), by first | omega | (simp; omega), ((hR1.box m21 _ _).box (m20.other (by omega) _ _) _ _), ((hR2.box m21 _ _).box (m20.other (by omega) _ _) _ _), (below_set (below_set gb2 (by omega) _ _) (by omega) _ _)⟩
    · go_wp2_with fail; go_meet; exact ⟨_, _, _, _, _, _, _, _, _, _, rfl, rfl, ((m10.set _ _).alloc _), (Box.new _ _ _ (by first | rfl | (simp; done))), ((z2.other (by omega) _ _).alloc _), by first | omega | (simp; omega), by first | omega | (simp; omega), by first | omega | (simp; omega), by first | omega | (simp; omega), by first | omega | (simp; omega), ((hR1.box m10 _ _).alloc _), ((hR2.box m10 _ _).alloc _), (Below.alloc (below_set gb2 (by omega) _ _) (by first | omega | (simp; omega) | (simp; done)) _)⟩
    · go_wp2_with fail; go_meet; exact ⟨_, _, _, _, _, _, _, _, _, _, rfl, rfl, ((m10.set _ _).other (by omega) _ _), ((m20.other (by omega) _ _).set _ _), ((z2.other (by omega) _ _).other (by omega) _ _), by first | omega | (simp; omega), by first | omega | (simp; omega), by first | omega | (simp; omega), by first | omega | (simp; omega), by first | omega | (simp; omega), ((hR1.box m10 _ _).box (m20.other (by omega) _ _) _ _), ((hR2.box m10 _ _).box (m20.other (by omega) _ _) _ _), (below_set (below_set gb2 (by omega) _ _) (by omega) _ _)⟩
    · go_wp2_with fail; go_meet; exact ⟨_, _, _, _, _, _, _, _, _, _, rfl, rfl, ((m10.set _ _).other (by omega) _ _), ((m11.other (by omega) _ _).set _ _), ((z2.other (by omega) _ _).other (by omega) _ _), by first | omega | (simp; omega), by first | omega | (simp; omega), by first | omega | (simp; omega), by first | omega | (simp; omega), by first | omega | (simp; omega), ((hR1.box m10 _ _).box (m11.other (by omega) _ _) _ _), ((hR2.box m10 _ _).box (m11.other (by omega) _ _) _ _), (below_set (below_set gb2 (by omega) _ _) (by omega) _ _)⟩
    · go_wp2_with fail; go_meet; exact ⟨_, _, _, _, _, _, _, _, _, _, rfl, rfl, (Box.new _ _ _ (by first | rfl | (simp; done))), ((m10.set _ _).alloc _), ((z2.other (by omega) _ _).alloc _), by first | omega | (simp; omega), by first | omega | (simp; omega), by first | omega | (simp; omega), by first | omega | (simp; omega), by first | omega | (simp; omega), ((hR1.box m10 _ _).alloc _), ((hR2.box m10 _ _).alloc _), (Below.alloc (below_set gb2 (by omega) _ _) (by first | omega | (simp; omega) | (simp; done)) _)⟩
    · go_wp2_with fail; go_meet; exact ⟨_, _, _, _, _, _, _, _, _, _, rfl, rfl, ((m20.set _ _).other (by omega) _ _), ((m10.other (by omega) _ _).set _ _), ((z2.other (by omega) _ _).other (by omega) _ _), by first | omega | (simp; omega), by first | omega | (simp; omega), by first | omega | (simp; omega), by first | omega | (simp; omega), by first | omega | (simp; omega), ((hR1.box m20 _ _).box (m10.other (by omega) _ _) _ _), ((hR2.box m20 _ _).box (m10.other (by omega) _ _) _ _), (below_set (below_set gb2 (by omega) _ _) (by omega) _ _)⟩
    · go_wp2_with fail; go_meet; exact ⟨_, _, _, _, _, _, _, _, _, _, rfl, rfl, ((m11.set _ _).other (by omega) _ _), ((m10.other (by omega) _ _).set _ _), ((z2.other (by omega) _ _).other (by omega) _ _), by first | omega | (simp; omega), by first | omega | (simp; omega), by first | omega | (simp; omega), by first | omega | (simp; omega), by first | omega | (simp; omega), ((hR1.box m11 _ _).box (m10.other (by omega) _ _) _ _), ((hR2.box m11 _ _).box (m10.other (by omega) _ _) _ _), (below_set (below_set gb2 (by omega) _ _) (by omega) _ _)⟩
  case rest =>
    obtain ⟨P, Q, sb, so, sn, sc, tb, to_, tn, tc, rfl, rfl, p5, p6, p4, gP, gQ, hPQ, n1, n2, hR, hS, hbw⟩ := hcut
    obtain ⟨f, f1, f2, f3, f4, f5⟩ := hR.ex
    obtain ⟨g, g1, g2, g3, g4, g5⟩ := hS.ex
    have FA := Lib.hid (f4.few f3 f1 f2 hx (by omega)); have GA := Lib.hid (g4.few g3 g1 g2 hy (by omega))
    have fv := Lib.hid f4.val; have gv := Lib.hid g4.val
    have xs : Hid (x = sgn sb x.natAbs) := Lib.hid (by rw [f5]; exact (sgn_self x).symm)
    have ys : Hid (y = sgn tb y.natAbs) := Lib.hid (by rw [g5]; exact (sgn_self y).symm)
    have b5 := Lib.hid p5; have b6 := Lib.hid p6; have b4 := Lib.hid p4; have hbw' := Lib.hid hbw
    clear hR hS f3 f4 f5 g3 g4 g5 hbw x0 x1 x2 hb0 f1 f2 g1 g2
    have c50 := p5.c0; have c60 := p6.c0
    clear p4
    by_cases hst : sb = tb
    · subst hst
      clear p5 p6
      go_wp2_with fail
      have a0 := b5.out.drew; have a1 := b6.out.drew; have a2 := b4.out.drew
      go_region_held3 (fun w' => w'.cell? ⟨P, 0, none⟩ = some (.bool sb) ∧ w'.cell? ⟨P, 1, none⟩ = some (.slice so sn sc) ∧ w'.cell? ⟨Q, 1, none⟩ = some (.slice to_ tn tc))
        (first | with_reducible exact ⟨a0.c0, a0.c1, a1.c1⟩ | with_reducible exact ⟨d0.c0, d0.c1, d1.c1⟩ | with_reducible exact ⟨i0.c0, i0.c1, i1.c1⟩ | with_reducible exact ⟨(i0.other n1 _ _).c0, (i0.other n1 _ _).c1, (i1.other n2 _ _).c1⟩ | go_keep)
        (first
        | (go_at_call 141; refine (refAdd_any so to_ sn sc tn tc f g _ (FA.out.1.below (Below.refl _ _).drew) (GA.out.1.below (Below.refl _ _).drew) (by have := FA.out.2; have := GA.out.2; omega)).mono ?_; rintro e w3 ⟨ko, kn, kc, k, rfl, k1, k2, k3, k4, hb3⟩; have hb3 := (Below.refl _ _).drew.trans hb3; have d0 := b5.out.later hb3; have d1 := b6.out.later hb3; have d2 := b4.out.later hb3; have hb4 := below_then hbw'.out (Nat.le_refl _) hb3)
        | (go_at_call 95; refine (rNorm_any sb ko kn kc (x + y) _ ⟨k, k4.arg k3 k1 k2 (sum_small (k := M) (by omega) (by rw [fv.out]; exact hx) (by rw [gv.out]; exact hy)), by rw [k4.val, fv.out, gv.out, ← sgn_add, ← xs.out, ← ys.out]⟩).mono ?_; rintro e w5 ⟨vb, vo, vn, vc, rfl, hR, hb5⟩; have i0 := d0.later hb5; have i1 := d1.later hb5; have i2 := d2.later hb5; have hb6 := below_then hb4 (Nat.le_refl _) hb5; have q1 := i2.c0; have q2 := i2.c1; have q3 := i2.fr 0; have q4 := i2.fr 1))
      have z9 := i2.set (.bool vb) (.slice vo vn vc)
      have e0 := z9.c0; have e1 := z9.c1
      clear z9
      go_wp2_with fail
      refine bodyPost_ret (v := .agg #[.bool vb, .slice vo vn vc]) (by simp [results, Tryz.results128, go_sem, e0, e1]) rfl ?_
      exact IntPost.stored hR i2 hb6 (by omega)
    · have hst' : (sb == tb) = false := by simp [hst]
      have c51 := p5.c1; have c61 := p6.c1
      clear p5 p6
      go_wp2_with fail
      refine (refCmp_any so to_ sn sc tn tc f g _ FA.out.1 GA.out.1).mono ?_
      rw [fv.out, gv.out]
      rintro e w' ⟨rfl, rfl⟩
      rcases Nat.lt_trichotomy x.natAbs y.natAbs with hle | heq | hgt
      · rw [cmpI_lt (Int.ofNat_lt.2 hle)]
        clear c50 c60
        go_wp2_with fail
        refine (refSub_any to_ so tn tc sn sc g f _ GA.out.1 FA.out.1).mono ?_
        rw [fv.out, gv.out]
        rintro e w3 ⟨hb3, h⟩
        rcases h with ⟨h, _⟩ | ⟨_, ko, kn, kc, k, rfl, k1, k2, k3, k4⟩
        · omega
        have d := (b6.out.later hb3).c0
        have z4 := Lib.hid (b4.out.later hb3)
        have hb4 := Lib.hid (below_then hbw'.out (Nat.le_refl _) hb3)
        have hW := Lib.hid (show Whole w3 tb ko kn kc (x + y) from ⟨k, k4.arg k3 k1 k2 (Nat.lt_of_le_of_lt (Nat.sub_le _ _) (small2 (k := M) (by omega) hy)), by
          rw [k4.val, ← sgn_sub (fun e => hst e.symm) (Nat.le_of_lt hle), ← xs.out, ← ys.out, Int.add_comm]⟩)
        clear hb3 k3 k4 c51 c61
        go_wp2_with fail
        refine (rNorm_any tb ko kn kc (x + y) _ hW.out).mono ?_
        rintro e w5 ⟨vb, vo, vn, vc, rfl, hR, hb5⟩
        have z5 := z4.out.later hb5
        have q1 := z5.c0; have q2 := z5.c1; have q3 := z5.fr 0; have q4 := z5.fr 1
        have z9 := z5.set (.bool vb) (.slice vo vn vc)
        have e0 := z9.c0; have e1 := z9.c1
        have hb6 := Lib.hid (below_then hb4.out (Nat.le_refl _) hb5); have hR' := Lib.hid hR; have z5' := Lib.hid z5
        clear z9 z5 hR hb5 d
        go_wp2_with fail
        refine bodyPost_ret (v := .agg #[.bool vb, .slice vo vn vc]) (by simp [results, Tryz.results128, go_sem, e0, e1]) rfl ?_
        exact IntPost.stored hR'.out z5'.out hb6.out (by omega)
      · have hle : y.natAbs ≤ x.natAbs := Nat.le_of_eq heq.symm
        rw [cmpI_eq (show (x.natAbs : Int) = y.natAbs by rw [heq])]
        clear c50 c60
        go_wp2_with fail
        refine (refSub_any so to_ sn sc tn tc f g _ FA.out.1 GA.out.1).mono ?_
        rw [fv.out, gv.out]
        rintro e w3 ⟨hb3, h⟩
        rcases h with ⟨h, _⟩ | ⟨_, ko, kn, kc, k, rfl, k1, k2, k3, k4⟩
        · omega
        have d := (b5.out.later hb3).c0
        have z4 := Lib.hid (b4.out.later hb3)
        have hb4 := Lib.hid (below_then hbw'.out (Nat.le_refl _) hb3)
        have hW := Lib.hid (show Whole w3 sb ko kn kc (x + y) from ⟨k, k4.arg k3 k1 k2 (Nat.lt_of_le_of_lt (Nat.sub_le _ _) (small2 (k := M) (by omega) hx)), by
          rw [k4.val, ← sgn_sub hst hle, ← xs.out, ← ys.out]⟩)
        clear hb3 k3 k4 c51 c61
        go_wp2_with fail
        refine (rNorm_any sb ko kn kc (x + y) _ hW.out).mono ?_
        rintro e w5 ⟨vb, vo, vn, vc, rfl, hR, hb5⟩
        have z5 := z4.out.later hb5
        have q1 := z5.c0; have q2 := z5.c1; have q3 := z5.fr 0; have q4 := z5.fr 1
        have z9 := z5.set (.bool vb) (.slice vo vn vc)
        have e0 := z9.c0; have e1 := z9.c1
        have hb6 := Lib.hid (below_then hb4.out (Nat.le_refl _) hb5); have hR' := Lib.hid hR; have z5' := Lib.hid z5
        clear z9 z5 hR hb5 d
        go_wp2_with fail
        refine bodyPost_ret (v := .agg #[.bool vb, .slice vo vn vc]) (by simp [results, Tryz.results128, go_sem, e0, e1]) rfl ?_
        exact IntPost.stored hR'.out z5'.out hb6.out (by omega)
      · have hle : y.natAbs ≤ x.natAbs := Nat.le_of_lt hgt
        rw [cmpI_gt (Int.ofNat_lt.2 hgt)]
        clear c50 c60
        go_wp2_with fail
        refine (refSub_any so to_ sn sc tn tc f g _ FA.out.1 GA.out.1).mono ?_
        rw [fv.out, gv.out]
        rintro e w3 ⟨hb3, h⟩
        rcases h with ⟨h, _⟩ | ⟨_, ko, kn, kc, k, rfl, k1, k2, k3, k4⟩
        · omega
        have d := (b5.out.later hb3).c0
        have z4 := Lib.hid (b4.out.later hb3)
        have hb4 := Lib.hid (below_then hbw'.out (Nat.le_refl _) hb3)
        have hW := Lib.hid (show Whole w3 sb ko kn kc (x + y) from ⟨k, k4.arg k3 k1 k2 (Nat.lt_of_le_of_lt (Nat.sub_le _ _) (small2 (k := M) (by omega) hx)), by
          rw [k4.val, ← sgn_sub hst hle, ← xs.out, ← ys.out]⟩)
        clear hb3 k3 k4 c51 c61
        go_wp2_with fail
        refine (rNorm_any sb ko kn kc (x + y) _ hW.out).mono ?_
        rintro e w5 ⟨vb, vo, vn, vc, rfl, hR, hb5⟩
        have z5 := z4.out.later hb5
        have q1 := z5.c0; have q2 := z5.c1; have q3 := z5.fr 0; have q4 := z5.fr 1
        have z9 := z5.set (.bool vb) (.slice vo vn vc)
        have e0 := z9.c0; have e1 := z9.c1
        have hb6 := Lib.hid (below_then hb4.out (Nat.le_refl _) hb5); have hR' := Lib.hid hR; have z5' := Lib.hid z5
        clear z9 z5 hR hb5 d
        go_wp2_with fail
        refine bodyPost_ret (v := .agg #[.bool vb, .slice vo vn vc]) (by simp [results, Tryz.results128, go_sem, e0, e1]) rfl ?_
        exact IntPost.stored hR'.out z5'.out hb6.out (by omega)

end Go.Proofs.YtaepelipkkmeaaaGreat
namespace Go.Proofs.YtaepelipkkmeaaaGreat

open Go.RowKit Num

attribute [local go_sem ↓] Go.wp_at_zero Go.wp_at_succ

set_option maxHeartbeats 1000000 in
theorem rSub_any (b c : Bool) (ao bo : Option Addr) (n nc m mc : Nat) (x y : Int) (w : World) (A : Whole w b ao n nc x) (B : Whole w c bo m mc y) (M : Nat) (hM : M ≤ 1000) (hx : x.natAbs < pw M) (hy : y.natAbs < pw M) :
    Calls Tryz.prog 119 #[.agg #[.bool b, .slice ao n nc], .agg #[.bool c, .slice bo m mc]] w (IntPost (x - y) w) := by
  have A' := Lib.hid A; have B' := Lib.hid B
  clear A B
  go_enter Tryz.func119, Tryz.ntmps119
  go_wp2_with fail
  refine gen_wp (fun w' => Below w.heap.size w w' ∧ Box w' w.heap.size (.bool b) (.slice ao n nc) ∧ Box w' (w.heap.size + 1) (.bool c) (.slice bo m mc) ∧ Box w' (w.heap.size + 2) (.bool false) (.slice none 0 0))
    ⟨((((Below.refl _ w).alloc (Nat.le_refl _) _).alloc (by first | (simp; done) | (simp; omega)) _).alloc (by first | (simp; done) | (simp; omega)) _), (((Box.new _ _ _ rfl).alloc _).alloc _), ((Box.new _ _ _ (by first | (simp; done) | (simp; omega))).alloc _), (Box.new _ _ _ (by first | (simp; done) | (simp; omega)))⟩ ?_
  rintro w0 ⟨hb0, x0, x1, x2⟩
  have hb0 := hb0.drew; have x0 := x0.drew; have x1 := x1.drew; have x2 := x2.drew
  go_region_held3 (fun w' => w'.cell? ⟨w.heap.size, 0, none⟩ = some (.bool b) ∧ w'.cell? ⟨w.heap.size, 1, none⟩ = some (.slice ao n nc) ∧ w'.cell? ⟨w.heap.size + 1, 0, none⟩ = some (.bool c) ∧ w'.cell? ⟨w.heap.size + 1, 1, none⟩ = some (.slice bo m mc))
    (first | with_reducible exact ⟨x0.c0, x0.c1, x1.c0, x1.c1⟩ | with_reducible exact ⟨y0.c0, y0.c1, y1.c0, y1.c1⟩ | with_reducible exact ⟨z0.c0, z0.c1, z1.c0, z1.c1⟩ | with_reducible exact ⟨(z0.other (by omega) _ _).c0, (z0.other (by omega) _ _).c1, (z1.other (by omega) _ _).c0, (z1.other (by omega) _ _).c1⟩ | go_keep)
    (first
    | (go_at_call 159; refine (rNeg_any c bo m mc y _ (B'.out.below hb0)).mono ?_; rintro e w1 ⟨tb, to_, tn, tc, rfl, hT, hb⟩; have y0 := x0.later hb; have y1 := x1.later hb; have y2 := x2.later hb; have hb1 := below_then hb0 (Nat.le_refl _) hb)
    | (go_at_call 128; refine (rAdd_any b tb ao to_ n nc tn tc x (-y) _ (A'.out.below hb1) (hT.whole (k := M) (by rw [Int.natAbs_neg]; exact hy) (by omega)) M hM hx (by rw [Int.natAbs_neg]; exact hy)).mono ?_; rintro e w2 ⟨sb, so, sn, sc, rfl, hR, hb2⟩; have z0 := y0.later hb2; have z1 := y1.later hb2; have z2 := y2.later hb2; have hb3 := below_then hb1 (Nat.le_refl _) hb2; have q1 := z2.c0; have q2 := z2.c1; have q3 := z2.fr 0; have q4 := z2.fr 1))
  have z3 := z2.set (.bool sb) (.slice so sn sc)
  have e0 := z3.c0; have e1 := z3.c1
  clear z3
  go_wp2_with fail
  refine bodyPost_ret (v := .agg #[.bool sb, .slice so sn sc]) (by simp [results, Tryz.results119, go_sem, e0, e1]) rfl ?_
  rw [Int.sub_eq_add_neg]
  exact IntPost.stored hR z2 hb3 (by omega)

theorem sub_abs {x y : Int} {M : Nat} (hx : x.natAbs < pw M) (hy : y.natAbs < pw M) : (x - y).natAbs < pw (M + 1) := by
  have e : pw (M + 1) = 4294967296 * pw M := rfl
  omega

set_option maxHeartbeats 1000000 in
theorem rCmp_any (b c : Bool) (ao bo : Option Addr) (n nc m mc : Nat) (x y : Int) (w : World) (A : Whole w b ao n nc x) (B : Whole w c bo m mc y) (M : Nat) (hM : M ≤ 1000) (hx : x.natAbs < pw M) (hy : y.natAbs < pw M) :
    Calls Tryz.prog 96 #[.agg #[.bool b, .slice ao n nc], .agg #[.bool c, .slice bo m mc]] w (Says (.int .i64 (cmpI x y)) w) := by
  have A' := Lib.hid A; have B' := Lib.hid B
  clear A B
  go_enter Tryz.func96, Tryz.ntmps96
  go_wp2_with fail
  refine gen_calls (fun w' => Below w.heap.size w w' ∧ Box w' w.heap.size (.bool b) (.slice ao n nc) ∧ Box w' (w.heap.size + 1) (.bool c) (.slice bo m mc))
    ⟨(((Below.refl _ w).alloc (Nat.le_refl _) _).alloc (by first | (simp; done) | (simp; omega)) _), ((Box.new _ _ _ rfl).alloc _), (Box.new _ _ _ (by first | (simp; done) | (simp; omega)))⟩ ?_
  rintro w0 ⟨hb0, x0, x1⟩
  refine (rSub_any b c ao bo n nc m mc x y _ (A'.out.below hb0) (B'.out.below hb0) M hM hx hy).mono ?_
  rintro e w1 ⟨sb, so, sn, sc, rfl, hR, hb⟩
  have hb1 := Lib.hid (below_then hb0 (Nat.le_refl _) hb)
  have hW := Lib.hid (hR.whole (sub_abs hx hy) (by omega))
  clear hR hb hb0 x0 x1
  go_wp2_with fail
  refine (rSign_any sb so sn sc (x - y) _ hW.out).mono ?_
  rintro e w2 ⟨rfl, hb2⟩
  have hb3 := Lib.hid (below_then hb1.out (Nat.le_refl _) hb2)
  clear hb2
  go_wp2_with fail
  go_ret
  refine ⟨ret_num ?_, hb3.out⟩
  rcases Int.lt_trichotomy x y with h | h | h
  · rw [cmpI_lt h, Int.sign_eq_neg_one_of_neg (by omega)]
  · rw [cmpI_eq h, h, Int.sub_self]; rfl
  · rw [cmpI_gt h, Int.sign_eq_one_of_pos (by omega)]

attribute [local go_sem] field0

end Go.Proofs.YtaepelipkkmeaaaGreat
namespace Go.Proofs.YtaepelipkkmeaaaGreat

open Go.RowKit Num

attribute [local go_sem ↓] Go.wp_at_zero Go.wp_at_succ

theorem Whole.nat {w : World} {b : Bool} {ao : Option Addr} {n nc : Nat} {x : Int} (h : Whole w b ao n nc x) : Whole w false ao n nc x.natAbs := by
  obtain ⟨f, A, rfl⟩ := h.ex
  exact ⟨f, A, by rw [sgn_abs]; rfl⟩

set_option maxHeartbeats 1000000 in
theorem abs_any (ab : Bool) (ap aq : Option Addr) (an ac am ae : Nat) (P : Int) (Q : Nat) (w : World) (A : Rt w ab ap an ac aq am ae P Q) (lA : Low P Q) :
    Calls Tryz.prog 55 #[.agg #[.bool ab, .slice ap an ac, .slice aq am ae]] w (RatPost (P.natAbs) Q w) := by
  have lA' := Lib.hid lA
  have A' := Lib.hid A
  clear lA A
  go_enter Tryz.func55, Tryz.ntmps55
  go_wp2_with fail
  refine gen_wp (fun w' => Below w.heap.size w w' ∧ Box3 w' w.heap.size (.bool ab) (.slice ap an ac) (.slice aq am ae) ∧ Box3 w' (w.heap.size + 1) (.bool false) (.slice none 0 0) (.slice none 0 0))
    ⟨(((Below.refl _ _).alloc (Nat.le_refl _) _).alloc (by first | (simp; done) | (simp; omega)) _), ((Box3.new _ _ _ _ rfl).alloc _), (Box3.new _ _ _ _ (by first | (simp; done) | (simp; omega)))⟩ ?_
  rintro w0 ⟨bb, x0, x1⟩
  have bb := bb.drew; have x0 := x0.drew; have x1 := x1.drew
  have A := A'.out.below bb
  clear A'
  have sb0 := True.intro
  go_region_held3 (fun w' => w'.cell? ⟨w.heap.size, 0, none⟩ = some (.bool ab) ∧ w'.cell? ⟨w.heap.size, 1, none⟩ = some (.slice ap an ac) ∧ w'.cell? ⟨w.heap.size, 2, none⟩ = some (.slice aq am ae))
    (first | with_reducible exact ⟨x0.c0, x0.c1, x0.c2⟩ | with_reducible exact ⟨(x0.other3 (by omega) _ _ _).c0, (x0.other3 (by omega) _ _ _).c1, (x0.other3 (by omega) _ _ _).c2⟩ | go_keep)
    (first
    | (go_at_call 115; clear sb0; refine (wNorm_any false ap an ac P.natAbs _ (A.upper lA'.out).nat).mono ?_; rintro e w' ⟨eb, eo, en, ec, rfl, h1, hb⟩; have bb := below_then bb (Nat.le_refl _) hb; have x0 := x0.later hb; have x1 := x1.later hb; have A := A.below hb; clear hb; have sb1 := True.intro)
    | (go_at_call 105; clear sb1; refine (over_w eb eo aq en ec am ae (P.natAbs) Q _ h1 (A.lower lA'.out)).mono ?_; rintro e w' ⟨gb, gp, gn, gc, gq, gm, ge, rfl, hR, hb⟩; have bb := below_then bb (Nat.le_refl _) hb; have x0 := x0.later hb; have x1 := x1.later hb; have A := A.below hb; have h1 := h1.below hb; clear hb; have q0 := x1.c0; have q1 := x1.c1; have q2 := x1.c2; have q3 := x1.fr 0; have q4 := x1.fr 1; have q5 := x1.fr 2; have sb2 := True.intro))
  have z := x1.set (.bool gb) (.slice gp gn gc) (.slice gq gm ge)
  have e0 := z.c0; have e1 := z.c1; have e2 := z.c2
  have x1' := Lib.hid x1; have bb' := Lib.hid bb; have hR' := Lib.hid hR
  clear z x1 bb x0 A hR
  go_wp2_with fail
  refine bodyPost_ret (v := .agg #[.bool gb, .slice gp gn gc, .slice gq gm ge]) (by simp [results, Tryz.results55, go_sem, e0, e1, e2]) rfl ?_
  exact RatPost.stored hR'.out x1'.out bb'.out (by omega)

end Go.Proofs.YtaepelipkkmeaaaGreat
namespace Go.Proofs.YtaepelipkkmeaaaGreat

open Go.RowKit Num

set_option maxRecDepth 100000 in
set_option maxHeartbeats 2000000 in
theorem refGcdL_any (ao bo : Option Addr) (n nc m mc : Nat) (f g : Nat → Nat) (w : World) (A : Arg w ao n nc f) (B : Arg w bo m mc g) (L : Nat) (hL : L ≤ 1000) (hn40 : n ≤ L) (hm40 : m ≤ L) :
    Calls Tryz.prog 98 #[.slice ao n nc, .slice bo m mc] w (NumPost (Nat.gcd (val f n) (val g m)) w) := by
  have hA := Lib.hid A; have hB := Lib.hid B
  have hX := Lib.hid (small' (val_lt A.lim) hn40); have hY := Lib.hid (small' (val_lt B.lim) hm40)
  obtain ⟨X, hX0⟩ : ∃ X, X = val f n := ⟨_, rfl⟩
  obtain ⟨Y, hY0⟩ : ∃ Y, Y = val g m := ⟨_, rfl⟩
  obtain ⟨D, hD0⟩ : ∃ D, D = Nat.gcd X Y := ⟨_, rfl⟩
  rw [← hX0, ← hY0, ← hD0]
  rw [← hX0] at hX
  rw [← hY0] at hY
  obtain ⟨P, hP0⟩ : ∃ P, P = pw L := ⟨_, rfl⟩
  have hL' := Lib.hid hL
  obtain ⟨M, hM0⟩ : ∃ M, M = 64 * L + 1 := ⟨_, rfl⟩
  obtain ⟨K, hK0⟩ : ∃ K, K = M + 2 := ⟨_, rfl⟩
  have hK : Hid (M + 2 = K) := Lib.hid hK0.symm
  have hKl : K < 64010 := by omega
  have hKl' := Lib.hid hKl
  clear hK0
  obtain ⟨T, hT0⟩ : ∃ T, T = 2 ^ M := ⟨_, rfl⟩
  have hT := Lib.hid hT0
  have hM' : Hid (64 * L + 1 ≤ M) := Lib.hid (by omega)
  clear hT0 hM0 hL
  rw [← hP0] at hX hY
  have hX' := Lib.hid hX0; have hY' := Lib.hid hY0; have hD' := Lib.hid hD0; have hP' := Lib.hid hP0
  clear A B hX0 hY0 hD0 hP0
  go_enter Tryz.func98, Tryz.ntmps98
  go_wp2_with fail
  refine (refNorm_any ao n nc f w hA.out).mono ?_
  rw [← hX'.out]
  rintro e w1 ⟨co, q, qc, h, rfl, hq, hqc, hsh, hch, hb⟩
  have hsh' := Lib.hid hsh; have hch' := Lib.hid hch; have hbel := Lib.hid hb
  clear hsh hch hb
  go_wp2_with fail
  refine (refNorm_any bo m mc g w1 (hB.out.below hbel.out)).mono ?_
  rw [← hY'.out]
  rintro e w2 ⟨do_, r, rc, i, rfl, hr, hrc, hsi, hci, hb⟩
  have hsi' := Lib.hid hsi; have hci' := Lib.hid hci; have hbel2 := Lib.hid (hbel.out.trans (hb.mono hbel.out.size)); have hsh2 := Lib.hid (hsh'.out.below hb)
  clear hsi hci hb hsh'
  go_wp2_with fail
  go_loopw [5, 6, 7] (fun a b c wr => ∃ (k x y : Nat) (ao : Option Addr) (n nc : Nat) (f : Nat → Nat) (bo : Option Addr) (m mc : Nat) (g : Nat → Nat), c = .int .i64 k ∧ a = .slice ao n nc ∧ b = .slice bo m mc ∧ n ≤ nc ∧ nc ≤ 9223372036854775807 ∧ m ≤ mc ∧ mc ≤ 9223372036854775807 ∧ k ≤ K ∧
      Sl wr ao n f ∧ Canon x n f ∧ Sl wr bo m g ∧ Canon y m g ∧ x < P ∧ y < P ∧ D = Nat.gcd x y ∧ (k = 0 ∨ (y < x ∧ x * y * 2 ^ k ≤ T)) ∧ Below w.heap.size w wr) (fun _ _ c _ => K - (intOf c).toNat)
  case atStart =>
    exact ⟨0, X, Y, co, q, qc, h, do_, r, rc, i, rfl, rfl, rfl, hq, hqc, hr, hrc, by omega, hsh2.out, hch'.out, hsi'.out, hci'.out, hX.out, hY.out, hD'.out, .inl rfl, hbel2.out⟩
  case round =>
    obtain ⟨k, x, y, ao, n, nc, f, bo, m, mc, g, rfl, rfl, rfl, hn, hnc, hm, hmc, hk, hsf0, hcf0, hsg0, hcg0, hx0, hy0, hg0, hst0, hbel0⟩ := hrel
    have hsf := Lib.hid hsf0; have hcf := Lib.hid hcf0; have hsg := Lib.hid hsg0; have hcg := Lib.hid hcg0; have hx := Lib.hid hx0; have hy := Lib.hid hy0; have hg := Lib.hid hg0; have hst := Lib.hid hst0; have hbel := Lib.hid hbel0
    clear hsf0 hcf0 hsg0 hcg0 hx0 hy0 hg0 hst0 hbel0
    have hkk0 : k ≤ 64010 := by omega
    have hkt : decide ((k : Int) < 100000) = true := by rw [decide_eq_true_iff]; omega
    by_cases hm0 : m = 0
    · subst hm0
      focus
        go_wp2_with fail
        go_ret
        refine ⟨ao, n, nc, f, rfl, hn, hnc, hsf.out, ?_, hbel.out⟩
        have e : y = 0 := hcg.out.ne_zero.1 rfl
        have e2 := hg.out
        rw [e, Nat.gcd_zero_right] at e2
        rw [e2]; exact hcf.out
    · have hy1 : 0 < y := Nat.pos_of_ne_zero (fun e => hm0 (hcg.out.ne_zero.2 e))
      have hkk : k ≤ M := by
        rcases hst.out with h | ⟨h1, h2⟩
        · omega
        · rw [hT.out] at h2
          exact gcd_few h1 hy1 h2
      have hst2 : Hid (x % y < y ∧ y * (x % y) * 2 ^ (k + 1) ≤ T) := by
        rcases hst.out with h | ⟨h1, h2⟩
        · refine ⟨Nat.mod_lt _ hy1, ?_⟩
          rw [h, hT.out]
          have py : y ≤ pw L := by rw [← hP'.out]; exact Nat.le_of_lt hy.out
          exact gcd_start py (Nat.le_trans (Nat.le_of_lt (Nat.mod_lt _ hy1)) py) hM'.out
        · exact gcd_step h1 hy1 h2
      obtain ⟨a1, a2⟩ := hcf.out.few hsf.out hn hnc (by rw [← hP'.out]; exact hx.out) (Nat.le_trans hL'.out (by decide))
      obtain ⟨b1, b2⟩ := hcg.out.few hsg.out hm hmc (by rw [← hP'.out]; exact hy.out) (Nat.le_trans hL'.out (by decide))
      have a1' := Lib.hid a1; have b1' := Lib.hid b1
      have hm1 : 0 < m := by omega
      have n40 := Lib.hid a2; have m40 := Lib.hid b2; have k30 := Lib.hid hkk; have k40 := Lib.hid hkk0
      clear a1 b1 a2 b2 hk
      go_wp2_with fail
      refine (refDivMod_any ao bo n nc m mc f g wr a1'.out b1'.out (Nat.le_trans n40.out hL'.out) (Nat.le_trans m40.out hL'.out)).mono ?_
      rw [hcf.out.val, hcg.out.val]
      rintro e w3 ⟨hb3, h3⟩
      rcases h3 with ⟨h3, _⟩ | ⟨_, ao3, n3, nc3, f3, bo3, m3, mc3, g3, rfl, _, _, hm3, hmc3, _, _, hsg3, hcg3⟩
      · exact absurd h3 (Nat.pos_iff_ne_zero.1 hy1)
      have hsg3' := Lib.hid hsg3; have hcg3' := Lib.hid hcg3; have hsg4 := Lib.hid (hsg.out.below hb3)
      have hbel3 := Lib.hid (hbel.out.trans (hb3.mono hbel.out.size))
      clear hb3 hsg3 hcg3
      go_wp2_with fail
      go_roundw
      case rel =>
        exact ⟨k + 1, y, x % y, bo, m, mc, g, bo3, m3, mc3, g3, by go_num, rfl, rfl, hm, hmc, hm3, hmc3, by have := k30.out; have := hK.out; omega, hsg4.out, hcg.out, hsg3'.out, hcg3'.out, hy.out, Nat.lt_trans (Nat.mod_lt _ hy1) hy.out, by rw [hg.out, Nat.gcd_comm, Nat.gcd_rec, Nat.gcd_comm], .inr hst2.out, hbel3.out⟩
      case measure => simp [intOf]; have := k30.out; have := hK.out; omega

end Go.Proofs.YtaepelipkkmeaaaGreat
namespace Go.Proofs.YtaepelipkkmeaaaGreat

open Go.RowKit Num

attribute [local go_sem ↓] Go.wp_at_zero Go.wp_at_succ

theorem Right.drew {w : World} {b : Bool} {ao : Option Addr} {n nc : Nat} {x : Int} (h : Right w b ao n nc x) : Right w.drew b ao n nc x := h.below (Below.refl _ w).drew

theorem pw3 : pw 3 = 79228162514264337593543950336 := rfl

theorem int_small {n : Int} (h0 : -9223372036854775808 ≤ n) (h1 : n ≤ 9223372036854775807) : n.natAbs < pw 3 := by rw [pw3]; omega

end Go.Proofs.YtaepelipkkmeaaaGreat
namespace Go.Proofs.YtaepelipkkmeaaaGreat

open Go.RowKit Num

attribute [local go_sem ↓] Go.wp_at_zero Go.wp_at_succ

set_option maxHeartbeats 1000000 in
theorem rTop_any (ab : Bool) (ap aq : Option Addr) (an ac am ae : Nat) (P : Int) (w : World) (A : Whole w ab ap an ac P) :
    Calls Tryz.prog 41 #[.agg #[.bool ab, .slice ap an ac, .slice aq am ae]] w (IntPost P w) := by
  have A' := Lib.hid A
  clear A
  go_enter Tryz.func41, Tryz.ntmps41
  go_wp2_with fail
  refine gen_calls (fun w' => Below w.heap.size w w' ∧ Box3 w' w.heap.size (.bool ab) (.slice ap an ac) (.slice aq am ae) ∧ Box w' (w.heap.size + 1) (.bool false) (.slice none 0 0))
    ⟨(((Below.refl _ _).alloc (Nat.le_refl _) _).alloc (by first | (simp; done) | (simp; omega)) _), ((Box3.new _ _ _ _ rfl).alloc _), (Box.new _ _ _ (by first | (simp; done) | (simp; omega)))⟩ ?_
  rintro w0 ⟨hb0, x0, x1⟩
  refine (rNorm_any ab ap an ac P _ (A'.out.below hb0)).mono ?_
  rintro e w1 ⟨eb, eo, en, ec, rfl, hR, hb⟩
  have bb := Lib.hid (below_then hb0 (Nat.le_refl _) hb)
  have x1 := x1.later hb
  have x1' := Lib.hid x1; have hR' := Lib.hid hR
  have q0 := x1.c0; have q1 := x1.c1; have q2 := x1.fr 0; have q3 := x1.fr 1
  have z := x1.set (.bool eb) (.slice eo en ec)
  have e0 := z.c0; have e1 := z.c1
  clear x0 x1 hb hb0 z hR
  go_wp2_with fail
  refine bodyPost_ret (v := .agg #[.bool eb, .slice eo en ec]) (by simp [results, Tryz.results41, go_sem, e0, e1]) rfl ?_
  exact IntPost.stored hR'.out x1'.out bb.out (by omega)

set_option maxHeartbeats 1000000 in
theorem rBot_any (ab : Bool) (ap aq : Option Addr) (an ac am ae : Nat) (Q : Int) (w : World) (A : Whole w false aq am ae Q) :
    Calls Tryz.prog 43 #[.agg #[.bool ab, .slice ap an ac, .slice aq am ae]] w (IntPost Q w) := by
  have A' := Lib.hid A
  clear A
  go_enter Tryz.func43, Tryz.ntmps43
  go_wp2_with fail
  refine gen_calls (fun w' => Below w.heap.size w w' ∧ Box3 w' w.heap.size (.bool ab) (.slice ap an ac) (.slice aq am ae) ∧ Box w' (w.heap.size + 1) (.bool false) (.slice none 0 0))
    ⟨(((Below.refl _ _).alloc (Nat.le_refl _) _).alloc (by first | (simp; done) | (simp; omega)) _), ((Box3.new _ _ _ _ rfl).alloc _), (Box.new _ _ _ (by first | (simp; done) | (simp; omega)))⟩ ?_
  rintro w0 ⟨hb0, x0, x1⟩
  refine (rNorm_any false aq am ae Q _ (A'.out.below hb0)).mono ?_
  rintro e w1 ⟨eb, eo, en, ec, rfl, hR, hb⟩
  have bb := Lib.hid (below_then hb0 (Nat.le_refl _) hb)
  have x1 := x1.later hb
  have x1' := Lib.hid x1; have hR' := Lib.hid hR
  have q0 := x1.c0; have q1 := x1.c1; have q2 := x1.fr 0; have q3 := x1.fr 1
  have z := x1.set (.bool eb) (.slice eo en ec)
  have e0 := z.c0; have e1 := z.c1
  clear x0 x1 hb hb0 z hR
  go_wp2_with fail
  refine bodyPost_ret (v := .agg #[.bool eb, .slice eo en ec]) (by simp [results, Tryz.results43, go_sem, e0, e1]) rfl ?_
  exact IntPost.stored hR'.out x1'.out bb.out (by omega)

theorem sign_differ {p q : Int} (hp : p ≠ 0) (hq : q ≠ 0) : decide (p.sign * q.sign < 0) = !(decide (p < 0) == decide (q < 0)) := by
  rcases Int.lt_or_gt_of_ne hp with h | h <;> rcases Int.lt_or_gt_of_ne hq with k | k
  · rw [Int.sign_eq_neg_one_of_neg h, Int.sign_eq_neg_one_of_neg k]; simp [h, k]
  · rw [Int.sign_eq_neg_one_of_neg h, Int.sign_eq_one_of_pos k]; simp [h, Int.not_lt.2 (Int.le_of_lt k)]
  · rw [Int.sign_eq_one_of_pos h, Int.sign_eq_neg_one_of_neg k]; simp [k, Int.not_lt.2 (Int.le_of_lt h)]
  · rw [Int.sign_eq_one_of_pos h, Int.sign_eq_one_of_pos k]; simp [Int.not_lt.2 (Int.le_of_lt h), Int.not_lt.2 (Int.le_of_lt k)]

set_option maxRecDepth 20000 in
set_option maxHeartbeats 4000000 in
theorem rMake_any (b c : Bool) (ao bo : Option Addr) (n nc m mc : Nat) (p q : Int) (w : World) (A : Whole w b ao n nc p) (B : Whole w c bo m mc q) (L : Nat) (hL : L ≤ 1000) (hp : p.natAbs < pw L) (hq : q.natAbs < pw L) :
    Calls Tryz.prog 42 #[.agg #[.bool b, .slice ao n nc], .agg #[.bool c, .slice bo m mc]] w (MakePost p q w) := by
  have A' := Lib.hid A; have B' := Lib.hid B; have hL' := Lib.hid hL; have hp' := Lib.hid hp; have hq' := Lib.hid hq
  clear A B hL hp hq
  go_enter Tryz.func42, Tryz.ntmps42
  go_wp2_with fail
  refine gen_wp (fun w' => Below w.heap.size w w' ∧ Box w' w.heap.size (.bool b) (.slice ao n nc) ∧ Box w' (w.heap.size + 1) (.bool c) (.slice bo m mc) ∧ Box3 w' (w.heap.size + 2) (.bool false) (.slice none 0 0) (.slice none 0 0))
    ⟨((((Below.refl _ _).alloc (Nat.le_refl _) _).alloc (by first | (simp; done) | (simp; omega)) _).alloc (by first | (simp; done) | (simp; omega)) _), (((Box.new _ _ _ rfl).alloc _).alloc _), ((Box.new _ _ _ (by first | (simp; done) | (simp; omega))).alloc _), (Box3.new _ _ _ _ (by first | (simp; done) | (simp; omega)))⟩ ?_
  rintro u0 ⟨bb, x0, x1, x2⟩
  have A := A'.out.below bb; have B := B'.out.below bb
  clear A' B'
  go_cut [6, 7] from 19 to 67 (fun s t wx => ∃ Y Z eb eo en ec fb fo fn fc, s = .pointer (some ⟨Y, 0, none⟩) ∧ t = .pointer (some ⟨Z, 0, none⟩) ∧ Box wx Y (.bool eb) (.slice eo en ec) ∧ Box wx Z (.bool fb) (.slice fo fn fc) ∧ Box3 wx (w.heap.size + 2) (.bool false) (.slice none 0 0) (.slice none 0 0) ∧ Right wx eb eo en ec p ∧ Right wx fb fo fn fc q ∧ Below w.heap.size w wx)
  case first =>
    have lx0 := x0.lt
    have lx1 := x1.lt
    have lx2 := x2.lt
    have bs := bb.size
    have sa0 := True.intro
    go_region_held3 (fun w' => w'.cell? ⟨w.heap.size, 0, none⟩ = some (.bool b) ∧ w'.cell? ⟨w.heap.size, 1, none⟩ = some (.slice ao n nc) ∧ w'.cell? ⟨(w.heap.size + 1), 0, none⟩ = some (.bool c) ∧ w'.cell? ⟨(w.heap.size + 1), 1, none⟩ = some (.slice bo m mc))
      (first | with_reducible exact ⟨(x0.drew).c0, (x0.drew).c1, (x1.drew).c0, (x1.drew).c1⟩ | with_reducible exact ⟨((x0.alloc _).drew).c0, ((x0.alloc _).drew).c1, ((x1.alloc _).drew).c0, ((x1.alloc _).drew).c1⟩ | with_reducible exact ⟨(((x0.alloc _).alloc _).drew).c0, (((x0.alloc _).alloc _).drew).c1, (((x1.alloc _).alloc _).drew).c0, (((x1.alloc _).alloc _).drew).c1⟩ | with_reducible exact ⟨x0.c0, x0.c1, x1.c0, x1.c1⟩ | with_reducible exact ⟨(x0.alloc _).c0, (x0.alloc _).c1, (x1.alloc _).c0, (x1.alloc _).c1⟩ | with_reducible exact ⟨((x0.alloc _).alloc _).c0, ((x0.alloc _).alloc _).c1, ((x1.alloc _).alloc _).c0, ((x1.alloc _).alloc _).c1⟩ | with_reducible exact ⟨(x0.other (by omega) _ _).c0, (x0.other (by omega) _ _).c1, (x1.other (by omega) _ _).c0, (x1.other (by omega) _ _).c1⟩ | with_reducible exact ⟨((x0.other (by omega) _ _).alloc _).c0, ((x0.other (by omega) _ _).alloc _).c1, ((x1.other (by omega) _ _).alloc _).c0, ((x1.other (by omega) _ _).alloc _).c1⟩ | with_reducible exact ⟨((x0.other (by omega) _ _).other (by omega) _ _).c0, ((x0.other (by omega) _ _).other (by omega) _ _).c1, ((x1.other (by omega) _ _).other (by omega) _ _).c0, ((x1.other (by omega) _ _).other (by omega) _ _).c1⟩ | go_keep)
      (first
      | (go_at_call 95; clear sa0; refine (rNorm_any b ao n nc p _ ?_).mono ?_; (first | with_reducible exact (A.drew) | with_reducible exact ((A.alloc _).drew) | with_reducible exact (((A.alloc _).alloc _).drew)); rintro e u1 ⟨eb, eo, en, ec, rfl, h1, hb⟩; have hc : Below u0.heap.size u0 u1 := (by first | exact (Below.refl _ _).drew.trans hb | exact ((Below.refl _ _).alloc (by first | exact Nat.le_refl _ | (simp; done) | (simp; omega)) _).drew.trans (hb.mono (by first | (simp; done) | (simp; omega))) | exact (((Below.refl _ _).alloc (by first | exact Nat.le_refl _ | (simp; done) | (simp; omega)) _).alloc (by first | exact Nat.le_refl _ | (simp; done) | (simp; omega)) _).drew.trans (hb.mono (by first | (simp; done) | (simp; omega)))); have hz0 := hc.size; have x0 := x0.later hc; have x1 := x1.later hc; have x2 := x2.later hc; have A := A.below hc; have B := B.below hc; have bb := below_then bb (Nat.le_refl _) hc; (first | (with_reducible have mm := made2' hb; obtain ⟨m10, m11⟩ := mm) | (with_reducible have m10 := made1' hb) | skip); (try have k10 := m10.lt); (try have k11 := m11.lt); clear hb hc; have sa1 := True.intro)
      | (go_at_call 95; clear sa1; refine (rNorm_any c bo m mc q _ ?_).mono ?_; (first | with_reducible exact B | with_reducible exact (B.alloc _) | with_reducible exact ((B.alloc _).alloc _)); rintro e u2 ⟨fb, fo, fn, fc, rfl, h2, hb⟩; have hc : Below u1.heap.size u1 u2 := (by first | with_reducible exact hb | exact ((Below.refl _ _).alloc (by first | exact Nat.le_refl _ | (simp; done) | (simp; omega)) _).trans (hb.mono (by first | (simp; done) | (simp; omega))) | exact (((Below.refl _ _).alloc (by first | exact Nat.le_refl _ | (simp; done) | (simp; omega)) _).alloc (by first | exact Nat.le_refl _ | (simp; done) | (simp; omega)) _).trans (hb.mono (by first | (simp; done) | (simp; omega)))); have hz1 := hc.size; have x0 := x0.later hc; have x1 := x1.later hc; have x2 := x2.later hc; have A := A.below hc; have B := B.below hc; have h1 := h1.below hc; have bb := below_then bb (Nat.le_refl _) hc; (try have m10 := m10.later hc); (try have m11 := m11.later hc); (first | (with_reducible have mm := made2 hb; obtain ⟨m20, m21⟩ := mm) | (with_reducible have m20 := made1 hb) | skip); (try have k10 := m10.lt); (try have k11 := m11.lt); (try have k20 := m20.lt); (try have k21 := m21.lt); (try (have f100 := m10.c0; have f101 := m10.c1; have f102 := m10.fr 0; have f103 := m10.fr 1)); (try (have f110 := m11.c0; have f111 := m11.c1; have f112 := m11.fr 0; have f113 := m11.fr 1)); (try (have f200 := m20.c0; have f201 := m20.c1; have f202 := m20.fr 0; have f203 := m20.fr 1)); (try (have f210 := m21.c0; have f211 := m21.c1; have f212 := m21.fr 0; have f213 := m21.fr 1)); clear hb hc; have sa2 := True.intro))
    · go_wp2_with fail; go_meet; exact ⟨_, _, eb, eo, en, ec, fb, fo, fn, fc, rfl, rfl, ((Box.new _ _ _ (by first | (simp; done) | rfl)).alloc _), (Box.new _ _ _ (by first | (simp; done) | rfl)), ((x2.alloc _).alloc _), ((h1.alloc _).alloc _), ((h2.alloc _).alloc _), (Below.alloc (Below.alloc bb (by first | omega | (simp; omega) | (simp; done)) _) (by first | omega | (simp; omega) | (simp; done)) _)⟩
    · go_wp2_with fail; go_meet; exact ⟨_, _, eb, eo, en, ec, fb, fo, fn, fc, rfl, rfl, (Box.new _ _ _ (by first | (simp; done) | rfl)), ((Box.new _ _ _ (by first | (simp; done) | rfl)).alloc _), ((x2.alloc _).alloc _), ((h1.alloc _).alloc _), ((h2.alloc _).alloc _), (Below.alloc (Below.alloc bb (by first | omega | (simp; omega) | (simp; done)) _) (by first | omega | (simp; omega) | (simp; done)) _)⟩
    · go_wp2_with fail; go_meet; exact ⟨_, _, eb, eo, en, ec, fb, fo, fn, fc, rfl, rfl, ((m20.set _ _).alloc _), (Box.new _ _ _ (by first | (simp; done) | rfl)), ((x2.other (by omega) _ _).alloc _), ((h1.box m20 _ _).alloc _), ((h2.box m20 _ _).alloc _), (Below.alloc (below_set bb (by omega) _ _) (by first | omega | (simp; omega) | (simp; done)) _)⟩
    · go_wp2_with fail; go_meet; exact ⟨_, _, eb, eo, en, ec, fb, fo, fn, fc, rfl, rfl, ((m20.set _ _).other (by omega) _ _), ((m21.other (by omega) _ _).set _ _), ((x2.other (by omega) _ _).other (by omega) _ _), ((h1.box m20 _ _).box (m21.other (by omega) _ _) _ _), ((h2.box m20 _ _).box (m21.other (by omega) _ _) _ _), (below_set (below_set bb (by omega) _ _) (by omega) _ _)⟩
    · go_wp2_with fail; go_meet; exact ⟨_, _, eb, eo, en, ec, fb, fo, fn, fc, rfl, rfl, (Box.new _ _ _ (by first | (simp; done) | rfl)), ((m20.set _ _).alloc _), ((x2.other (by omega) _ _).alloc _), ((h1.box m20 _ _).alloc _), ((h2.box m20 _ _).alloc _), (Below.alloc (below_set bb (by omega) _ _) (by first | omega | (simp; omega) | (simp; done)) _)⟩
    · go_wp2_with fail; go_meet; exact ⟨_, _, eb, eo, en, ec, fb, fo, fn, fc, rfl, rfl, ((m21.set _ _).other (by omega) _ _), ((m20.other (by omega) _ _).set _ _), ((x2.other (by omega) _ _).other (by omega) _ _), ((h1.box m21 _ _).box (m20.other (by omega) _ _) _ _), ((h2.box m21 _ _).box (m20.other (by omega) _ _) _ _), (below_set (below_set bb (by omega) _ _) (by omega) _ _)⟩
    · go_wp2_with fail; go_meet; exact ⟨_, _, eb, eo, en, ec, fb, fo, fn, fc, rfl, rfl, ((m10.set _ _).alloc _), (Box.new _ _ _ (by first | (simp; done) | rfl)), ((x2.other (by omega) _ _).alloc _), ((h1.box m10 _ _).alloc _), ((h2.box m10 _ _).alloc _), (Below.alloc (below_set bb (by omega) _ _) (by first | omega | (simp; omega) | (simp; done)) _)⟩
    · go_wp2_with fail; go_meet; exact ⟨_, _, eb, eo, en, ec, fb, fo, fn, fc, rfl, rfl, ((m10.set _ _).other (by omega) _ _), ((m20.other (by omega) _ _).set _ _), ((x2.other (by omega) _ _).other (by omega) _ _), ((h1.box m10 _ _).box (m20.other (by omega) _ _) _ _), ((h2.box m10 _ _).box (m20.other (by omega) _ _) _ _), (below_set (below_set bb (by omega) _ _) (by omega) _ _)⟩
    · go_wp2_with fail; go_meet; exact ⟨_, _, eb, eo, en, ec, fb, fo, fn, fc, rfl, rfl, ((m10.set _ _).other (by omega) _ _), ((m11.other (by omega) _ _).set _ _), ((x2.other (by omega) _ _).other (by omega) _ _), ((h1.box m10 _ _).box (m11.other (by omega) _ _) _ _), ((h2.box m10 _ _).box (m11.other (by omega) _ _) _ _), (below_set (below_set bb (by omega) _ _) (by omega) _ _)⟩
    · go_wp2_with fail; go_meet; exact ⟨_, _, eb, eo, en, ec, fb, fo, fn, fc, rfl, rfl, (Box.new _ _ _ (by first | (simp; done) | rfl)), ((m10.set _ _).alloc _), ((x2.other (by omega) _ _).alloc _), ((h1.box m10 _ _).alloc _), ((h2.box m10 _ _).alloc _), (Below.alloc (below_set bb (by omega) _ _) (by first | omega | (simp; omega) | (simp; done)) _)⟩
    · go_wp2_with fail; go_meet; exact ⟨_, _, eb, eo, en, ec, fb, fo, fn, fc, rfl, rfl, ((m20.set _ _).other (by omega) _ _), ((m10.other (by omega) _ _).set _ _), ((x2.other (by omega) _ _).other (by omega) _ _), ((h1.box m20 _ _).box (m10.other (by omega) _ _) _ _), ((h2.box m20 _ _).box (m10.other (by omega) _ _) _ _), (below_set (below_set bb (by omega) _ _) (by omega) _ _)⟩
    · go_wp2_with fail; go_meet; exact ⟨_, _, eb, eo, en, ec, fb, fo, fn, fc, rfl, rfl, ((m11.set _ _).other (by omega) _ _), ((m10.other (by omega) _ _).set _ _), ((x2.other (by omega) _ _).other (by omega) _ _), ((h1.box m11 _ _).box (m10.other (by omega) _ _) _ _), ((h2.box m11 _ _).box (m10.other (by omega) _ _) _ _), (below_set (below_set bb (by omega) _ _) (by omega) _ _)⟩
  case rest =>
    obtain ⟨Y, Z, eb, eo, en, ec, fb, fo, fn, fc, rfl, rfl, y, z, x2, h1, h2, bb⟩ := hcut
    have hq0 : q = 0 ↔ fn = 0 := by
      obtain ⟨g, _, _, _, cg, _⟩ := h2.ex
      rw [cg.ne_zero]; omega
    have p0 := z.c1
    have y := Lib.hid y
    by_cases h0 : fn = 0
    · have hE := Lib.hid (mkE_three (p := p) (hq0.2 h0))
      subst h0
      clear hq0 h1 h2 z
      have q0 := x2.c0; have q1 := x2.c1; have q2 := x2.c2; have q3 := x2.fr 0; have q4 := x2.fr 1; have q5 := x2.fr 2
      have z := x2.set (.bool false) (.slice none 0 0) (.slice none 0 0)
      have e0 := z.c0; have e1 := z.c1; have e2 := z.c2
      have x2' := Lib.hid x2; have bb' := Lib.hid bb
      clear z x2 bb 
      go_wp2_with fail
      refine bodyPost_ret (v := .tuple #[.agg #[.bool false, .slice none 0 0, .slice none 0 0], .int .i64 (3)]) (by simp [results, Tryz.results42, go_sem, e0, e1, e2]) rfl ?_
      exact make_bad hE.out (by decide) (ResPost.stored (rt_zero _) x2'.out bb'.out (by omega))
    have hqz : Hid (q ≠ 0) := Lib.hid (fun e => h0 (hq0.1 e))
    obtain ⟨f, f1, f2, f3, cf, hfb⟩ := h1.ex
    obtain ⟨g, g1, g2, g3, cg, hgb⟩ := h2.ex
    have cf := Lib.hid cf; have cg := Lib.hid cg; replace hfb := Lib.hid hfb; replace hgb := Lib.hid hgb
    have Ff := Lib.hid (cf.out.few f3 f1 f2 hp'.out (Nat.le_trans hL'.out (by decide))); have Fg := Lib.hid (cg.out.few g3 g1 g2 hq'.out (Nat.le_trans hL'.out (by decide)))
    have p1 := y.out.c1
    have z := Lib.hid z; have x2 := Lib.hid x2; have bb := Lib.hid bb
    clear hq0 h1 h2 f3 g3
    go_wp2_with fail
    clear p0 p1
    refine (refGcdL_any eo fo en ec fn fc f g _ Ff.out.1 Fg.out.1 L hL'.out Ff.out.2 Fg.out.2).mono ?_
    rw [cf.out.val, cg.out.val]
    rintro e w2 ⟨go, gn, gc, gf, rfl, k1, k2, k3, k4, hb⟩
    have k4 : Hid (Canon (mkG p q) gn gf) := Lib.hid k4
    have hGL : Hid (mkG p q < pw L) := Lib.hid (Nat.lt_of_le_of_lt (Nat.le_of_dvd (by have := hqz.out; omega) (Nat.gcd_dvd_right _ _)) hq'.out)
    have FG := Lib.hid (k4.out.few k3 k1 k2 hGL.out (Nat.le_trans hL'.out (by decide)))
    have bb := Lib.hid (below_then bb.out (Nat.le_refl _) hb)
    have y := Lib.hid (y.out.later hb); have z := Lib.hid (z.out.later hb); have x2 := Lib.hid (x2.out.later hb)
    have Ff := Lib.hid (And.intro (Ff.out.1.below hb) Ff.out.2); have Fg := Lib.hid (And.intro (Fg.out.1.below hb) Fg.out.2)
    have p1 := y.out.c1
    clear hb k3
    go_wp2_with fail
    clear p1
    refine (refDivMod_any eo go en ec gn gc f gf _ Ff.out.1 FG.out.1 (Nat.le_trans Ff.out.2 hL'.out) (Nat.le_trans FG.out.2 hL'.out)).mono ?_
    rw [cf.out.val, k4.out.val]
    rintro e w3 ⟨hb, h⟩
    have hg0 : Hid (mkG p q ≠ 0) := Lib.hid (Nat.pos_iff_ne_zero.1 (mkG_pos hqz.out))
    rcases h with ⟨h, _⟩ | ⟨_, to_, tn, tc, tf, ro, rn, rc, rf, rfl, t1, t2, _, _, t3, t4, _, _⟩
    · exact absurd h hg0.out
    have t3 := Lib.hid t3; have t4 := Lib.hid t4
    have bb := Lib.hid (below_then bb.out (Nat.le_refl _) hb)
    have y := Lib.hid (y.out.later hb); have z := Lib.hid (z.out.later hb); have x2 := Lib.hid (x2.out.later hb)
    have Fg := Lib.hid (And.intro (Fg.out.1.below hb) Fg.out.2); have FG := Lib.hid (And.intro (FG.out.1.below hb) FG.out.2)
    have p1 := z.out.c1
    clear hb
    go_wp2_with fail
    clear p1
    refine (refDivMod_any fo go fn fc gn gc g gf _ Fg.out.1 FG.out.1 (Nat.le_trans Fg.out.2 hL'.out) (Nat.le_trans FG.out.2 hL'.out)).mono ?_
    rw [cg.out.val, k4.out.val]
    rintro e w4 ⟨hb, h⟩
    rcases h with ⟨h, _⟩ | ⟨_, uo, un, uc, uf, ro', rn', rc', rf', rfl, u1, u2, _, _, u3, u4, _, _⟩
    · exact absurd h hg0.out
    have u3 := Lib.hid u3; have u4 := Lib.hid u4; have t3 := Lib.hid (t3.out.below hb)
    have bb := below_then bb.out (Nat.le_refl _) hb
    have y := Lib.hid (y.out.later hb); have z := Lib.hid (z.out.later hb); have x2 := x2.out.later hb
    clear hb
    by_cases ht : 32 < tn
    · have hE := Lib.hid (mkE_seven hqz.out (.inl (canon_long t4.out ht)))
      have hd : decide ((32 : Int) < (tn : Int)) = true := by rw [decide_eq_true_iff]; omega
      clear ht h0 f1 f2 g1 g2 t1 t2 u1 u2 k1 k2
      have q0 := x2.c0; have q1 := x2.c1; have q2 := x2.c2; have q3 := x2.fr 0; have q4 := x2.fr 1; have q5 := x2.fr 2
      have z := x2.set (.bool false) (.slice none 0 0) (.slice none 0 0)
      have e0 := z.c0; have e1 := z.c1; have e2 := z.c2
      have x2' := Lib.hid x2; have bb' := Lib.hid bb
      clear z x2 bb 
      go_wp2_with fail
      refine bodyPost_ret (v := .tuple #[.agg #[.bool false, .slice none 0 0, .slice none 0 0], .int .i64 (7)]) (by simp [results, Tryz.results42, go_sem, e0, e1, e2]) rfl ?_
      exact make_bad hE.out (by decide) (ResPost.stored (rt_zero _) x2'.out bb'.out (by omega))
    have hd : decide ((32 : Int) < (tn : Int)) = false := by rw [decide_eq_false_iff_not]; omega
    have ht' := Lib.hid ht
    clear ht
    by_cases hu : 32 < un
    · have hE := Lib.hid (mkE_seven hqz.out (.inr (canon_long u4.out hu)))
      have hd2 : decide ((32 : Int) < (un : Int)) = true := by rw [decide_eq_true_iff]; omega
      clear hu h0 f1 f2 g1 g2 t1 t2 u1 u2 k1 k2
      have q0 := x2.c0; have q1 := x2.c1; have q2 := x2.c2; have q3 := x2.fr 0; have q4 := x2.fr 1; have q5 := x2.fr 2
      have z := x2.set (.bool false) (.slice none 0 0) (.slice none 0 0)
      have e0 := z.c0; have e1 := z.c1; have e2 := z.c2
      have x2' := Lib.hid x2; have bb' := Lib.hid bb
      clear z x2 bb 
      go_wp2_with fail
      refine bodyPost_ret (v := .tuple #[.agg #[.bool false, .slice none 0 0, .slice none 0 0], .int .i64 (7)]) (by simp [results, Tryz.results42, go_sem, e0, e1, e2]) rfl ?_
      exact make_bad hE.out (by decide) (ResPost.stored (rt_zero _) x2'.out bb'.out (by omega))
    have hd2 : decide ((32 : Int) < (un : Int)) = false := by rw [decide_eq_false_iff_not]; omega
    have hE : Hid (mkE p q = 0) := Lib.hid (mkE_ok.2 ⟨hqz.out, canon_short t4.out (Nat.le_of_not_lt ht'.out), canon_short u4.out (Nat.le_of_not_lt hu)⟩)
    clear hu
    by_cases ht0 : tn = 0
    · have hR : Hid (Rt w4 false to_ 0 tc uo un uc (mkT p q) (mkB p q)) := Lib.hid ⟨by
        rw [mkT_ok hE.out]
        have e := t4.out.ne_zero.1 ht0
        have t3 := t3.out
        have t4 := t4.out
        rw [e, ht0] at t4
        rw [e]
        have := canon_right (b := false) (Nat.zero_le tc) t2 (.inl rfl : Sl w4 to_ 0 tf) t4 (.inr rfl)
        have e0 : ∀ s, sgn s 0 = 0 := fun s => by cases s <;> rfl
        rw [e0] at this ⊢; exact this, by
        rw [mkB_ok hE.out]
        exact canon_right (b := false) u1 u2 u3.out u4.out (.inr rfl)⟩
      subst ht0
      clear t1 h0 f1 f2 g1 g2 t2 u1 u2 k1 k2

      have q0 := x2.c0; have q1 := x2.c1; have q2 := x2.c2; have q3 := x2.fr 0; have q4 := x2.fr 1; have q5 := x2.fr 2
      have zz := x2.set (.bool (false)) (.slice to_ 0 tc) (.slice uo un uc)
      have e0 := zz.c0; have e1 := zz.c1; have e2 := zz.c2
      have x2' := Lib.hid x2; have bb' := Lib.hid bb
      have v0 := y.out.c0; have v1 := z.out.c0
      clear zz x2 bb
      go_wp2_with fail
      refine bodyPost_ret (v := .tuple #[.agg #[.bool (false), .slice to_ 0 tc, .slice uo un uc], .int .i64 0]) (by simp [results, Tryz.results42, go_sem, e0, e1, e2]) rfl ?_
      exact make_good hE.out (ResPost.stored (E := 0) hR.out x2'.out bb'.out (Nat.le_add_right _ 2))
    · have hR : Hid (Rt w4 (!(eb == fb)) to_ tn tc uo un uc (mkT p q) (mkB p q)) := Lib.hid ⟨by
        rw [mkT_ok hE.out]
        have hpz : p ≠ 0 := by
          intro e
          refine ht0 (t4.out.ne_zero.2 ?_)
          rw [e]; simp
        rw [hfb.out, hgb.out, ← sign_differ hpz hqz.out]
        exact canon_right t1 t2 t3.out t4.out (.inl (Nat.pos_of_ne_zero ht0)), by
        rw [mkB_ok hE.out]
        exact canon_right (b := false) u1 u2 u3.out u4.out (.inr rfl)⟩
      have hd3 := Nat.pos_of_ne_zero ht0
      clear t1 h0 f1 f2 g1 g2 t2 u1 u2 k1 k2 ht0

      have q0 := x2.c0; have q1 := x2.c1; have q2 := x2.c2; have q3 := x2.fr 0; have q4 := x2.fr 1; have q5 := x2.fr 2
      have zz := x2.set (.bool (!(eb == fb))) (.slice to_ tn tc) (.slice uo un uc)
      have e0 := zz.c0; have e1 := zz.c1; have e2 := zz.c2
      have x2' := Lib.hid x2; have bb' := Lib.hid bb
      have v0 := y.out.c0; have v1 := z.out.c0
      clear zz x2 bb
      go_wp2_with fail
      refine bodyPost_ret (v := .tuple #[.agg #[.bool (!(eb == fb)), .slice to_ tn tc, .slice uo un uc], .int .i64 0]) (by simp [results, Tryz.results42, go_sem, e0, e1, e2]) rfl ?_
      exact make_good hE.out (ResPost.stored (E := 0) hR.out x2'.out bb'.out (Nat.le_add_right _ 2))

end Go.Proofs.YtaepelipkkmeaaaGreat
namespace Go.Proofs.YtaepelipkkmeaaaGreat

open Go.RowKit Num

attribute [local go_sem ↓] Go.wp_at_zero Go.wp_at_succ

theorem arg_small {w : World} {b : Bool} {ao : Option Addr} {n nc : Nat} {f : Nat → Nat} (A : Arg w ao n nc f) (h : n ≤ 32) : (sgn b (val f n)).natAbs < pw 32 := by
  rw [sgn_abs]
  exact Nat.lt_of_lt_of_le (val_lt A.lim) (pw_le h)

/-- What Right tells: true of a number that is right, and of none else. -/
def RightPost (ab : Bool) (ap : Option Addr) (an ac : Nat) (aq : Option Addr) (am ae : Nat) (w : World) (e : Ending) (w' : World) : Prop :=
  ∃ r, e = .returned (.bool r) ∧ (r = true → ∃ P Q, Low P Q ∧ Rt w ab ap an ac aq am ae P Q) ∧ (∀ P Q, Low P Q → Rt w ab ap an ac aq am ae P Q → r = true) ∧ Below w.heap.size w w'

theorem Right.len_le32 {w : World} {b : Bool} {ao : Option Addr} {n nc : Nat} {x : Int} (h : Right w b ao n nc x) (hx : x.natAbs < pw 32) : n ≤ 32 := h.le_len hx

theorem Right.canon {w : World} {b : Bool} {ao : Option Addr} {n nc : Nat} {x : Int} {f : Nat → Nat} (h : Right w b ao n nc x) (A : Arg w ao n nc f) : Canon x.natAbs n f := by
  obtain ⟨g, _, _, hs, cg, e⟩ := h.ex
  have he : ∀ j, j < n → f j = g j := by
    intro j hj
    rcases A.sl with rfl | ⟨d, off, rfl, hc⟩
    · omega
    · rcases hs with rfl | ⟨d', off', e', hc'⟩
      · omega
      · injection e' with e'
        injection e' with e1 e2
        subst e1 e2
        have := (hc j hj).symm.trans (hc' j hj)
        injection this with this
        injection this with _ this
        omega
  refine ⟨A.lim, ?_, (val_congr he).trans cg.val⟩
  rcases cg.top with h0 | h0
  · exact .inl h0
  · by_cases hn : n = 0
    · exact .inl hn
    · refine .inr ?_
      rw [he (n - 1) (by omega)]; exact h0

theorem Right.val_is {w : World} {b : Bool} {ao : Option Addr} {n nc : Nat} {x : Int} {f : Nat → Nat} (h : Right w b ao n nc x) (A : Arg w ao n nc f) : sgn b (val f n) = x := by
  rw [(h.canon A).val, h.neg, sgn_self]

set_option maxRecDepth 20000 in
set_option maxHeartbeats 4000000 in
theorem right4_any (ab : Bool) (ap aq : Option Addr) (an ac am ae : Nat) (f h : Nat → Nat) (w : World) (A : Arg w ap an ac f) (B : Arg w aq am ae h) :
    Calls Tryz.prog 14 #[.agg #[.bool ab, .slice ap an ac, .slice aq am ae]] w (RightPost ab ap an ac aq am ae w) := by
  have A' := Lib.hid A; have B' := Lib.hid B
  clear A B
  by_cases ht : 32 < an
  · have hd : decide ((32 : Int) < (an : Int)) = true := by rw [decide_eq_true_iff]; omega
    have ht' := Lib.hid ht
    clear ht
    go_enter Tryz.func14, Tryz.ntmps14
    go_wp2_with fail
    go_ret
    exact ⟨false, rfl, (fun h => by cases h), fun P Q l R => absurd (R.top.le_len l.abs_lt) (Nat.not_le.2 ht'.out), (Below.refl _ _).alloc (Nat.le_refl _) _⟩
  have hd : decide ((32 : Int) < (an : Int)) = false := by rw [decide_eq_false_iff_not]; omega
  have ht' := Lib.hid (Nat.le_of_not_lt ht)
  clear ht
  by_cases hu : 32 < am
  · have hd2 : decide ((32 : Int) < (am : Int)) = true := by rw [decide_eq_true_iff]; omega
    have hu' := Lib.hid hu
    clear hu
    go_enter Tryz.func14, Tryz.ntmps14
    go_wp2_with fail
    go_ret
    exact ⟨false, rfl, (fun h => by cases h), fun P Q l R => absurd (R.bot.le_len l.bot_lt) (Nat.not_le.2 hu'.out), (Below.refl _ _).alloc (Nat.le_refl _) _⟩
  have hd2 : decide ((32 : Int) < (am : Int)) = false := by rw [decide_eq_false_iff_not]; omega
  have hu' := Lib.hid (Nat.le_of_not_lt hu)
  clear hu
  go_enter Tryz.func14, Tryz.ntmps14
  go_wp2_with fail
  refine gen_wp (fun w' => Below w.heap.size w w' ∧ Box3 w' w.heap.size (.bool ab) (.slice ap an ac) (.slice aq am ae))
    ⟨((Below.refl _ _).alloc (Nat.le_refl _) _), (Box3.new _ _ _ _ rfl)⟩ ?_
  rintro u0 ⟨bb, x0⟩
  obtain ⟨p, hp⟩ : ∃ p, Hid (sgn ab (val f an) = p) := ⟨_, Lib.hid rfl⟩
  obtain ⟨q, hq⟩ : ∃ q, Hid (sgn false (val h am) = q) := ⟨_, Lib.hid rfl⟩
  have hp32 : Hid (p.natAbs < pw 32) := Lib.hid (by rw [← hp.out]; exact arg_small A'.out ht'.out)
  have hq32 : Hid (q.natAbs < pw 32) := Lib.hid (by rw [← hq.out]; exact arg_small B'.out hu'.out)
  have A : Whole u0 ab ap an ac p := ⟨f, A'.out.below bb, hp.out⟩
  have B : Whole u0 false aq am ae q := ⟨h, B'.out.below bb, hq.out⟩
  go_cut [3, 4] from 23 to 30 (fun s t wx => ∃ Y gb gp gn gc gq gm ge, s = .pointer (some ⟨Y, 0, none⟩) ∧ t = .int .i64 (mkE p q) ∧ Box3 wx Y (.bool gb) (.slice gp gn gc) (.slice gq gm ge) ∧ Box3 wx w.heap.size (.bool ab) (.slice ap an ac) (.slice aq am ae) ∧ Rt wx gb gp gn gc gq gm ge (mkT p q) (mkB p q) ∧ Below w.heap.size w wx)
  case first =>
    have lx0 := x0.lt
    have bs := bb.size
    have sa0 := True.intro
    go_region_held3 (fun w' => w'.cell? ⟨w.heap.size, 0, none⟩ = some (.bool ab) ∧ w'.cell? ⟨w.heap.size, 1, none⟩ = some (.slice ap an ac) ∧ w'.cell? ⟨w.heap.size, 2, none⟩ = some (.slice aq am ae))
      (first | with_reducible exact ⟨(x0.drew).c0, (x0.drew).c1, (x0.drew).c2⟩ | with_reducible exact ⟨((x0.alloc _).drew).c0, ((x0.alloc _).drew).c1, ((x0.alloc _).drew).c2⟩ | with_reducible exact ⟨x0.c0, x0.c1, x0.c2⟩ | with_reducible exact ⟨(x0.alloc _).c0, (x0.alloc _).c1, (x0.alloc _).c2⟩ | with_reducible exact ⟨(x0.other3 (by omega) _ _ _).c0, (x0.other3 (by omega) _ _ _).c1, (x0.other3 (by omega) _ _ _).c2⟩ | go_keep)
      (first
      | (go_at_call 41; clear sa0; refine (rTop_any ab ap aq an ac am ae p _ ?_).mono ?_; (first | with_reducible exact (A.drew) | with_reducible exact ((A.alloc _).drew)); rintro e u1 ⟨eb, eo, en, ec, rfl, h1, hb⟩; have hc : Below u0.heap.size u0 u1 := (by first | exact (Below.refl _ _).drew.trans hb | exact ((Below.refl _ _).alloc (by first | exact Nat.le_refl _ | (simp; done) | (simp; omega)) _).drew.trans (hb.mono (by first | (simp; done) | (simp; omega)))); have hz0 := hc.size; have x0 := x0.later hc; have A := A.below hc; have B := B.below hc; have bb := below_then bb (Nat.le_refl _) hc; (first | (with_reducible have m10 := made13' hb) | skip); (try have k10 := m10.lt); clear hb hc; have sa1 := True.intro)
      | (go_at_call 43; clear sa1; refine (rBot_any ab ap aq an ac am ae q _ ?_).mono ?_; (first | with_reducible exact B | with_reducible exact (B.alloc _)); rintro e u2 ⟨fb, fo, fn, fc, rfl, h2, hb⟩; have hc : Below u1.heap.size u1 u2 := (by first | with_reducible exact hb | exact ((Below.refl _ _).alloc (by first | exact Nat.le_refl _ | (simp; done) | (simp; omega)) _).trans (hb.mono (by first | (simp; done) | (simp; omega)))); have hz1 := hc.size; have x0 := x0.later hc; have A := A.below hc; have B := B.below hc; have h1 := h1.below hc; have bb := below_then bb (Nat.le_refl _) hc; (try have m10 := m10.later hc); (first | (with_reducible have m20 := made13 hb) | skip); (try have k10 := m10.lt); (try have k20 := m20.lt); clear hb hc; have sa2 := True.intro)
      | (go_at_call 42; clear sa2; refine (rMake_any eb fb eo fo en ec fn fc p q _ ?_ ?_ 32 (by omega) hp32.out hq32.out).mono ?_; (first | with_reducible exact (h1).whole32 hp32.out | with_reducible exact ((h1.alloc _)).whole32 hp32.out); (first | with_reducible exact (h2).whole32 hq32.out | with_reducible exact ((h2.alloc _)).whole32 hq32.out); rintro e u3 ⟨gb, gp, gn, gc, gq, gm, ge, rfl, G, hb⟩; have hc : Below u2.heap.size u2 u3 := (by first | with_reducible exact hb | exact ((Below.refl _ _).alloc (by first | exact Nat.le_refl _ | (simp; done) | (simp; omega)) _).trans (hb.mono (by first | (simp; done) | (simp; omega)))); have hz2 := hc.size; have x0 := x0.later hc; have A := A.below hc; have B := B.below hc; have h1 := h1.below hc; have h2 := h2.below hc; have bb := below_then bb (Nat.le_refl _) hc; (try have m10 := m10.later hc); (try have m20 := m20.later hc); (first | (with_reducible have m30 := made13 hb) | skip); (try have k10 := m10.lt); (try have k20 := m20.lt); (try have k30 := m30.lt); (try (have f100 := m10.c0; have f101 := m10.c1; have f102 := m10.fr 0; have f103 := m10.fr 1; have f104 := m10.c2; have f105 := m10.fr 2)); (try (have f200 := m20.c0; have f201 := m20.c1; have f202 := m20.fr 0; have f203 := m20.fr 1; have f204 := m20.c2; have f205 := m20.fr 2)); (try (have f300 := m30.c0; have f301 := m30.c1; have f302 := m30.fr 0; have f303 := m30.fr 1; have f304 := m30.c2; have f305 := m30.fr 2)); clear hb hc; have sa3 := True.intro))
    · go_wp2_with fail; go_meet; exact ⟨_, gb, gp, gn, gc, gq, gm, ge, rfl, rfl, (Box3.new _ _ _ _ (by first | (simp; done) | rfl)), (x0.alloc _), (G.alloc _), (Below.alloc bb (by first | omega | (simp; omega) | (simp; done)) _)⟩
    · go_wp2_with fail; go_meet; exact ⟨_, gb, gp, gn, gc, gq, gm, ge, rfl, rfl, (m30.set _ _ _), (x0.other3 (by omega) _ _ _), (G.box3 m30 _ _ _), (below_set3 bb (by omega) _ _ _)⟩
    · go_wp2_with fail; go_meet; exact ⟨_, gb, gp, gn, gc, gq, gm, ge, rfl, rfl, (m20.set _ _ _), (x0.other3 (by omega) _ _ _), (G.box3 m20 _ _ _), (below_set3 bb (by omega) _ _ _)⟩
    · go_wp2_with fail; go_meet; exact ⟨_, gb, gp, gn, gc, gq, gm, ge, rfl, rfl, (m10.set _ _ _), (x0.other3 (by omega) _ _ _), (G.box3 m10 _ _ _), (below_set3 bb (by omega) _ _ _)⟩
  case rest =>
    obtain ⟨Y, gb, gp, gn, gc, gq, gm, ge, rfl, rfl, y, x0, G, bb⟩ := hcut
    have yes : Hid (∀ P Q, Low P Q → Rt w ab ap an ac aq am ae P Q → p = P ∧ q = Q) := Lib.hid (fun P Q l R => ⟨hp.out.symm.trans (R.top.val_is A'.out), hq.out.symm.trans (R.bot.val_is B'.out)⟩)
    obtain ⟨E, hE⟩ : ∃ E, Hid (mkE p q = E) := ⟨_, Lib.hid rfl⟩
    rw [hE.out]
    by_cases h0 : E = 0
    · subst h0
      have p0 := y.c0; have p1 := y.c1; have p2 := y.c2; have p3 := x0.c0; have p4 := x0.c1; have p5 := x0.c2
      replace bb := Lib.hid bb
      obtain ⟨g, g1, g2, g3, g4, g5⟩ := G.top.ex
      obtain ⟨k, k1, k2, k3, k4, k5⟩ := G.bot.ex
      replace g3 := Lib.hid g3; replace k3 := Lib.hid k3; replace g4 := Lib.hid g4; replace k4 := Lib.hid k4; replace g5 := Lib.hid g5; clear k5
      have A1 := Lib.hid (A'.out.below bb.out); have B1 := Lib.hid (B'.out.below bb.out)
      have hn : an ≤ 9223372036854775807 := by have := A'.out.len; have := A'.out.cap; omega
      have hm : am ≤ 9223372036854775807 := by have := B'.out.len; have := B'.out.cap; omega
      have hn' := Lib.hid hn; have hm' := Lib.hid hm
      clear y x0 G hn hm A B
      go_wp2_with fail
      refine (same4B_any ab gb ap aq gp gq an ac am ae gn gc gm ge f h g k _ hn'.out hm'.out A1.out.sl B1.out.sl g3.out k3.out).mono ?_
      rintro e w2 ⟨r, rfl, hr, hb⟩
      have bb2 := Lib.hid (below_then bb.out (Nat.le_refl _) hb)
      replace hr := Lib.hid hr
      clear hb p0 p1 p2 p3 p4 p5
      go_wp2_with fail
      go_ret
      refine ⟨r, rfl, ?_, ?_, bb2.out⟩
      · intro e
        obtain ⟨rfl, ⟨rfl, h2⟩, rfl, h4⟩ := hr.out.1 e
        exact ⟨mkT p q, mkB p q, mk_low hE.out, ⟨g, A'.out.len, A'.out.cap, A'.out.sl.congr h2, g4.out, g5.out⟩, ⟨k, B'.out.len, B'.out.cap, B'.out.sl.congr h4, k4.out, by simp⟩⟩
      · intro P Q l R
        obtain ⟨e1, e2⟩ := yes.out P Q l R
        subst e1 e2
        obtain ⟨_, e3, e4⟩ := mk_self l
        have cf := R.top.canon A'.out; have ch := R.bot.canon B'.out
        have g4 := g4.out; have k4 := k4.out; have g5 := g5.out
        rw [e3] at g4 g5; rw [e4] at k4
        exact hr.out.2 ⟨R.top.neg.trans g5.symm, ⟨cf.len g4, cf.eq g4⟩, ch.len k4, ch.eq k4⟩
    · have h0' := Lib.hid h0
      clear y x0 G A B
      go_wp2_with fail
      go_ret
      refine ⟨false, rfl, (fun h => by cases h), ?_, bb⟩
      intro P Q l R
      obtain ⟨e1, e2⟩ := yes.out P Q l R
      subst e1 e2
      exact absurd (hE.out.symm.trans (mk_self l).1) h0'.out

end Go.Proofs.YtaepelipkkmeaaaGreat
namespace Go.Proofs.YtaepelipkkmeaaaGreat

open Go.RowKit Num

attribute [local go_sem ↓] Go.wp_at_zero Go.wp_at_succ

theorem cmp_diff (x y : Int) : (x - y).sign = cmpI x y := by
  unfold cmpI
  rcases Int.lt_trichotomy x y with h | h | h
  · rw [Int.sign_eq_neg_one_of_neg (by omega)]; simp [h] <;> omega
  · rw [h, Int.sub_self]; simp
  · rw [Int.sign_eq_one_of_pos (by omega)]; simp [Int.not_lt.2 (Int.le_of_lt h)] <;> omega

end Go.Proofs.YtaepelipkkmeaaaGreat
namespace Go.Proofs.YtaepelipkkmeaaaGreat

open Go.RowKit Num

attribute [local go_sem ↓] Go.wp_at_zero Go.wp_at_succ

/-- A slice of limbs as it is handed in, of any length. -/
structure In (w : World) (ao : Option Addr) (n nc : Nat) (f : Nat → Nat) : Prop where
  len : n ≤ nc
  cap : nc ≤ 9223372036854775807
  sl : Sl w ao n f
  lim : Lim f n

theorem In.arg {w : World} {ao : Option Addr} {n nc : Nat} {f : Nat → Nat} (h : In w ao n nc f) (hn : n ≤ 32) : Arg w ao n nc f := ⟨h.len, h.cap, by omega, h.sl, h.lim⟩

set_option maxHeartbeats 1000000 in
theorem right4_long (ab : Bool) (ap aq : Option Addr) (an ac am ae : Nat) (w : World) (h : 32 < an ∨ 32 < am) :
    Calls Tryz.prog 14 #[.agg #[.bool ab, .slice ap an ac, .slice aq am ae]] w (RightPost ab ap an ac aq am ae w) := by
  by_cases ht : 32 < an
  · have hd : decide ((32 : Int) < (an : Int)) = true := by rw [decide_eq_true_iff]; omega
    have ht' := Lib.hid ht
    clear ht h
    go_enter Tryz.func14, Tryz.ntmps14
    go_wp2_with fail
    go_ret
    exact ⟨false, rfl, (fun h => by cases h), fun P Q l R => absurd (R.top.le_len l.abs_lt) (Nat.not_le.2 ht'.out), (Below.refl _ _).alloc (Nat.le_refl _) _⟩
  have hd : decide ((32 : Int) < (an : Int)) = false := by rw [decide_eq_false_iff_not]; omega
  have hu' : Hid (32 < am) := Lib.hid (h.resolve_left ht)
  have hd2 : decide ((32 : Int) < (am : Int)) = true := by have := hu'.out; rw [decide_eq_true_iff]; omega
  clear ht h
  go_enter Tryz.func14, Tryz.ntmps14
  go_wp2_with fail
  go_ret
  exact ⟨false, rfl, (fun h => by cases h), fun P Q l R => absurd (R.bot.le_len l.bot_lt) (Nat.not_le.2 hu'.out), (Below.refl _ _).alloc (Nat.le_refl _) _⟩

theorem right4_in (ab : Bool) (ap aq : Option Addr) (an ac am ae : Nat) (f g : Nat → Nat) (w : World) (A : In w ap an ac f) (B : In w aq am ae g) :
    Calls Tryz.prog 14 #[.agg #[.bool ab, .slice ap an ac, .slice aq am ae]] w (RightPost ab ap an ac aq am ae w) := by
  by_cases h : 32 < an ∨ 32 < am
  · exact right4_long ab ap aq an ac am ae w h
  · exact right4_any ab ap aq an ac am ae f g w (A.arg (by omega)) (B.arg (by omega))

end Go.Proofs.YtaepelipkkmeaaaGreat
namespace Go.Proofs.YtaepelipkkmeaaaGreat

open Go.RowKit Num

attribute [local go_sem ↓] Go.wp_at_zero Go.wp_at_succ

set_option maxHeartbeats 2000000 in
theorem isWhole_any (ab : Bool) (ap aq : Option Addr) (an ac am ae : Nat) (P : Int) (Q : Nat) (w : World) (A : Rt w ab ap an ac aq am ae P Q) :
    Calls Tryz.prog 39 #[.agg #[.bool ab, .slice ap an ac, .slice aq am ae]] w (Says (.bool (decide (Q = 1))) w) := by
  obtain ⟨h, h1, h2, h3, h4, h5⟩ := one_or A.bot
  clear A
  rcases h5 with ⟨hQ, rfl, hz⟩ | ⟨hQ, hz⟩
  · subst hQ
    rcases h3 with h | ⟨b, off, rfl, hc⟩
    · omega
    have c1 := hc 0 (by omega)
    rw [Nat.add_zero] at c1
    rw [hz] at c1
    have hl := World.block_lt_of_cell? w _ c1
    have hne : ∀ o : Obj, (w.alloc o).cell? ⟨b, off, none⟩ = some (.int .u32 ((1 : Nat) : Int)) := fun o => (((Below.refl _ w).alloc (Nat.le_refl _) o).cell hl).trans c1
    clear hc hz h4 h1 h2
    go_enter Tryz.func39, Tryz.ntmps39
    go_wp2_with fail
    go_ret
    exact ⟨by simp, (Below.refl _ w).alloc (Nat.le_refl _) _⟩
  · by_cases h0 : am = 1
    · subst h0
      rcases h3 with h | ⟨b, off, rfl, hc⟩
      · omega
      have c1 := hc 0 (by omega)
      rw [Nat.add_zero] at c1
      have hz' : ((h 0 : Int) == 1) = false := by rw [beq_eq_false_iff_ne]; have := hz rfl; omega
      have hl := World.block_lt_of_cell? w _ c1
      have hne : ∀ o : Obj, (w.alloc o).cell? ⟨b, off, none⟩ = some (.int .u32 (h 0)) := fun o => (((Below.refl _ w).alloc (Nat.le_refl _) o).cell hl).trans c1
      have hQ' := Lib.hid hQ
      clear hc hz h4 h1 h2 hQ
      go_enter Tryz.func39, Tryz.ntmps39
      go_wp2_with fail
      go_ret
      exact ⟨by simp [hQ'.out], (Below.refl _ w).alloc (Nat.le_refl _) _⟩
    · have hd : ((am : Int) == 1) = false := by rw [beq_eq_false_iff_ne]; omega
      have hQ' := Lib.hid hQ
      clear hz h3 h4 h1 h2 hQ h0
      go_enter Tryz.func39, Tryz.ntmps39
      go_wp2_with fail
      go_ret
      exact ⟨by simp [hQ'.out], (Below.refl _ w).alloc (Nat.le_refl _) _⟩

end Go.Proofs.YtaepelipkkmeaaaGreat
namespace Go.Proofs.YtaepelipkkmeaaaGreat

open Go.RowKit Num

attribute [local go_sem ↓] Go.wp_at_zero Go.wp_at_succ

def factZ : Nat → Int
  | 0 => 1
  | n + 1 => factZ n * ((n : Int) + 1)

/-- The product of the numbers up to one, or the error. -/
def factR (P : Int) (Q : Nat) : Int × Nat × Int := if Q = 1 ∧ 0 ≤ P then (if P ≤ 200 then (mkT (factZ P.toNat) 1, mkB (factZ P.toNat) 1, mkE (factZ P.toNat) 1) else (0, 0, 7)) else (0, 0, 3)

/-- 1 less it, of 0 and 1 alone. -/
def notR (P : Int) (Q : Nat) : Int × Nat × Int := if P = 0 then (1, 1, 0) else if P = 1 ∧ Q = 1 then (0, 1, 0) else (0, 0, 3)

/-- What a function of one number tells: the top, the bottom, the error. -/
def numR (f P : Int) (Q : Nat) : Int × Nat × Int :=
  if f = 43 then (P, Q, 0) else if f = 45 then (-P, Q, 0) else if f = 215 then (cmpI P 0, 1, 0) else
  if f = 247 then (mkT ((1 : Int) * Q) (((1 : Nat) : Int) * P), mkB ((1 : Int) * Q) (((1 : Nat) : Int) * P), mkE ((1 : Int) * Q) (((1 : Nat) : Int) * P)) else
  if f = 8968 then (-((-P).fdiv Q), 1, 0) else if f = 8970 then (P.fdiv Q, 1, 0) else if f = 124 then ((P.natAbs : Int), Q, 0) else
  if f = 126 then notR P Q else if f = 33 then factR P Q else (0, 0, 8)

theorem notR_zero {P : Int} {Q : Nat} {w w' : World} {e : Ending} (h : P = 0) (k : ResPost 1 1 0 w e w') : NumRes (notR P Q) w e w' := NumRes.of k (if_pos h)

theorem notR_one {P : Int} {Q : Nat} {w w' : World} {e : Ending} (h : P = 1 ∧ Q = 1) (k : ResPost 0 1 0 w e w') : NumRes (notR P Q) w e w' := NumRes.of k (by unfold notR; rw [if_neg (by omega), if_pos h])

theorem notR_no {P : Int} {Q : Nat} {w w' : World} {e : Ending} (h : P ≠ 0) (h2 : ¬ (P = 1 ∧ Q = 1)) (k : ResPost 0 0 3 w e w') : NumRes (notR P Q) w e w' := NumRes.of k (by unfold notR; rw [if_neg h, if_neg h2])

theorem cmpI_small (x y : Int) : -1 ≤ cmpI x y ∧ cmpI x y ≤ 1 := by unfold cmpI; split <;> (try split) <;> omega

end Go.Proofs.YtaepelipkkmeaaaGreat
