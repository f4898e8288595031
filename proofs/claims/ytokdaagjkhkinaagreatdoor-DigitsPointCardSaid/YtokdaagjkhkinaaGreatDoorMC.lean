/-
  Plain facts on the document's answers: numbers doubled, their bits, products and quotients bit by bit, the steps of a greatest divisor.
  scrimref02.longer, limb, Cmp, Add, Sub, twice and Bit: the document's answers, as they are reckoned.
  scrimref02.Text.
  A number times a scale and a number, in place: plain facts; the bytes of a text as a number.
  nat.appendDigits.
  nat.Parse.
  scrimref02.Parse.
  scrimlaw02.awake: chapter 2's examples hold.
  scrimlaw02.NatTexts, walked.
  Whole numbers with a sign: what the walks say of them ('Whole': a sign and a slice of limbs make this number; 'IntPost': a call hands back this number, its limbs without noughts on top, its sign below 0 alone); whole.signed and whole.Norm.
  whole.Sign, whole.Cmp, whole.Of.
-/
import Derived.Test.YtokdaagjkhkinaaGreatDoorMB
import Derived.Laws.AppendOwnNone
import Derived.Deep.RegionHeld3
import Derived.Deep.DrawnRows
namespace Go.Proofs.YtokdaagjkhkinaaGreatDoor.Num

theorem twice_step {S A c c' s x P b : Nat} (h : S + c * P = 2 * A + b) (e : s + 4294967296 * c' = 2 * x + c) : S + s * P + c' * (4294967296 * P) = 2 * (A + x * P) + b := by
  have e' := congrArg (· * P) e
  simp only [Nat.add_mul] at e'
  have h1 : c' * (4294967296 * P) = 4294967296 * c' * P := by rw [Nat.mul_left_comm, Nat.mul_assoc]
  have h2 : 2 * (A + x * P) = 2 * A + 2 * x * P := by rw [Nat.mul_add, Nat.mul_assoc]
  omega

theorem twice_end {S A c b n : Nat} (h : S + c * pw (n + 1) = 2 * A + b) (hA : A < pw n) (hb : b ≤ 1) : S = 2 * A + b := by
  have hp := pw_pos n
  rw [pw_succ] at h
  by_cases h0 : c = 0
  · subst h0; omega
  · have : 1 * (4294967296 * pw n) ≤ c * (4294967296 * pw n) := Nat.mul_le_mul_right _ (by omega)
    omega

theorem sub_end {S c A B P : Nat} (h : S + B = A + c * P) (hS : S < P) (hBA : B ≤ A) : S = A - B := by
  by_cases h0 : c = 0
  · subst h0; omega
  · have : 1 * P ≤ c * P := Nat.mul_le_mul_right _ (by omega)
    omega

theorem pw_two (n : Nat) : pw n = 2 ^ (32 * n) := by
  induction n with
  | zero => rfl
  | succ n ih =>
    rw [pw_succ, ih, show 32 * (n + 1) = 32 * n + 32 by omega, Nat.pow_add, Nat.mul_comm]

/-- The i-th bit. -/
def bitAt (f : Nat → Nat) (n i : Nat) : Nat := at0 f n (i / 32) / 2 ^ (i % 32) % 2

theorem bitAt_le (f : Nat → Nat) (n i : Nat) : bitAt f n i ≤ 1 := by unfold bitAt; omega

theorem bit_low {a R s : Nat} (hs : s < 32) : (a + 4294967296 * R) / 2 ^ s % 2 = a / 2 ^ s % 2 := by
  have e : (4294967296 : Nat) = 2 ^ s * (2 * 2 ^ (31 - s)) := by
    have e1 : (2 : Nat) * 2 ^ (31 - s) = 2 ^ (32 - s) := by
      rw [Nat.mul_comm, ← Nat.pow_succ]
      congr 1
      omega
    rw [e1, ← Nat.pow_add]
    have : s + (32 - s) = 32 := by omega
    rw [this]
  have e2 : 4294967296 * R = 2 ^ s * (2 * (2 ^ (31 - s) * R)) := by
    rw [e]
    simp only [Nat.mul_assoc]
  rw [e2, Nat.add_mul_div_left _ _ (Nat.pow_pos (by decide))]
  omega

theorem val_bit {f : Nat → Nat} {n : Nat} (lf : Lim f n) (i : Nat) : val f n / 2 ^ i % 2 = bitAt f n i := by
  unfold bitAt
  have hi : i = 32 * (i / 32) + i % 32 := by omega
  have hp : (2 : Nat) ^ i = pw (i / 32) * 2 ^ (i % 32) := by
    rw [pw_two, ← Nat.pow_add, ← hi]
  rw [hp, ← Nat.div_div_eq_div_mul]
  generalize hm : i / 32 = m
  have hs : i % 32 < 32 := Nat.mod_lt _ (by decide)
  generalize i % 32 = s at hs
  by_cases h : m < n
  · rw [at0_in h]
    obtain ⟨d, rfl⟩ := Nat.le.dest (show m + 1 ≤ n by omega)
    have e : val f (m + 1 + d) = val f m + pw m * (f m + 4294967296 * val (fun j => f (m + 1 + j)) d) := by
      rw [val_add, val_succ, pw_succ, Nat.mul_add, Nat.mul_comm (f m), ← Nat.add_assoc]
      congr 1
      rw [Nat.mul_left_comm, Nat.mul_assoc, Nat.mul_left_comm]
    rw [e, Nat.add_mul_div_left _ _ (pw_pos m), Nat.div_eq_of_lt (val_lt (lf.mono (by omega))), Nat.zero_add]
    exact bit_low hs
  · rw [at0_out (by omega)]
    have : val f n < pw m := Nat.lt_of_lt_of_le (val_lt lf) (pw_le (by omega))
    rw [Nat.div_eq_of_lt this]

/-- The bits from place j on, and the one below. -/
theorem val_top {f : Nat → Nat} {n : Nat} (lf : Lim f n) (j : Nat) : val f n / 2 ^ j = 2 * (val f n / 2 ^ (j + 1)) + bitAt f n j := by
  rw [← val_bit lf j]
  have e : val f n / 2 ^ (j + 1) = val f n / 2 ^ j / 2 := by rw [Nat.pow_succ, Nat.div_div_eq_div_mul]
  rw [e]
  omega

theorem val_none {f : Nat → Nat} {n : Nat} (lf : Lim f n) : val f n / 2 ^ (32 * n) = 0 := by
  rw [← pw_two]; exact Nat.div_eq_of_lt (val_lt lf)

/-- A bit more: the quotient and the rest. -/
theorem div_bit {Z Y b : Nat} (hY : 0 < Y) (hb : b ≤ 1) :
    (Y ≤ 2 * (Z % Y) + b → (2 * Z + b) / Y = 2 * (Z / Y) + 1 ∧ (2 * Z + b) % Y = 2 * (Z % Y) + b - Y) ∧
    (2 * (Z % Y) + b < Y → (2 * Z + b) / Y = 2 * (Z / Y) ∧ (2 * Z + b) % Y = 2 * (Z % Y) + b) := by
  have e := Nat.div_add_mod Z Y
  have hr := Nat.mod_lt Z hY
  generalize hq : Z / Y = q at *
  generalize hm : Z % Y = r at *
  constructor
  · intro h
    have e1 : Y * (2 * q + 1) = 2 * (Y * q) + Y := by rw [Nat.mul_add, Nat.mul_left_comm]; omega
    exact (Nat.div_mod_unique hY).2 ⟨by omega, by omega⟩
  · intro h
    have e1 : Y * (2 * q) = 2 * (Y * q) := Nat.mul_left_comm _ _ _
    exact (Nat.div_mod_unique hY).2 ⟨by omega, by omega⟩

/-- A step of a greatest divisor halves the product. -/
theorem gcd_step {x y k T : Nat} (hyx : y < x) (hy : 0 < y) (h : x * y * 2 ^ k ≤ T) : x % y < y ∧ y * (x % y) * 2 ^ (k + 1) ≤ T := by
  have hm := Nat.mod_lt x hy
  refine ⟨hm, ?_⟩
  have e := Nat.div_add_mod x y
  have q1 : 1 ≤ x / y := (Nat.le_div_iff_mul_le hy).2 (by omega)
  have q2 : y * 1 ≤ y * (x / y) := Nat.mul_le_mul_left _ q1
  have h2 : 2 * (x % y) ≤ x := by omega
  have h3 : y * (x % y) * 2 ^ (k + 1) = y * (2 * (x % y)) * 2 ^ k := by
    rw [Nat.pow_succ, Nat.mul_comm (2 ^ k) 2, ← Nat.mul_assoc, Nat.mul_assoc y, Nat.mul_comm (x % y) 2]
  rw [h3]
  refine Nat.le_trans (Nat.mul_le_mul_right _ (Nat.mul_le_mul_left _ h2)) ?_
  rw [Nat.mul_comm y x]; exact h

theorem gcd_start {x y n m : Nat} (hx : x ≤ pw n) (hy : y ≤ pw n) (hm : 64 * n + 1 ≤ m) : x * y * 2 ^ 1 ≤ 2 ^ m := by
  have a : x * y ≤ pw n * pw n := Nat.mul_le_mul hx hy
  rw [pw_two, ← Nat.pow_add] at a
  have b : x * y * 2 ^ 1 ≤ 2 ^ (32 * n + 32 * n) * 2 ^ 1 := Nat.mul_le_mul_right _ a
  rw [← Nat.pow_add] at b
  exact Nat.le_trans b (Nat.pow_le_pow_right (by decide) (by omega))

theorem gcd_few {x y k m : Nat} (hyx : y < x) (hy : 0 < y) (h : x * y * 2 ^ k ≤ 2 ^ m) : k ≤ m := by
  have h1 : 1 ≤ x * y := Nat.mul_pos (by omega) hy
  have h2 : 1 * 2 ^ k ≤ x * y * 2 ^ k := Nat.mul_le_mul_right _ h1
  have h3 : 2 ^ k ≤ 2 ^ m := by omega
  exact (Nat.pow_le_pow_iff_right (by decide)).1 h3

end Go.Proofs.YtokdaagjkhkinaaGreatDoor.Num

namespace Go.Proofs.YtokdaagjkhkinaaGreatDoor
open Go.RowKit Num
set_option maxRecDepth 20000

set_option maxHeartbeats 400000 in
theorem longer_any (ao bo : Option Addr) (n nc m mc : Nat) (w : World) :
    Calls Tryz.prog 87 #[.slice ao n nc, .slice bo m mc] w fun e w' => e = .returned (.int .i64 (max n m : Nat)) ∧ w = w' := by
  by_cases h : m < n
  · rw [Nat.max_eq_left (by omega)]
    go_enter Tryz.func87, Tryz.ntmps87
    go_wp2_with fail
    go_ret
    exact ⟨rfl, rfl⟩
  · rw [Nat.max_eq_right (by omega)]
    go_enter Tryz.func87, Tryz.ntmps87
    go_wp2_with fail
    go_ret
    exact ⟨rfl, rfl⟩

set_option maxHeartbeats 400000 in
theorem refLimb_any (ao : Option Addr) (n cap : Nat) (i : Int) (f : Nat → Nat) (w : World) (h0 : 0 ≤ i) (hs : Sl w ao n f) (lf : Lim f n) :
    Calls Tryz.prog 88 #[.slice ao n cap, .int .i64 i] w fun e w' => e = .returned (.int .u64 (at0 f n i.toNat)) ∧ w = w' := by
  obtain ⟨i, rfl⟩ := Int.eq_ofNat_of_zero_le h0
  rw [Int.toNat_natCast]
  by_cases h : i < n
  · rw [at0_in h]
    rcases hs with rfl | ⟨b, off, rfl, hc⟩
    · omega
    · have hcell := hc i h
      have hl := lf i h
      clear hc
      go_enter Tryz.func88, Tryz.ntmps88
      go_wp2
      go_ret
      exact ⟨rfl, rfl⟩
  · rw [at0_out (by omega)]
    clear hs
    go_enter Tryz.func88, Tryz.ntmps88
    go_wp2
    go_ret
    exact ⟨rfl, rfl⟩

set_option maxHeartbeats 1000000 in
theorem refCmp_any (ao bo : Option Addr) (n nc m mc : Nat) (f g : Nat → Nat) (w : World) (A : Arg w ao n nc f) (B : Arg w bo m mc g) :
    Calls Tryz.prog 89 #[.slice ao n nc, .slice bo m mc] w fun e w' => e = .returned (.int .i64 (cmpI (val f n) (val g m))) ∧ w = w' := by
  obtain ⟨hn, hnc, hnb, hf, lf⟩ := A
  obtain ⟨hm, hmc, hmb, hg, lg⟩ := B
  obtain ⟨N, hN0⟩ : ∃ N, N = max n m := ⟨_, rfl⟩
  have hnN : n ≤ N := by omega
  have hmN : m ≤ N := by omega
  have hNb : N ≤ 1000000 := by omega
  have hN := Lib.hid hN0
  have hlf := Lib.hid lf; have hlg := Lib.hid lg; have hsf := Lib.hid hf; have hsg := Lib.hid hg
  clear hN0 hf hg lf lg
  go_enter Tryz.func89, Tryz.ntmps89
  go_wp2_with fail
  refine (longer_any ao bo n nc m mc w).mono ?_
  rw [← hN.out]
  rintro e w' ⟨rfl, rfl⟩
  go_wp2_with fail
  go_loop [5] (fun i => ∃ j : Nat, j ≤ N ∧ i = .int .i64 ((j : Int) - 1) ∧ (∀ t, j ≤ t → t < N → at0 f n t = at0 g m t)) (fun i => (intOf i + 1).toNat)
  case atStart => exact ⟨N, Nat.le_refl _, rfl, fun t h1 h2 => by omega⟩
  case round =>
    obtain ⟨j, hj, rfl, hsame0⟩ := hrel
    have hsame := Lib.hid hsame0
    clear hsame0
    by_cases h0 : j = 0
    · subst h0
      go_wp2_with fail
      go_ret
      refine ⟨ret_num ?_, rfl⟩
      rw [cmpI_eq]
      rw [← val_at0_ge hnN, ← val_at0_ge hmN, val_congr fun t ht => hsame.out t (Nat.zero_le _) ht]
    · have p1 : 0 ≤ (j : Int) - 1 := by omega
      have ej : ((j : Int) - 1).toNat = j - 1 := by omega
      have ej' := Lib.hid ej
      clear ej
      go_wp2_with fail
      refine (refLimb_any ao n nc _ f w (by omega) hsf.out hlf.out).mono ?_
      rw [ej'.out]
      rintro e w' ⟨rfl, rfl⟩
      go_wp2_with fail
      refine (refLimb_any bo m mc _ g w (by omega) hsg.out hlg.out).mono ?_
      rw [ej'.out]
      rintro e w' ⟨rfl, rfl⟩
      by_cases h1 : at0 f n (j - 1) < at0 g m (j - 1)
      · go_wp2_with fail
        go_ret
        refine ⟨ret_num ?_, rfl⟩
        rw [cmpI_lt]
        rw [← val_at0_ge hnN, ← val_at0_ge hmN]
        exact Int.ofNat_lt.2 (val_lt_of_top (at0_lim hlf.out N) (j - 1) (by omega) (fun t a b => hsame.out t (by omega) b) h1)
      · go_wp2_with fail
        refine (refLimb_any ao n nc _ f w (by omega) hsf.out hlf.out).mono ?_
        rw [ej'.out]
        rintro e w' ⟨rfl, rfl⟩
        go_wp2_with fail
        refine (refLimb_any bo m mc _ g w (by omega) hsg.out hlg.out).mono ?_
        rw [ej'.out]
        rintro e w' ⟨rfl, rfl⟩
        by_cases h2 : at0 g m (j - 1) < at0 f n (j - 1)
        · go_wp2_with fail
          go_ret
          refine ⟨ret_num ?_, rfl⟩
          rw [cmpI_gt]
          rw [← val_at0_ge hnN, ← val_at0_ge hmN]
          exact Int.ofNat_lt.2 (val_lt_of_top (at0_lim hlg.out N) (j - 1) (by omega) (fun t a b => (hsame.out t (by omega) b).symm) h2)
        · go_wp2_with fail
          go_round
          case rel =>
            refine ⟨j - 1, by omega, int_eq (by omega), fun t a b => ?_⟩
            by_cases ht : t = j - 1
            · rw [ht]; omega
            · exact hsame.out t (by omega) b
          case measure => simp [intOf]; omega

theorem cells_snoc (F : Nat → Nat) (j x : Nat) (v : Int) (h : v = (x : Int)) : limbCells F j ++ [Value.int .u32 v] = limbCells (put F j x) (j + 1) := by
  subst h
  unfold limbCells
  rw [List.range_succ, List.map_append]
  congr 1
  · exact List.map_congr_left fun t ht => by rw [put_ne (by have := List.mem_range.1 ht; omega)]
  · simp [put_at]

theorem put_snoc_lim {F : Nat → Nat} {j x : Nat} (h : Lim F j) (hx : x < 4294967296) : Lim (put F j x) (j + 1) := by
  intro t ht
  by_cases c : t = j
  · rw [c, put_at]; exact hx
  · rw [put_ne c]; exact h t (by omega)

theorem one_at (w : World) (v : Value) (t : TypeId) : ∀ j u, [v][j]? = some u → (w.alloc (.cells #[v] t)).cell? ((⟨w.heap.size, 0, none⟩ : Addr).add j) = some u := by
  intro j u h
  match j, h with
  | 0, h =>
    simp at h
    subst h
    simp [Addr.add]

/-- One limb more behind those that the call's own slice holds. -/
theorem wpList_append_limb {P : Program} {w0 : World} {ops : Array Oper} {rest : List Oper} {o : Oper} {a : Act} {Q : Exit → Act → World → Prop} (hgd : o.guard = none) (s x : Operand) (t : TypeId)
    (ho : o.op = .call { callee := .builtin .append, args := #[s, x], argTypes := #[t, t] }) (base : Nat) (e : TypeId) (i : TypeInfo) (ht : P.underlying t = some (.slice e)) (hi : P.info? e = some i)
    (hz : i.zero = some (Value.int .u32 0)) (h1 : i.size = 1) (h4 : i.bytes = 4) (v : Value) (n : Nat) (F : Nat → Nat) (tt : TypeId) (z : Int) (y : Nat) (hs : a.eval s = v) (hx : a.eval x = .slice (some ⟨w0.heap.size, 0, none⟩) 1 1)
    (hown : w0.ownsRow base e 1 v n (limbCells F n)) (hzy : z = (y : Int)) (hn : n ≤ 1000000) (hb : base ≤ w0.heap.size)
    (h : ∀ v' w', w'.ownsRow base e 1 v' (n + 1) (limbCells (put F n y) (n + 1)) → Below base w0 w' → wpList P ops Q rest (a.put o.dst v') w') :
    wpList P ops Q (o :: rest) a (w0.alloc (.cells #[.int .u32 z] tt)) := by
  refine wpList_append_own _ hgd s x t ho base e i (.int .u32 0) 1 4 ht hi hz h1 h4 rfl (by decide) v n (limbCells F n) hs (hown.alloc _) ⟨w0.heap.size, 0, none⟩ 1 1 [.int .u32 z] hx rfl (one_at w0 _ tt) ?_ (by unfold maxLen; omega) (by omega) (by simp; omega) ?_
  · intro u hu
    simp at hu
    subst hu
    rfl
  · intro v' w' hown' hgr _
    rw [cells_snoc F n y z hzy] at hown'
    refine h v' w' hown' ?_
    exact ((Below.refl base w0).alloc hb _).grown hgr (by simp; omega) (fun k hk => (hown.lt k hk).1)

set_option maxHeartbeats 1000000 in
theorem refAdd_any (ao bo : Option Addr) (n nc m mc : Nat) (f g : Nat → Nat) (w : World) (A : Arg w ao n nc f) (B : Arg w bo m mc g) (hsum : max n m < 1000000) :
    Calls Tryz.prog 56 #[.slice ao n nc, .slice bo m mc] w (NumPost (val f n + val g m) w) := by
  obtain ⟨i32, hi, hz0, hz1, hz2⟩ := info_parts info32
  obtain ⟨hn, hnc, hnb, hf, lf⟩ := A
  obtain ⟨hm, hmc, hmb, hg, lg⟩ := B
  obtain ⟨N, hN0⟩ : ∃ N, N = max n m := ⟨_, rfl⟩
  have hnN : n ≤ N := by omega
  have hmN : m ≤ N := by omega
  have hNb : N < 1000000 := by omega
  have hN := Lib.hid hN0
  have hlf := Lib.hid lf; have hlg := Lib.hid lg; have hsf := Lib.hid hf; have hsg := Lib.hid hg
  clear hN0 hf hg lf lg hsum
  go_enter Tryz.func56, Tryz.ntmps56
  go_wp2_with fail
  go_loopw [5, 6, 7] (fun v c i wr => ∃ (j : Nat) (F : Nat → Nat) (cn : Nat), j ≤ N + 1 ∧ i = .int .i64 j ∧ c = .int .u64 cn ∧ cn ≤ 1 ∧ wr.ownsRow w.heap.size 35 1 v j (limbCells F j) ∧ Lim F j ∧
      val F j + cn * pw j = val (at0 f n) j + val (at0 g m) j ∧ Below w.heap.size w wr) (fun _ _ i _ => N + 1 - (intOf i).toNat)
  case atStart => exact ⟨0, fun _ => 0, 0, Nat.zero_le _, rfl, rfl, by omega, World.ownsRow_nil _ _ _ _, fun j h => by omega, rfl, Below.refl _ _⟩
  case round =>
    obtain ⟨j, F, cn, hj, rfl, rfl, hc, hown0, hlim0, hval0, hbel0⟩ := hrel
    have hown := Lib.hid hown0; have hlim := Lib.hid hlim0; have hval := Lib.hid hval0; have hbel := Lib.hid hbel0
    clear hown0 hlim0 hval0 hbel0
    have bf := at0_lt hlf.out j
    have bg := at0_lt hlg.out j
    go_wp2_with fail
    refine (longer_any ao bo n nc m mc _).mono ?_
    rw [← hN.out]
    rintro e w' ⟨rfl, rfl⟩
    by_cases hlt : j < N + 1
    · go_wp2_with fail
      refine (refLimb_any ao n nc j f wr (by omega) (hsf.out.below hbel.out) hlf.out).mono ?_
      rw [Int.toNat_natCast]
      rintro e w' ⟨rfl, rfl⟩
      go_wp2_with fail
      refine (refLimb_any bo m mc j g wr (by omega) (hsg.out.below hbel.out) hlg.out).mono ?_
      rw [Int.toNat_natCast]
      rintro e w' ⟨rfl, rfl⟩
      go_wp2_with (at_builtin; refine wpList_append_limb rfl (.tmp 25) (.tmp 29) 22 rfl w.heap.size 35 i32 Tryz.underlying22 hi hz0 hz1 hz2 _ j F _ _ ((at0 f n j + at0 g m j + cn) % 4294967296) rfl rfl hown.out (by omega) (by omega) hbel.out.size ?_)
      intro v' w1 hown1 hb1
      have hown' := Lib.hid hown1; have hbel' := Lib.hid (hbel.out.trans hb1)
      clear hown1 hb1
      go_wp2_with fail
      go_roundw
      case rel =>
        refine ⟨j + 1, put F j ((at0 f n j + at0 g m j + cn) % 4294967296), (at0 f n j + at0 g m j + cn) / 4294967296, by omega, by go_num, int_eq (by omega), by omega, hown'.out, ?_, ?_, hbel'.out⟩
        · exact put_snoc_lim hlim.out (Nat.mod_lt _ (by decide))
        · rw [val_put_succ, val_succ, val_succ, pw_succ]
          exact sum_step hval.out (by omega)
      case measure => simp [intOf]; omega
    · obtain rfl : j = N + 1 := by omega
      obtain ⟨ao', cap', rfl, g1, g2, g3⟩ := owns_slice hown.out
      have A' := Lib.hid (show Arg wr ao' (N + 1) cap' F from ⟨g1, g2, by omega, g3, hlim.out⟩)
      have hown' := Lib.hid hown.out
      clear g3
      go_wp2_with fail
      refine (refNorm_any ao' (N + 1) cap' F wr A'.out).mono ?_
      rintro e w2 ⟨bo', p, pc, h, rfl, hp, hpc, hsp, hcp, hb⟩
      have hsp' := Lib.hid hsp; have hcp' := Lib.hid hcp; have hbel' := Lib.hid (hbel.out.trans (hb.mono hbel.out.size))
      clear hsp hcp hb
      go_wp2_with fail
      go_ret
      refine ⟨bo', p, pc, h, rfl, hp, hpc, hsp'.out, ?_, hbel'.out⟩
      have e1 := hval.out
      rw [val_at0_ge (by omega), val_at0_ge (by omega)] at e1
      have a1 : val f n < pw N := Nat.lt_of_lt_of_le (val_lt hlf.out) (pw_le hnN)
      have a2 : val g m < pw N := Nat.lt_of_lt_of_le (val_lt hlg.out) (pw_le hmN)
      rw [← (sum_end e1 a1 a2).1]
      exact hcp'.out

end Go.Proofs.YtokdaagjkhkinaaGreatDoor

namespace Go.Proofs.YtokdaagjkhkinaaGreatDoor
open Go.RowKit Num

/-- One limb ahead of others. -/
def pre (x : Nat) (f : Nat → Nat) (j : Nat) : Nat := if j = 0 then x else f (j - 1)

theorem pre_zero (x : Nat) (f : Nat → Nat) : pre x f 0 = x := rfl

theorem pre_succ (x : Nat) (f : Nat → Nat) (j : Nat) : pre x f (j + 1) = f j := rfl

theorem pre_lim {x n : Nat} {f : Nat → Nat} (h : Lim f n) (hx : x < 4294967296) : Lim (pre x f) (n + 1) := by
  intro j hj
  cases j with
  | zero => exact hx
  | succ j => exact h j (by omega)

theorem val_pre (x n : Nat) (f : Nat → Nat) : val (pre x f) (n + 1) = x + 4294967296 * val f n := by
  have e := val_cons' (pre x f) 0 n
  rw [val_congr (f := fun t => pre x f (0 + t)) (g := pre x f) (fun t _ => by rw [Nat.zero_add]), val_congr (f := fun t => pre x f (0 + 1 + t)) (g := f) (fun t _ => by rw [Nat.zero_add, Nat.add_comm 1 t]; rfl)] at e
  exact e

theorem cells_pre (x n : Nat) (f : Nat → Nat) : Value.int .u32 (x : Int) :: limbCells f n = limbCells (pre x f) (n + 1) := by
  unfold limbCells
  rw [List.range_succ_eq_map, List.map_cons, List.map_map]
  rfl

theorem owns_new (w : World) (v : Value) (t : TypeId) (base : Nat) (hb : base ≤ w.heap.size) : (w.alloc (.cells #[v] t)).ownsRow base t 1 (.slice (some ⟨w.heap.size, 0, none⟩) 1 1) 1 [v] := by
  refine ⟨rfl, .inr ⟨w.heap.size, 1, #[v], rfl, hb, ?_, Nat.le_refl _, by decide, rfl, rfl⟩⟩
  show (w.heap.push _)[w.heap.size]? = _
  simp

/-- The limbs of the call's own behind a new one. -/
theorem wpList_prepend {P : Program} {w0 : World} {ops : Array Oper} {rest : List Oper} {o : Oper} {a : Act} {Q : Exit → Act → World → Prop} (hgd : o.guard = none) (s x : Operand) (t : TypeId)
    (ho : o.op = .call { callee := .builtin .append, args := #[s, x], argTypes := #[t, t] }) (base : Nat) (e : TypeId) (i : TypeInfo) (ht : P.underlying t = some (.slice e)) (hi : P.info? e = some i)
    (hz : i.zero = some (Value.int .u32 0)) (h1 : i.size = 1) (h4 : i.bytes = 4) (v : Value) (n : Nat) (H : Nat → Nat) (z : Int) (q : Nat) (hs : a.eval s = .slice (some ⟨w0.heap.size, 0, none⟩) 1 1) (hx : a.eval x = v)
    (hown : w0.ownsRow base e 1 v n (limbCells H n)) (hzq : z = (q : Int)) (hn : n ≤ 1000000) (hb : base ≤ w0.heap.size)
    (h : ∀ v' w', w'.ownsRow base e 1 v' (n + 1) (limbCells (pre q H) (n + 1)) → Below base w0 w' → wpList P ops Q rest (a.put o.dst v') w') :
    wpList P ops Q (o :: rest) a (w0.alloc (.cells #[.int .u32 z] e)) := by
  subst hzq
  have hnew := owns_new w0 (.int .u32 (q : Int)) e base hb
  have hbel := (Below.refl base w0).alloc hb (.cells #[.int .u32 (q : Int)] e)
  rcases hown.2 with ⟨rfl, rfl⟩ | ⟨g, cap, cur, rfl, _⟩
  · exact wpList_append_own_none hgd s x t ho base e i 1 ht hi _ 1 _ hs hnew hx (h _ _ (by rw [← cells_pre]; exact hnew) hbel)
  · have hown2 := hown.alloc (.cells #[.int .u32 (q : Int)] e)
    refine wpList_append_own _ hgd s x t ho base e i (.int .u32 0) 1 4 ht hi hz h1 h4 rfl (by decide) _ 1 _ hs hnew ⟨g, 0, none⟩ n cap (limbCells H n) hx (by rw [limbCells_length, Nat.mul_one])
      (limbCells_at (b := g) (off := 0) (n := n) (f := H) (fun j hj => by rw [Nat.zero_add, hown2.cellAt j (by omega), limbCells_get H n j hj])) (limbCells_one H n) (by unfold maxLen; omega) (by omega) (by simp; omega) ?_
    intro v' w' hown' hgr _
    refine h v' w' ?_ (hbel.grown hgr (by simp; omega) (fun k hk => (hnew.lt k hk).1))
    rw [← cells_pre, Nat.add_comm n 1]
    exact hown'

theorem digit_ahead (R : Nat) (hR : R < 10) (s : ByteArray) : ((ByteArray.mk #[48, 49, 50, 51, 52, 53, 54, 55, 56, 57]).extract R (R + 1) ++ s).data.toList = UInt8.ofNat (48 + R) :: s.data.toList := by
  have : ((ByteArray.mk #[48, 49, 50, 51, 52, 53, 54, 55, 56, 57]).extract R (R + 1)).data.toList = [UInt8.ofNat (48 + R)] := by
    match R, hR with
    | 0, _ => rfl
    | 1, _ => rfl
    | 2, _ => rfl
    | 3, _ => rfl
    | 4, _ => rfl
    | 5, _ => rfl
    | 6, _ => rfl
    | 7, _ => rfl
    | 8, _ => rfl
    | 9, _ => rfl
  rw [ByteArray.data_append, Array.toList_append, this]
  rfl

theorem digBytes_snoc (d : Nat → Nat) (L R : Nat) : UInt8.ofNat (48 + R) :: digBytes d L = digBytes (put d L R) (L + 1) := by
  unfold digBytes
  rw [List.range_succ_eq_map, List.map_cons, List.map_map]
  congr 1
  · rw [show L + 1 - 1 - 0 = L by omega, put_at]
  · exact List.map_congr_left fun j hj => by
      have := List.mem_range.1 hj
      show _ = UInt8.ofNat (48 + put d L R (L + 1 - 1 - (j + 1)))
      rw [put_ne (by omega), show L + 1 - 1 - (j + 1) = L - 1 - j by omega]

set_option maxRecDepth 20000 in
set_option maxHeartbeats 4000000 in
theorem refText_any (ao : Option Addr) (n nc : Nat) (f : Nat → Nat) (w : World) (A : Arg w ao n nc f) (h40 : n ≤ 40) :
    Calls Tryz.prog 25 #[.slice ao n nc] w (TextPost (val f n) w) := by
  obtain ⟨i32, hi, hz0, hz1, hz2⟩ := info_parts info32
  have hV0 : val f n < pw 40 := Nat.lt_of_lt_of_le (val_lt A.lim) (pw_le h40)
  have hA := Lib.hid A
  clear A
  obtain ⟨V0, hV⟩ : ∃ V0, V0 = val f n := ⟨_, rfl⟩
  rw [← hV] at hV0 ⊢
  have hV' := Lib.hid hV; have hVs := Lib.hid hV0
  clear hV hV0
  go_enter Tryz.func25, Tryz.ntmps25
  go_wp2_with fail
  refine (refNorm_any ao n nc f w hA.out).mono ?_
  rw [← hV'.out]
  rintro e w1 ⟨xo, k, kc, F0, rfl, hk, hkc, hs0, hc0, hb0⟩
  have hs1 := Lib.hid hs0; have hc1 := Lib.hid hc0; have hb1 := Lib.hid hb0
  have hk40 : k ≤ 40 := hc0.len_le hVs.out
  clear hs0 hc0 hb0
  by_cases h0 : k = 0
  · subst h0
    have hv0 : V0 = 0 := hc1.out.ne_zero.1 rfl
    subst hv0
    go_wp2_with fail
    go_ret
    exact ⟨0, fun _ => 0, _, rfl, ⟨fun j h => by omega, .inl rfl, rfl⟩, rfl, hb1.out⟩
  · have hkz : ((k : Int) == 0) = false := by rw [beq_eq_false_iff_ne]; omega
    have hVp := Lib.hid (Nat.pos_of_ne_zero (fun e => h0 (hc1.out.ne_zero.2 e)))
    clear h0
    go_wp2_with fail
    go_loopg [3, 4] V0 (fun V xv sv wr => ∃ (L k : Nat) (xo : Option Addr) (kc : Nat) (F d : Nat → Nat) (s : ByteArray), xv = .slice xo k kc ∧ sv = .string s ∧ k ≤ 40 ∧ k ≤ kc ∧ kc ≤ 9223372036854775807 ∧ Sl wr xo k F ∧ Canon V k F ∧ s.data.toList = digBytes d L ∧ Dig d L ∧
      dval d L + 10 ^ L * V = V0 ∧ (V = 0 → 0 < L ∧ Top d L) ∧ Below w.heap.size w wr ∧ w1.heap.size ≤ wr.heap.size)
    case atStart =>
      exact ⟨0, k, xo, kc, F0, fun _ => 0, _, rfl, rfl, hk40, hk, hkc, hs1.out, hc1.out, rfl, fun j h => by omega, by simp [dval], fun h => absurd h (Nat.ne_of_gt hVp.out), hb1.out, Nat.le_refl _⟩
    case round =>
      clear hs1 hc1 hkz hVp
      obtain ⟨L, k, xo, kc, F, d, s, rfl, rfl, hk40, hk, hkc, hs0, hc0, hst0, hdig0, hval0, htop0, hbel0, hsz⟩ := hrel
      have hs := Lib.hid hs0; have hc := Lib.hid hc0; have hst := Lib.hid hst0; have hdig := Lib.hid hdig0; have hval := Lib.hid hval0; have htop := Lib.hid htop0; have hbel := Lib.hid hbel0
      clear hs0 hc0 hst0 hdig0 hval0 htop0 hbel0
      by_cases h0 : k = 0
      · subst h0
        have hv0 : gk = 0 := hc.out.ne_zero.1 rfl
        go_wp2_with fail
        go_ret
        refine ⟨L, d, _, rfl, ⟨hdig.out, (htop.out hv0).2, ?_⟩, ?_, hbel.out⟩
        · have := hval.out
          rw [hv0, Nat.mul_zero] at this
          exact this
        · unfold decText
          rw [if_neg (Nat.ne_of_gt (htop.out hv0).1)]
          exact hst.out
      · have hVp := Lib.hid (Nat.pos_of_ne_zero (fun e => h0 (hc.out.ne_zero.2 e)))
        have hL := dec_few (M := 40) hval.out hVp.out hVs.out
        have hlim := Lib.hid hc.out.lim
        have hss : s.size = L := by
          have := congrArg List.length hst.out
          simpa [digBytes] using this
        rename World => wo
        rcases hs.out with hk | ⟨b, off, rfl, hcl0⟩
        · omega
        have hcl := Lib.hid hcl0
        clear hcl0
        go_wp2_with fail
        simp only [Nat.pos_of_ne_zero h0, decide_true]
        go_loopw [5, 6, 7] (fun ov rv iv wi => ∃ (c j R : Nat) (H : Nat → Nat), c + j = k ∧ iv = .int .i64 ((j : Int) - 1) ∧ rv = .int .u64 R ∧ R < 10 ∧ wi.ownsRow wo.heap.size 35 1 ov c (limbCells H c) ∧ Lim H c ∧
            val (fun t => F (j + t)) c = 10 * val H c + R ∧ Below wo.heap.size wo wi) (fun _ _ iv _ => (intOf iv + 1).toNat)
        case atStart =>
          refine ⟨0, k, 0, fun _ => 0, by omega, rfl, rfl, by omega, World.ownsRow_nil _ _ _ _, fun j h => by omega, ?_, Below.refl _ _⟩
          rw [val_zero, val_zero]
        case round =>
          obtain ⟨c, j, R, H, hcj, rfl, rfl, hR, hown0, hlimH0, hval0, hbel0⟩ := hrel
          have hown := Lib.hid hown0; have hlimH := Lib.hid hlimH0; have hvalH := Lib.hid hval0; have hbelH := Lib.hid hbel0
          clear hown0 hlimH0 hval0 hbel0
          by_cases hj0 : j = 0
          · subst hj0
            obtain rfl : c = k := by omega
            obtain ⟨ao', cap', rfl, g1, g2, g3⟩ := owns_slice hown.out
            have A' := Lib.hid (show Arg wr ao' c cap' H from ⟨g1, g2, by omega, g3, hlimH.out⟩)
            clear g3
            go_wp2_with fail
            refine (refNorm_any ao' c cap' H wr A'.out).mono ?_
            rintro e w2 ⟨bo', p, pc, h, rfl, hp, hpc, hsp, hcp, hb⟩
            have hsp' := Lib.hid hsp; have hcp' := Lib.hid hcp; have hbel' := Lib.hid ((hbel.out.trans (hbelH.out.mono hbel.out.size)).trans (hb.mono (Nat.le_trans hbel.out.size hbelH.out.size)))
            have hsz' := Nat.le_trans hbelH.out.size hb.size
            have hVe := Lib.hid (show gk = 10 * val H c + R by rw [← hc.out.val, ← hvalH.out]; exact val_congr fun t _ => by rw [Nat.zero_add])
            have hp40 : p ≤ 40 := hcp.len_le (Nat.lt_of_le_of_lt (show val H c ≤ V0 by
              have e1 := hval.out
              have e2 : 1 * gk ≤ 10 ^ L * gk := Nat.mul_le_mul_right _ (ten_pos L)
              have := hVe.out
              omega) hVs.out)
            clear hsp hcp hb
            go_wp2_with fail
            go_roundg (val H c)
            case measure =>
              have := hVe.out
              have := hVp.out
              omega
            case rel =>
              refine ⟨L + 1, p, bo', pc, h, put d L R, _, rfl, rfl, hp40, hp, hpc, hsp'.out, hcp'.out, ?_, put_dig hdig.out hR, ?_, fun h0 => ⟨by omega, .inr ?_⟩, hbel'.out, Nat.le_trans hsz hsz'⟩
              · rw [digit_ahead R hR, hst.out, digBytes_snoc]
              · have e := group_step (T := 0) hval.out
                rw [hVe.out, show (10 * val H c + R) % 10 = R by omega, show (10 * val H c + R) / 10 = val H c by omega] at e
                exact e
              · rw [Nat.add_sub_cancel, put_at]
                have := hVe.out
                have := hVp.out
                omega
          · obtain ⟨t, rfl⟩ : ∃ t, j = t + 1 := ⟨j - 1, by omega⟩
            have hcell := (hbelH.out.cell (World.block_lt_of_cell? wo _ (hcl.out t (by omega)))).trans (hcl.out t (by omega))
            have hx := hlim.out t (by omega)
            have hq : (R * 4294967296 + F t) / 10 < 4294967296 := by omega
            clear hj0
            go_wp2_with (at_builtin; refine wpList_prepend rfl (.tmp 35) (.tmp 36) 22 rfl wo.heap.size 35 i32 Tryz.underlying22 hi hz0 hz1 hz2 _ c H _ ((R * 4294967296 + F t) / 10) rfl rfl hown.out (by omega) (by omega) hbelH.out.size ?_)
            intro v' w4 hown1 hb1
            have hown4 := Lib.hid hown1; have hbel4 := Lib.hid (hbelH.out.trans hb1)
            clear hown1 hb1
            go_wp2_with fail
            go_roundw
            case rel =>
              refine ⟨c + 1, t, (R * 4294967296 + F t) % 10, pre ((R * 4294967296 + F t) / 10) H, by omega, int_eq (by omega), int_eq (by omega), by omega, hown4.out, pre_lim hlimH.out hq, ?_, hbel4.out⟩
              rw [val_cons', hvalH.out, val_pre]
              omega
            case measure => simp [intOf]

end Go.Proofs.YtokdaagjkhkinaaGreatDoor

namespace Go.Proofs.YtokdaagjkhkinaaGreatDoor
open Go.RowKit Num

theorem Num.scale_step {S A c c' s x P m g : Nat} (h : S + c * P = A * m + g) (e : s + 4294967296 * c' = c + x * m) : S + s * P + c' * (4294967296 * P) = (A + x * P) * m + g := by
  have e' := congrArg (· * P) e
  simp only [Nat.add_mul] at e'
  have h1 : c' * (4294967296 * P) = 4294967296 * c' * P := by rw [Nat.mul_left_comm, Nat.mul_assoc]
  have h2 : (A + x * P) * m = A * m + x * m * P := by rw [Nat.add_mul, Nat.mul_assoc, Nat.mul_assoc, Nat.mul_comm P m]
  omega

theorem Num.top_of_big {G : Nat → Nat} {n : Nat} (hG : Lim G n) (h : ∀ m, n = m + 1 → pw m ≤ val G n) : Top G n := by
  cases n with
  | zero => exact .inl rfl
  | succ m =>
    refine .inr (fun e => ?_)
    have h1 := h m rfl
    rw [Nat.add_sub_cancel] at e
    rw [val_nought e] at h1
    have := val_lt (hG.mono (Nat.le_succ m))
    omega

theorem Num.scale_end {F G : Nat → Nat} {V W n c : Nat} (hF : Canon V n F) (hG : Lim G n) (h : val G n + c * pw n = W) (hVW : V ≤ W) :
    (c = 0 → Canon W n G) ∧ (c ≠ 0 → c < 4294967296 → Canon W (n + 1) (put G n c)) := by
  refine ⟨fun c0 => ?_, fun c0 hc => ⟨put_snoc_lim hG hc, .inr ?_, ?_⟩⟩
  · rw [c0, Nat.zero_mul, Nat.add_zero] at h
    refine ⟨hG, top_of_big hG (fun m hm => ?_), h⟩
    subst hm
    rcases hF.top with h0 | h0
    · omega
    · rw [Nat.add_sub_cancel] at h0
      have := val_ge h0
      rw [hF.val] at this
      omega
  · rw [Nat.add_sub_cancel, put_at]
    exact c0
  · rw [val_put_succ]
    exact h

/-- The value of the first digits of a text. -/
def sval (s : ByteArray) : Nat → Nat
  | 0 => 0
  | n + 1 => sval s n * 10 + (byt s n - 48)

theorem cells_set (F : Nat → Nat) (n i x : Nat) (v : Int) (h : v = (x : Int)) : (limbCells F n).set i (.int .u32 v) = limbCells (put F i x) n := by
  subst h
  refine List.ext_getElem? fun j => ?_
  rw [List.getElem?_set]
  by_cases hj : j < n
  · rw [limbCells_get (put F i x) n j hj, limbCells_length, limbCells_get F n j hj]
    by_cases e : i = j
    · subst e
      rw [if_pos rfl, if_pos hj, put_at]
    · rw [if_neg e, put_ne (fun h => e h.symm)]
  · rw [List.getElem?_eq_none (l := limbCells (put F i x) n) (by rw [limbCells_length]; omega), List.getElem?_eq_none (l := limbCells F n) (by rw [limbCells_length]; omega)]
    split
    · rw [if_neg (by rw [limbCells_length]; omega)]
    · rfl

theorem owns_set {w : World} {base g cap n : Nat} {t : TypeId} {F : Nat → Nat} (h : w.ownsRow base t 1 (.slice (some ⟨g, 0, none⟩) n cap) n (limbCells F n)) (i x : Nat) (v : Int) (hv : v = (x : Int)) :
    (w.setCell ⟨g, i, none⟩ (.int .u32 v)).ownsRow base t 1 (.slice (some ⟨g, 0, none⟩) n cap) n (limbCells (put F i x) n) := by
  rw [← cells_set F n i x v hv]
  exact (h.stored i _).1

end Go.Proofs.YtokdaagjkhkinaaGreatDoor

namespace Go.Proofs.YtokdaagjkhkinaaGreatDoor
open Go.RowKit Num

/-- Digits alone. -/
def DigT (s : ByteArray) : Prop := ∀ j, j < s.size → 48 ≤ byt s j ∧ byt s j ≤ 57

theorem sval_lt {s : ByteArray} (h : DigT s) : ∀ j, j ≤ s.size → sval s j < 10 ^ j
  | 0, _ => Nat.zero_lt_one
  | j + 1, hj => by
    have a := sval_lt h j (by omega)
    have b := h j (by omega)
    have e : sval s (j + 1) = sval s j * 10 + (byt s j - 48) := rfl
    rw [ten_succ, e]
    omega

def DigPost (base W : Nat) (w : World) (e : Ending) (w' : World) : Prop :=
  ∃ (v : Value) (n : Nat) (F : Nat → Nat), e = .returned v ∧ w'.ownsRow base 35 1 v n (limbCells F n) ∧ Canon W n F ∧ Below base w w'

set_option maxRecDepth 20000 in
set_option maxHeartbeats 2000000 in
theorem appendDigits_some (base n g cap : Nat) (F : Nat → Nat) (V : Nat) (gs : ByteArray) (w : World) (hown : w.ownsRow base 35 1 (.slice (some ⟨g, 0, none⟩) n cap) n (limbCells F n)) (hc : Canon V n F) (hb : base ≤ w.heap.size) (hgb : base ≤ g)
    (hnc : n ≤ cap) (_hcm : cap ≤ 9223372036854775807) (hn : n ≤ 100000) (hd : DigT gs) (h9 : gs.size ≤ 9) :
    Calls Tryz.prog 78 #[.slice (some ⟨g, 0, none⟩) n cap, .string gs] w (DigPost base (V * 10 ^ gs.size + sval gs gs.size) w) := by
  obtain ⟨i32, hi, hz0, hz1, hz2⟩ := info_parts info32
  have hown' := Lib.hid hown; have hc' := Lib.hid hc; have hd' := Lib.hid hd
  clear hown hc hd
  go_enter Tryz.func78, Tryz.ntmps78
  go_wp2_with fail
  go_loop [5, 6, 12] (fun sc cr i => ∃ j p q : Nat, j ≤ gs.size ∧ i = .int .i64 j ∧ sc = .int .u64 p ∧ cr = .int .u64 q ∧ p = 10 ^ j ∧ q = sval gs j) (fun _ _ i => gs.size - (intOf i).toNat)
  case atStart => exact ⟨0, 1, 0, Nat.zero_le _, rfl, rfl, rfl, rfl, rfl⟩
  case round =>
    obtain ⟨j, p, q, hj, rfl, rfl, rfl, hp0, hq0⟩ := hrel
    have hql : q < p := by rw [hp0, hq0]; exact sval_lt hd'.out j hj
    have hp := Lib.hid hp0; have hq := Lib.hid hq0
    have hpl : p ≤ 1000000000 := by rw [hp0]; exact ten_le (m := 9) (by omega)
    by_cases hlt : j < gs.size
    · have hbt := byt_at gs j hlt
      have hb1 := (hd'.out j hlt).1
      have hb2 := (hd'.out j hlt).2
      clear hp0 hq0
      go_wp2_with fail
      go_round
      case rel =>
        refine ⟨j + 1, p * 10, q * 10 + (byt gs j - 48), by omega, by go_num, int_eq (by omega), int_eq (by omega), ?_, ?_⟩
        · rw [ten_succ, hp.out, Nat.mul_comm]
        · rw [hq.out]; rfl
      case measure => simp [intOf]; omega
    · obtain rfl : j = gs.size := by omega
      clear hp0 hq0
      go_wp2_with fail
      go_loopw [6, 28] (fun cr i wr => ∃ (j c : Nat) (G : Nat → Nat), j ≤ n ∧ i = .int .i64 j ∧ cr = .int .u64 c ∧ c < 4294967296 ∧ wr.ownsRow base 35 1 (.slice (some ⟨g, 0, none⟩) n cap) n (limbCells G n) ∧ Lim G n ∧ (∀ t, j ≤ t → G t = F t) ∧
          val G j + c * pw j = val F j * p + q ∧ w.grownBy wr (some g)) (fun _ i _ => n - (intOf i).toNat)
      case atStart =>
        exact ⟨0, q, F, Nat.zero_le _, rfl, rfl, by omega, hown'.out, hc'.out.lim, fun _ _ => rfl, by simp [val, pw], grown_refl _ _⟩
      case round =>
        obtain ⟨j, c, G, hj, rfl, rfl, hc0, hown0, hlim0, hz0', hval0, hgr0⟩ := hrel
        have hown2 := Lib.hid hown0; have hlim := Lib.hid hlim0; have hz := Lib.hid hz0'; have hval := Lib.hid hval0; have hgr := Lib.hid hgr0
        clear hown0 hlim0 hz0' hval0 hgr0
        by_cases hlt : j < n
        · have hcell : wr.cell? ⟨g, j, none⟩ = some (.int .u32 (G j)) := by rw [hown2.out.cellAt j (by omega), limbCells_get G n j hlt]
          have hfree := hown2.out.frozenAt j
          have bG := hlim.out j hlt
          have hy : G j * p ≤ 4294967295 * 1000000000 := Nat.mul_le_mul (by omega) hpl
          go_wp2_with fail
          go_roundw
          case rel =>
            refine ⟨j + 1, (c + G j * p) / 4294967296, put G j ((c + G j * p) % 4294967296), by omega, by go_num, int_eq (by omega), by omega, owns_set hown2.out j _ _ (by omega), put_lim hlim.out (Nat.mod_lt _ (by decide)), ?_, ?_, ?_⟩
            · intro t ht
              rw [put_ne (by omega)]
              exact hz.out t (by omega)
            · rw [val_put_succ, val_succ, pw_succ, ← hz.out j (Nat.le_refl _)]
              exact scale_step hval.out (by omega)
            · exact grown_setCell hgr.out _ _
          case measure => simp [intOf]; omega
        · obtain rfl : j = n := by omega
          have hW := scale_end hc'.out hlim.out (W := V * 10 ^ gs.size + sval gs gs.size) (c := c) (by rw [hval.out, hc'.out.val, hp.out, hq.out]) (Nat.le_add_right_of_le (Nat.le_mul_of_pos_right _ (ten_pos _)))
          by_cases c0 : c = 0
          · have hW1 := Lib.hid (hW.1 c0)
            have cz : ((c : Int) == 0) = true := by simp [c0]
            clear hW
            go_wp2_with fail
            go_ret
            exact ⟨_, _, G, rfl, hown2.out, hW1.out, grown_below hgr.out hgb hb⟩
          · have hW1 := Lib.hid (hW.2 c0 hc0)
            have cz : ((c : Int) == 0) = false := by simp [c0]
            have hbelr := Lib.hid (grown_below hgr.out hgb hb)
            clear hW
            go_wp2_with (at_builtin; refine wpList_append_limb rfl (.tmp 49) (.tmp 52) 22 rfl base 35 i32 Tryz.underlying22 hi hz0 hz1 hz2 _ j G _ _ c rfl rfl hown2.out (by omega) (by omega) (Nat.le_trans hb hbelr.out.size) ?_)
            intro v' w1 hown1 hb1
            have hown3 := Lib.hid hown1; have hbel3 := Lib.hid (hbelr.out.trans hb1)
            clear hown1 hb1
            go_wp2_with fail
            go_ret
            exact ⟨_, _, _, rfl, hown3.out, hW1.out, hbel3.out⟩

set_option maxRecDepth 20000 in
set_option maxHeartbeats 2000000 in
theorem appendDigits_none (base : Nat) (F : Nat → Nat) (gs : ByteArray) (w : World) (hb : base ≤ w.heap.size) (hd : DigT gs) (h9 : gs.size ≤ 9) :
    Calls Tryz.prog 78 #[.slice none 0 0, .string gs] w (DigPost base (sval gs gs.size) w) := by
  obtain ⟨i32, hi, hz0, hz1, hz2⟩ := info_parts info32
  have hd' := Lib.hid hd
  clear hd
  go_enter Tryz.func78, Tryz.ntmps78
  go_wp2_with fail
  go_loop [5, 6, 12] (fun sc cr i => ∃ j p q : Nat, j ≤ gs.size ∧ i = .int .i64 j ∧ sc = .int .u64 p ∧ cr = .int .u64 q ∧ p = 10 ^ j ∧ q = sval gs j) (fun _ _ i => gs.size - (intOf i).toNat)
  case atStart => exact ⟨0, 1, 0, Nat.zero_le _, rfl, rfl, rfl, rfl, rfl⟩
  case round =>
    obtain ⟨j, p, q, hj, rfl, rfl, rfl, hp0, hq0⟩ := hrel
    have hql : q < p := by rw [hp0, hq0]; exact sval_lt hd'.out j hj
    have hp := Lib.hid hp0; have hq := Lib.hid hq0
    have hpl : p ≤ 1000000000 := by rw [hp0]; exact ten_le (m := 9) (by omega)
    by_cases hlt : j < gs.size
    · have hbt := byt_at gs j hlt
      have hb1 := (hd'.out j hlt).1
      have hb2 := (hd'.out j hlt).2
      clear hp0 hq0
      go_wp2_with fail
      go_round
      case rel =>
        refine ⟨j + 1, p * 10, q * 10 + (byt gs j - 48), by omega, by go_num, int_eq (by omega), int_eq (by omega), ?_, ?_⟩
        · rw [ten_succ, hp.out, Nat.mul_comm]
        · rw [hq.out]; rfl
      case measure => simp [intOf]; omega
    · obtain rfl : j = gs.size := by omega
      clear hp0 hq0
      have hqs := Lib.hid hq.out.symm
      have hW := scale_end (canon_zero F) (canon_zero F).lim (V := 0) (W := sval gs gs.size) (c := q) (by rw [hqs.out]; simp [val, pw]) (Nat.zero_le _)
      go_wp2_with fail
      go_loop [6, 28] (fun c i => c = .int .u64 q ∧ i = .int .i64 0) (fun _ i => (intOf i).toNat)
      case atStart => exact ⟨rfl, rfl⟩
      case round =>
        obtain ⟨rfl, rfl⟩ := hrel
        by_cases c0 : q = 0
        · have hW1 := Lib.hid (hW.1 c0)
          have cz : ((q : Int) == 0) = true := by simp [c0]
          clear hW
          go_wp2_with fail
          go_ret
          exact ⟨_, 0, F, rfl, World.ownsRow_nil _ _ _ _, hW1.out, Below.refl _ _⟩
        · have hW1 := Lib.hid (hW.2 c0 (by omega))
          have cz : ((q : Int) == 0) = false := by simp [c0]
          clear hW
          go_wp2_with (at_builtin; refine wpList_append_limb rfl (.tmp 49) (.tmp 52) 22 rfl base 35 i32 Tryz.underlying22 hi hz0 hz1 hz2 _ 0 F _ _ q rfl rfl (World.ownsRow_nil _ _ _ _) (by omega) (by omega) hb ?_)
          intro v' w1 hown1 hb1
          have hown3 := Lib.hid hown1; have hbel3 := Lib.hid hb1
          clear hown1 hb1
          go_wp2_with fail
          go_ret
          exact ⟨_, _, _, rfl, hown3.out, hW1.out, hbel3.out⟩

theorem appendDigits_any (base n : Nat) (v : Value) (F : Nat → Nat) (V : Nat) (gs : ByteArray) (w : World) (hown : w.ownsRow base 35 1 v n (limbCells F n)) (hc : Canon V n F) (hb : base ≤ w.heap.size)
    (hn : n ≤ 100000) (hd : DigT gs) (h9 : gs.size ≤ 9) :
    Calls Tryz.prog 78 #[v, .string gs] w (DigPost base (V * 10 ^ gs.size + sval gs gs.size) w) := by
  rcases hown.2 with ⟨rfl, rfl⟩ | ⟨g, cap, cur, rfl, hbg, _, hnc, hcm, _⟩
  · have hV : V = 0 := hc.ne_zero.1 rfl
    subst hV
    rw [Nat.zero_mul, Nat.zero_add]
    exact appendDigits_none base F gs w hb hd h9
  · exact appendDigits_some base n g cap F V gs w hown hc hb hbg hnc (by unfold maxLen at hcm; omega) hn hd h9

end Go.Proofs.YtokdaagjkhkinaaGreatDoor

namespace Go.Proofs.YtokdaagjkhkinaaGreatDoor
open Go.RowKit Num

/-- What both readings of a text answer. -/
def ParsePost (s : ByteArray) (w : World) (e : Ending) (w' : World) : Prop :=
  Below w.heap.size w w' ∧ (¬ IsT s ∧ e = .returned (.tuple #[.slice none 0 0, .bool false]) ∨
    IsT s ∧ ∃ (ao : Option Addr) (n nc : Nat) (f : Nat → Nat), e = .returned (.tuple #[.slice ao n nc, .bool true]) ∧ n ≤ nc ∧ nc ≤ 9223372036854775807 ∧ Sl w' ao n f ∧ Canon (sval s s.size) n f)

theorem byt_extract (s : ByteArray) (a b j : Nat) (hb : b ≤ s.size) (h : a + j < b) : byt (s.extract a b) j = byt s (a + j) := by
  rw [← byt_at _ _ (show j < (s.extract a b).size by rw [ByteArray.size_extract]; omega), ← byt_at _ _ (show a + j < s.size by omega)]
  rw [ByteArray.getElem_extract]

theorem sval_add (s : ByteArray) (a b : Nat) (hb : b ≤ s.size) (hab : a ≤ b) : ∀ j, a + j ≤ b → sval s (a + j) = sval s a * 10 ^ j + sval (s.extract a b) j
  | 0, _ => by simp [sval]
  | j + 1, hj => by
    have ih := sval_add s a b hb hab j (by omega)
    have e : sval s (a + (j + 1)) = sval s (a + j) * 10 + (byt s (a + j) - 48) := rfl
    have e2 : sval (s.extract a b) (j + 1) = sval (s.extract a b) j * 10 + (byt (s.extract a b) j - 48) := rfl
    rw [e, e2, ih, byt_extract s a b j hb (by omega), ten_succ]
    have e3 : sval s a * (10 * 10 ^ j) = 10 * (sval s a * 10 ^ j) := Nat.mul_left_comm _ _ _
    omega

theorem sval_congr {s t : ByteArray} {n : Nat} (h : ∀ j, j < n → byt s j = byt t j) : sval s n = sval t n := by
  induction n with
  | zero => rfl
  | succ n ih =>
    show sval s n * 10 + (byt s n - 48) = sval t n * 10 + (byt t n - 48)
    rw [ih (fun j hj => h j (by omega)), h n (by omega)]

theorem ten_pw : ∀ n, 10 ^ n ≤ pw n
  | 0 => Nat.le_refl _
  | n + 1 => by
    have := ten_pw n
    rw [ten_succ, pw_succ]
    exact Nat.mul_le_mul (by decide) this

theorem sval_few {s : ByteArray} (h : DigT s) {n i : Nat} {f : Nat → Nat} (hi : i ≤ s.size) (hc : Canon (sval s i) n f) : n ≤ i :=
  hc.len_le (Nat.lt_of_lt_of_le (sval_lt h i hi) (ten_pw i))

theorem extract_all (s : ByteArray) : s.extract 0 s.size = s := by simp

theorem extract_in (s : ByteArray) (i L : Nat) (h : i + L ≤ s.size) : (s.extract i s.size).extract 0 L = s.extract i (i + L) := by
  rw [ByteArray.extract_extract, Nat.add_zero, Nat.min_eq_left h]

theorem extract_on (s : ByteArray) (i L : Nat) (hi : i ≤ s.size) : (s.extract i s.size).extract L (s.size - i) = s.extract (i + L) s.size := by
  rw [ByteArray.extract_extract]
  congr 1
  omega

theorem DigT.extract {s : ByteArray} (h : DigT s) (a b : Nat) (hb : b ≤ s.size) : DigT (s.extract a b) := by
  intro j hj
  rw [ByteArray.size_extract] at hj
  rw [byt_extract s a b j hb (by omega)]
  exact h (a + j) (by omega)

set_option maxRecDepth 20000 in
set_option maxHeartbeats 2000000 in
theorem parse_any (s : ByteArray) (hs : s.size ≤ 2000) (w : World) : Calls Tryz.prog 49 #[.string s] w (ParsePost s w) := by
  go_enter Tryz.func49, Tryz.ntmps49
  go_wp2_with fail
  refine (isText_any s (by omega) w).mono ?_
  rintro e w' ⟨⟨rfl, hT⟩ | ⟨rfl, hT⟩, rfl⟩
  · have hT' := Lib.hid hT
    clear hT
    go_wp2_with fail
    go_ret2
    exact ⟨Below.refl _ _, .inl ⟨hT'.out, rfl⟩⟩
  · have hT' := Lib.hid hT
    clear hT
    go_wp2_with fail
    go_loopw [0, 4] (fun sv av wr => ∃ (i n : Nat) (F : Nat → Nat), i ≤ s.size ∧ sv = .string (s.extract i s.size) ∧ wr.ownsRow w.heap.size 35 1 av n (limbCells F n) ∧ Canon (sval s i) n F ∧ Below w.heap.size w wr) (fun sv _ _ => match sv with | .string t => t.size | _ => 0)
    case atStart =>
      refine ⟨0, 0, fun _ => 0, Nat.zero_le _, by rw [extract_all], World.ownsRow_nil _ _ _ _, canon_zero _, Below.refl _ _⟩
    case round =>
      obtain ⟨i, n, F, hi, rfl, hown0, hc0, hb0⟩ := hrel
      have hown := Lib.hid hown0; have hc := Lib.hid hc0; have hb := Lib.hid hb0
      have hsz : (s.extract i s.size).size = s.size - i := by rw [ByteArray.size_extract]; omega
      clear hown0 hc0 hb0
      by_cases h0 : i = s.size
      · subst h0
        obtain ⟨ao, cap, rfl, g1, g2, g3⟩ := owns_slice hown.out
        have g3' := Lib.hid g3
        rw [Nat.sub_self] at hsz
        clear g3
        go_wp2_with fail
        go_ret2
        exact ⟨hb.out, .inr ⟨hT'.out, ao, n, cap, F, rfl, g1, g2, g3'.out, hc.out⟩⟩
      · obtain ⟨L, hL⟩ : ∃ L : Nat, min ((s.size - i : Nat) : Int) 9 = (L : Int) := ⟨min (s.size - i) 9, by omega⟩
        have l1 : 0 < L := by omega
        have l2 : L ≤ 9 := by omega
        have l3 : i + L ≤ s.size := by omega
        have hd := Lib.hid (show DigT s from hT'.out.2.1)
        have hes : (s.extract i (i + L)).size = L := by rw [ByteArray.size_extract]; omega
        have hn := sval_few hd.out hi hc.out
        go_wp2_with fail
        rw [extract_in s i L l3]
        refine (appendDigits_any w.heap.size n u4 F (sval s i) (s.extract i (i + L)) wr hown.out hc.out hb.out.size (by omega) (hd.out.extract _ _ l3) (by omega)).mono ?_
        rw [hes, ← sval_add s i (i + L) l3 (Nat.le_add_right _ _) L (Nat.le_refl _)]
        rintro e w1 ⟨v', n', F', rfl, hown1, hc1, hb1⟩
        have hown2 := Lib.hid hown1; have hc2 := Lib.hid hc1; have hb2 := Lib.hid (hb.out.trans hb1)
        clear hown1 hc1 hb1
        go_wp2_with fail
        go_roundw
        case rel =>
          refine ⟨i + L, n', F', l3, ?_, hown2.out, hc2.out, hb2.out⟩
          rw [extract_on s i L hi]
        case measure =>
          show ((s.extract i s.size).extract L (s.size - i)).size < (s.extract i s.size).size
          rw [extract_on s i L hi, ByteArray.size_extract, hsz]
          omega

end Go.Proofs.YtokdaagjkhkinaaGreatDoor

namespace Go.Proofs.YtokdaagjkhkinaaGreatDoor
open Go.RowKit Num

set_option maxRecDepth 20000 in
set_option maxHeartbeats 4000000 in
theorem refParse_any (s : ByteArray) (hs : s.size ≤ 2000) (w : World) : Calls Tryz.prog 55 #[.string s] w (ParsePost s w) := by
  obtain ⟨i32, hi, hz0, hz1, hz2⟩ := info_parts info32
  rcases (show s.size = 0 ∨ (1 < s.size ∧ byt s 0 = 48) ∨ s.size = 1 ∨ (1 < s.size ∧ byt s 0 ≠ 48) by omega) with e | ⟨c1, e⟩ | e | ⟨c1, e⟩
  · have hz : ((s.size : Int) == 0) = true := by simp [e]
    have hne := Lib.hid (show ¬ IsT s from fun h => by have := h.1; omega)
    go_enter Tryz.func55, Tryz.ntmps55
    go_wp2_with fail
    go_ret2
    exact ⟨Below.refl _ _, .inl ⟨hne.out, rfl⟩⟩
  · have hz : ((s.size : Int) == 0) = false := by rw [beq_eq_false_iff_ne]; omega
    have h3 := byt_at s 0 (by omega)
    have h4 : ((byt s 0 : Int) == 48) = true := by simp [e]
    have hne := Lib.hid (show ¬ IsT s from fun h => by rcases h.2.2 with g | g <;> omega)
    go_enter Tryz.func55, Tryz.ntmps55
    go_wp2_with fail
    go_ret2
    exact ⟨Below.refl _ _, .inl ⟨hne.out, rfl⟩⟩
  all_goals
    have hz : ((s.size : Int) == 0) = false := by rw [beq_eq_false_iff_ne]; omega
    have hgood := Lib.hid (show 0 < s.size ∧ (s.size = 1 ∨ byt s 0 ≠ 48) by omega)
    first
    | have c1 : ¬ (1 < s.size) := by omega
    | have h3 := byt_at s 0 (by omega)
    have h4 : (1 < s.size) → ((byt s 0 : Int) == 48) = false := by intro h; rw [beq_eq_false_iff_ne]; omega
    clear e
    go_enter Tryz.func55, Tryz.ntmps55
    go_wp2_with fail
    clear h4 hz
    try clear h3
    try clear c1
    first
    | (rename ((s.size : Int) ≤ 1) => hh; clear hh)
    | (rename ((1 : Int) < (s.size : Int)) => hh; clear hh)
    go_loopw [4, 5] (fun av iv wr => ∃ (i n : Nat) (F : Nat → Nat), i ≤ s.size ∧ iv = .int .i64 i ∧ wr.ownsRow w.heap.size 35 1 av n (limbCells F n) ∧ Canon (sval s i) n F ∧ n ≤ i ∧ (∀ t, t < i → 48 ≤ byt s t ∧ byt s t ≤ 57) ∧ Below w.heap.size w wr) (fun _ iv _ => s.size - (intOf iv).toNat)
    case atStart => exact ⟨0, 0, fun _ => 0, Nat.zero_le _, rfl, World.ownsRow_nil _ _ _ _, canon_zero _, Nat.le_refl _, fun t h => by omega, Below.refl _ _⟩
    case round =>
      obtain ⟨i, n, F, hi', rfl, hown0, hc0, hni, hd0, hb0⟩ := hrel
      have hown := Lib.hid hown0; have hc := Lib.hid hc0; have hd := Lib.hid hd0; have hb := Lib.hid hb0
      clear hown0 hc0 hd0 hb0
      by_cases hlt : i < s.size
      · have h3 := byt_at s i hlt
        by_cases c2 : byt s i < 48
        · have hne := Lib.hid (show ¬ IsT s from fun h => by have := h.2.1 i hlt; omega)
          go_wp2_with fail
          go_ret2
          exact ⟨hb.out, .inl ⟨hne.out, rfl⟩⟩
        · by_cases c3 : 57 < byt s i
          · have hne := Lib.hid (show ¬ IsT s from fun h => by have := h.2.1 i hlt; omega)
            go_wp2_with fail
            go_ret2
            exact ⟨hb.out, .inl ⟨hne.out, rfl⟩⟩
          · have hd2 := Lib.hid (show ∀ t, t < i + 1 → 48 ≤ byt s t ∧ byt s t ≤ 57 from fun t ht => by
              by_cases e' : t = i
              · rw [e']; omega
              · exact hd.out t (by omega))
            obtain ⟨q, hq⟩ : ∃ q, q = byt s i - 48 := ⟨_, rfl⟩
            have hqe : ((byt s i : Int) - 48) = (q : Int) := by omega
            have hq' := Lib.hid hq
            have hq9 : q ≤ 9 := by omega
            clear hq
            rename World => wo
            rcases hown.out.2 with ⟨rfl, rfl⟩ | ⟨g, cap, cur, rfl, hbg, _, hnc, hcm, _⟩
            · have hV : sval s i = 0 := hc.out.ne_zero.1 rfl
              have hW := scale_end (canon_zero F) (canon_zero F).lim (V := 0) (W := sval s (i + 1)) (c := q) (by
                show val F 0 + q * 1 = sval s i * 10 + (byt s i - 48)
                rw [hV, hq'.out]
                simp [val]) (Nat.zero_le _)
              go_wp2_with fail
              go_loop [6, 7] (fun c k => c = .int .u64 q ∧ k = .int .i64 0) (fun _ k => (intOf k).toNat)
              case atStart => exact ⟨rfl, rfl⟩
              case round =>
                obtain ⟨rfl, rfl⟩ := hrel
                by_cases c0 : q = 0
                · have hW1 := Lib.hid (hW.1 c0)
                  clear hW
                  subst c0
                  go_wp2_with fail
                  go_roundw
                  case rel => exact ⟨i + 1, 0, F, by omega, by go_num, World.ownsRow_nil _ _ _ _, hW1.out, by omega, hd2.out, hb.out⟩
                  case measure => simp [intOf]; omega
                · have hW1 := Lib.hid (hW.2 c0 (by omega))
                  have cz : 0 < q := by omega
                  clear hW
                  go_wp2_with (at_builtin; refine wpList_append_limb rfl (.tmp 67) (.tmp 70) 22 rfl w.heap.size 35 i32 Tryz.underlying22 hi hz0 hz1 hz2 _ 0 F _ _ q rfl rfl (World.ownsRow_nil _ _ _ _) (by omega) (by omega) hb.out.size ?_)
                  intro v' w1 hown1 hb1
                  have hown3 := Lib.hid hown1; have hbel3 := Lib.hid (hb.out.trans hb1)
                  clear hown1 hb1
                  go_wp2_with fail
                  go_roundw
                  case rel => exact ⟨i + 1, 1, _, by omega, by go_num, hown3.out, hW1.out, by omega, hd2.out, hbel3.out⟩
                  case measure => simp [intOf]; omega
            · go_wp2_with fail
              go_loopw [6, 7] (fun cv kv wr => ∃ (k c : Nat) (G : Nat → Nat), k ≤ n ∧ kv = .int .i64 k ∧ cv = .int .u64 c ∧ c ≤ 9 ∧ wr.ownsRow w.heap.size 35 1 (.slice (some ⟨g, 0, none⟩) n cap) n (limbCells G n) ∧ Lim G n ∧ (∀ t, k ≤ t → G t = F t) ∧
                  val G k + c * pw k = val F k * 10 + q ∧ wo.grownBy wr (some g)) (fun _ kv _ => n - (intOf kv).toNat)
              case atStart => exact ⟨0, q, F, Nat.zero_le _, rfl, rfl, hq9, hown.out, hc.out.lim, fun _ _ => rfl, by simp [val, pw], grown_refl _ _⟩
              case round =>
                obtain ⟨k, c, G, hk, rfl, rfl, hc9, hown0, hlim0, hz0', hval0, hgr0⟩ := hrel
                have hown2 := Lib.hid hown0; have hlim := Lib.hid hlim0; have hz := Lib.hid hz0'; have hval := Lib.hid hval0; have hgr := Lib.hid hgr0
                clear hown0 hlim0 hz0' hval0 hgr0
                by_cases hkn : k < n
                · have hcell : wr.cell? ⟨g, k, none⟩ = some (.int .u32 (G k)) := by rw [hown2.out.cellAt k (by omega), limbCells_get G n k hkn]
                  have hfree := hown2.out.frozenAt k
                  have bG := hlim.out k hkn
                  go_wp2_with fail
                  go_roundw
                  case rel =>
                    refine ⟨k + 1, (c + G k * 10) / 4294967296, put G k ((c + G k * 10) % 4294967296), by omega, by go_num, int_eq (by omega), by omega, owns_set hown2.out k _ _ (by omega), put_lim hlim.out (Nat.mod_lt _ (by decide)), ?_, ?_, ?_⟩
                    · intro t ht
                      rw [put_ne (by omega)]
                      exact hz.out t (by omega)
                    · rw [val_put_succ, val_succ, pw_succ, ← hz.out k (Nat.le_refl _)]
                      exact scale_step hval.out (by omega)
                    · exact grown_setCell hgr.out _ _
                  case measure => simp [intOf]; omega
                · obtain rfl : k = n := by omega
                  have hW := scale_end hc.out hlim.out (W := sval s (i + 1)) (c := c) (by
                    show _ = sval s i * 10 + (byt s i - 48)
                    rw [hval.out, hc.out.val, hq'.out]) (by show sval s i ≤ sval s i * 10 + (byt s i - 48); omega)
                  have hbr := Lib.hid (hb.out.trans (grown_below hgr.out hbg hb.out.size))
                  by_cases c0 : c = 0
                  · have hW1 := Lib.hid (hW.1 c0)
                    clear hW
                    subst c0
                    go_wp2_with fail
                    go_roundw
                    case rel => exact ⟨i + 1, k, G, by omega, by go_num, hown2.out, hW1.out, by omega, hd2.out, hbr.out⟩
                    case measure => simp [intOf]; omega
                  · have hW1 := Lib.hid (hW.2 c0 (by omega))
                    have cz : 0 < c := by omega
                    clear hW
                    go_wp2_with (at_builtin; refine wpList_append_limb rfl (.tmp 67) (.tmp 70) 22 rfl w.heap.size 35 i32 Tryz.underlying22 hi hz0 hz1 hz2 _ k G _ _ c rfl rfl hown2.out (by omega) (by omega) hbr.out.size ?_)
                    intro v' w1 hown1 hb1
                    have hown3 := Lib.hid hown1; have hbel3 := Lib.hid (hbr.out.trans hb1)
                    clear hown1 hb1
                    go_wp2_with fail
                    go_roundw
                    case rel => exact ⟨i + 1, k + 1, _, by omega, by go_num, hown3.out, hW1.out, by omega, hd2.out, hbel3.out⟩
                    case measure => simp [intOf]; omega
      · obtain rfl : i = s.size := by omega
        obtain ⟨ao, cap, rfl, g1, g2, g3⟩ := owns_slice hown.out
        have g3' := Lib.hid g3
        clear g3
        go_wp2_with fail
        go_ret2
        exact ⟨hb.out, .inr ⟨⟨hgood.out.1, hd.out, hgood.out.2⟩, ao, n, cap, F, rfl, g1, g2, g3'.out, hc.out⟩⟩

end Go.Proofs.YtokdaagjkhkinaaGreatDoor

namespace Go.Proofs.YtokdaagjkhkinaaGreatDoor
open Go.RowKit Num

theorem sl_new1 (w : World) (t : TypeId) (v : Int) (x : Nat) (h : v = x) : Sl (w.alloc (.cells #[.int .u32 v] t)) (some ⟨w.heap.size, 0, none⟩) 1 (fun _ => x) := by
  subst h
  refine .inr ⟨w.heap.size, 0, rfl, fun j hj => ?_⟩
  obtain rfl : j = 0 := by omega
  rw [Nat.zero_add, World.cell?_alloc_new]
  rfl

theorem sl_new2 (w : World) (t : TypeId) (u v : Int) (x y : Nat) (hu : u = x) (hv : v = y) : Sl (w.alloc (.cells #[.int .u32 u, .int .u32 v] t)) (some ⟨w.heap.size, 0, none⟩) 2 (put (fun _ => x) 1 y) := by
  subst hu hv
  refine .inr ⟨w.heap.size, 0, rfl, fun j hj => ?_⟩
  rw [Nat.zero_add, World.cell?_alloc_new]
  have : j = 0 ∨ j = 1 := by omega
  rcases this with rfl | rfl <;> rfl

theorem canon_one (x : Nat) (h0 : x ≠ 0) (h : x < 4294967296) : Canon x 1 (fun _ => x) := ⟨fun _ _ => h, .inr h0, by simp [val, pw]⟩

def AwakePost (w : World) (e : Ending) (w' : World) : Prop := e = .returned (.bool true) ∧ Below w.heap.size w w'

end Go.Proofs.YtokdaagjkhkinaaGreatDoor

namespace Go.Proofs.YtokdaagjkhkinaaGreatDoor
open Go.RowKit Num

/-- A call that tells one value; what lay there before lies there still. -/
def Tells (v : Value) (w : World) (e : Ending) (w' : World) : Prop := e = .returned v ∧ Below w.heap.size w w'

theorem same_t (ao bo : Option Addr) (v n nc m mc : Nat) (f g : Nat → Nat) (w : World) (hn : n ≤ nc) (hnc : nc ≤ 9223372036854775807) (hf : Sl w ao n f) (hg : Sl w bo m g) (cf : Canon v n f) (cg : Canon v m g) :
    Calls Tryz.prog 27 #[.slice ao n nc, .slice bo m mc] w (Tells (.bool true) w) :=
  (same_canon ao bo v n nc m mc f g w hn hnc hf hg cf cg).mono fun _ _ ⟨he, _, hw⟩ => ⟨he, by rw [hw]; exact below_drewN (Below.refl _ _) _⟩

theorem sval_dval {s : ByteArray} {d : Nat → Nat} {k : Nat} (h : ∀ j, j < k → byt s j = 48 + d (k - 1 - j)) : ∀ j, j ≤ k → dval d k = dval d (k - j) + 10 ^ (k - j) * sval s j
  | 0, _ => by simp [sval]
  | j + 1, hj => by
    have ih := sval_dval h j (by omega)
    obtain ⟨t, ht⟩ : ∃ t, k - j = t + 1 := ⟨k - j - 1, by omega⟩
    have e : sval s (j + 1) = sval s j * 10 + (byt s j - 48) := rfl
    have e1 : k - 1 - j = t := by omega
    rw [ht, dval_succ, ten_succ] at ih
    rw [show k - (j + 1) = t by omega, e, h j (by omega), e1, ih, Nat.mul_add, show 48 + d t - 48 = d t by omega]
    have e2 : 10 * 10 ^ t * sval s j = 10 ^ t * (sval s j * 10) := by rw [Nat.mul_comm 10, Nat.mul_assoc, Nat.mul_comm 10]
    have e3 : d t * 10 ^ t = 10 ^ t * d t := Nat.mul_comm _ _
    omega

theorem sval_all {s : ByteArray} {d : Nat → Nat} {k : Nat} (h : ∀ j, j < k → byt s j = 48 + d (k - 1 - j)) : sval s k = dval d k := by
  have e := sval_dval h k (Nat.le_refl _)
  rw [Nat.sub_self] at e
  simp [dval] at e
  exact e.symm

theorem byt_of {s : ByteArray} {l : List UInt8} (h : s.data.toList = l) (j : Nat) : byt s j = (l.getD j 0).toNat := by
  unfold byt
  rw [h]

theorem size_of {s : ByteArray} {l : List UInt8} (h : s.data.toList = l) : s.size = l.length := by rw [← h, Array.length_toList]; rfl

theorem bytes_eq {s t : ByteArray} (h : s.data.toList = t.data.toList) : s = t := ByteArray.ext (Array.toList_inj.1 h)

/-- A number's digits are a number's text, and that number's. -/
theorem dec_isT {s : ByteArray} {d : Nat → Nat} {k V : Nat} (hc : Dcan V k d) (h : s.data.toList = decText d k) (hV : V < pw 40) : IsT s ∧ sval s s.size = V ∧ s.size ≤ 2000 := by
  by_cases h0 : k = 0
  · subst h0
    have hl : s.data.toList = [48] := h
    have hs : s.size = 1 := size_of hl
    have hb : byt s 0 = 48 := by rw [byt_of hl]; rfl
    refine ⟨⟨by omega, fun j hj => ?_, .inl hs⟩, ?_, by omega⟩
    · obtain rfl : j = 0 := by omega
      omega
    · rw [hs]
      show sval s 0 * 10 + (byt s 0 - 48) = V
      rw [hb, ← hc.val]
      rfl
  · have hl : s.data.toList = digBytes d k := by rw [h]; unfold decText; rw [if_neg h0]
    have hs : s.size = k := by rw [size_of hl]; simp [digBytes]
    have hb : ∀ j, j < k → byt s j = 48 + d (k - 1 - j) := by
      intro j hj
      have hd := hc.dig (k - 1 - j) (by omega)
      rw [byt_of hl]
      unfold digBytes
      rw [List.getD_eq_getElem?_getD, List.getElem?_map, List.getElem?_range hj]
      show (UInt8.ofNat (48 + d (k - 1 - j))).toNat = _
      rw [UInt8.toNat_ofNat']
      exact Nat.mod_eq_of_lt (by omega)
    have htop := hc.top.resolve_left h0
    refine ⟨⟨by omega, fun j hj => ?_, .inr ?_⟩, ?_, ?_⟩
    · rw [hb j (by omega)]
      have := hc.dig (k - 1 - j) (by omega)
      omega
    · rw [hb 0 (by omega), Nat.sub_zero]
      omega
    · rw [hs, sval_all hb, hc.val]
    · have : k - 1 < 32 * 40 := ten_few (Nat.lt_of_le_of_lt (dval_ge (n := k - 1) htop) (by rw [show k - 1 + 1 = k by omega, hc.val]; exact hV))
      omega

/-- A number's text is its digits. -/
theorem isT_dec {s : ByteArray} (h : IsT s) : ∃ (k : Nat) (d : Nat → Nat), Dcan (sval s s.size) k d ∧ s.data.toList = decText d k := by
  obtain ⟨h0, hd, ht⟩ := h
  by_cases c : byt s 0 = 48
  · have hs : s.size = 1 := by omega
    refine ⟨0, fun _ => 0, ⟨fun j hj => by omega, .inl rfl, ?_⟩, ?_⟩
    · rw [hs]
      show 0 = sval s 0 * 10 + (byt s 0 - 48)
      rw [c]
      rfl
    · have hl : s.data.toList.length = 1 := by rw [Array.length_toList]; exact hs
      obtain ⟨x, hx⟩ := List.length_eq_one_iff.1 hl
      rw [byt_of hx] at c
      have e3 : x = 48 := UInt8.toNat_inj.1 c
      rw [hx, e3]
      rfl
  · have hb : ∀ j, j < s.size → byt s j = 48 + (fun t => byt s (s.size - 1 - t) - 48) (s.size - 1 - j) := by
      intro j hj
      show byt s j = 48 + (byt s (s.size - 1 - (s.size - 1 - j)) - 48)
      rw [show s.size - 1 - (s.size - 1 - j) = j by omega]
      have := hd j hj
      omega
    refine ⟨s.size, fun t => byt s (s.size - 1 - t) - 48, ⟨fun j hj => ?_, .inr ?_, (sval_all hb).symm⟩, ?_⟩
    · have := hd (s.size - 1 - j) (by omega)
      show byt s (s.size - 1 - j) - 48 < 10
      omega
    · have := hd 0 h0
      show byt s (s.size - 1 - (s.size - 1)) - 48 ≠ 0
      rw [Nat.sub_self]
      omega
    · unfold decText
      rw [if_neg (by omega)]
      refine List.ext_getElem? fun j => ?_
      by_cases hj : j < s.size
      · unfold digBytes
        rw [List.getElem?_map, List.getElem?_range hj]
        show _ = some (UInt8.ofNat (48 + (fun t => byt s (s.size - 1 - t) - 48) (s.size - 1 - j)))
        rw [← hb j hj]
        have hj' : j < s.data.toList.length := by rw [Array.length_toList]; exact hj
        rw [List.getElem?_eq_getElem hj']
        congr 1
        unfold byt
        rw [List.getD_eq_getElem?_getD, List.getElem?_eq_getElem hj']
        simp
      · rw [List.getElem?_eq_none (by rw [Array.length_toList]; exact Nat.le_of_not_lt hj), List.getElem?_eq_none (by simp [digBytes]; omega)]

theorem dec_uniq {s t : ByteArray} {d e : Nat → Nat} {k l V : Nat} (a : Dcan V k d) (b : Dcan V l e) (hs : s.data.toList = decText d k) (ht : t.data.toList = decText e l) : s = t :=
  bytes_eq (by rw [hs, ht, decText_eq a b])

end Go.Proofs.YtokdaagjkhkinaaGreatDoor

namespace Go.Proofs.YtokdaagjkhkinaaGreatDoor
open Go.RowKit Num

/-- The number of a sign and a size. -/
def sgn (b : Bool) (v : Nat) : Int := if b then -(v : Int) else v

theorem sgn_false (v : Nat) : sgn false v = v := rfl

theorem sgn_true (v : Nat) : sgn true v = -(v : Int) := rfl

theorem sgn_abs (b : Bool) (v : Nat) : (sgn b v).natAbs = v := by cases b <;> simp [sgn]

theorem sgn_neg (b : Bool) (v : Nat) : decide (sgn b v < 0) = (b && decide (0 < v)) := by
  cases b
  · simp [sgn]
  · by_cases h : 0 < v
    · simp [sgn, h]
    · have : v = 0 := by omega
      subst this; simp [sgn]

theorem sgn_self (x : Int) : sgn (decide (x < 0)) x.natAbs = x := by
  by_cases h : x < 0
  · simp only [h, decide_true, sgn]; simp; omega
  · simp only [h, decide_false, sgn]; simp; omega

theorem sgn_not (b : Bool) (v : Nat) : sgn (!b) v = -sgn b v := by cases b <;> simp [sgn]

theorem sgn_mul (b c : Bool) (u v : Nat) : sgn b u * sgn c v = sgn (!(b == c)) (u * v) := by cases b <;> cases c <;> simp [sgn, Int.neg_mul, Int.mul_neg]

theorem sgn_add (b : Bool) (u v : Nat) : sgn b u + sgn b v = sgn b (u + v) := by cases b <;> simp [sgn] <;> omega

theorem sgn_sub {b c : Bool} (h : b ≠ c) {u v : Nat} (hv : v ≤ u) : sgn b u + sgn c v = sgn b (u - v) := by
  cases b <;> cases c <;> simp [sgn] at h ⊢ <;> omega

/-- A sign and a slice of limbs, handed in to be read, make the number x. -/
structure Whole (w : World) (b : Bool) (ao : Option Addr) (n nc : Nat) (x : Int) : Prop where
  ex : ∃ f, Arg w ao n nc f ∧ sgn b (val f n) = x

theorem Whole.below {w w' : World} {b : Bool} {ao : Option Addr} {n nc : Nat} {x : Int} (h : Whole w b ao n nc x) (hb : Below w.heap.size w w') : Whole w' b ao n nc x := by
  obtain ⟨f, A, e⟩ := h.ex
  exact ⟨f, A.below hb, e⟩

/-- A sign and a slice of limbs as a call hands them back: no noughts on top, 0 has no sign. -/
structure Right (w : World) (b : Bool) (ao : Option Addr) (n nc : Nat) (x : Int) : Prop where
  ex : ∃ f, n ≤ nc ∧ nc ≤ 9223372036854775807 ∧ Sl w ao n f ∧ Canon x.natAbs n f ∧ b = decide (x < 0)

theorem Right.below {w w' : World} {b : Bool} {ao : Option Addr} {n nc : Nat} {x : Int} (h : Right w b ao n nc x) (hb : Below w.heap.size w w') : Right w' b ao n nc x := by
  obtain ⟨f, h1, h2, h3, h4, h5⟩ := h.ex
  exact ⟨f, h1, h2, h3.below hb, h4, h5⟩

theorem Right.whole {w : World} {b : Bool} {ao : Option Addr} {n nc k : Nat} {x : Int} (h : Right w b ao n nc x) (hx : x.natAbs < pw k) (hk : k ≤ 1000000) : Whole w b ao n nc x := by
  obtain ⟨f, h1, h2, h3, h4, rfl⟩ := h.ex
  refine ⟨f, ⟨h1, h2, Nat.le_trans (h4.len_le hx) hk, h3, h4.lim⟩, ?_⟩
  rw [h4.val]; exact sgn_self x

theorem Right.neg {w : World} {b : Bool} {ao : Option Addr} {n nc : Nat} {x : Int} (h : Right w b ao n nc x) : b = decide (x < 0) := by
  obtain ⟨f, _, _, _, _, h⟩ := h.ex
  exact h

/-- The number x comes back; what lay there before lies there still. -/
def IntPost (x : Int) (w : World) (e : Ending) (w' : World) : Prop :=
  ∃ b ao n nc, e = .returned (.agg #[.bool b, .slice ao n nc]) ∧ Right w' b ao n nc x ∧ Below w.heap.size w w'

set_option maxHeartbeats 400000 in
/-- whole.signed: a sign put to limbs, but to none. -/
theorem signed_any (b : Bool) (ao : Option Addr) (v n nc : Nat) (f : Nat → Nat) (w : World) (hn : n ≤ nc) (hc : nc ≤ 9223372036854775807) (hs : Sl w ao n f) (cf : Canon v n f) :
    Calls Tryz.prog 64 #[.bool b, .slice ao n nc] w (IntPost (sgn b v) w) := by
  have hs' := Lib.hid hs; have cf' := Lib.hid cf
  have hb := Lib.hid (Below.refl w.heap.size w)
  clear hs cf
  have hd : (b && decide ((0 : Int) < (n : Int))) = decide (sgn b v < 0) := by
    rw [sgn_neg]
    congr 1
    have := cf'.out.ne_zero
    simp only [decide_eq_decide]
    omega
  have hd' := Lib.hid hd
  clear hd
  cases b
  · go_enter Tryz.func64, Tryz.ntmps64
    go_wp2_with fail
    refine bodyPost_ret (v := .agg #[.bool false, .slice ao n nc]) (by simp [results, Tryz.results64, go_sem]) rfl ?_
    have hb2 : Below w.heap.size w (w.alloc (.cells #[.bool false, .slice ao n nc] 44)) := (Below.refl _ w).alloc (Nat.le_refl _) _
    refine ⟨false, ao, n, nc, rfl, ⟨f, hn, hc, hs'.out.below hb2, by rw [sgn_abs]; exact cf'.out, ?_⟩, hb2⟩
    simpa using hd'.out
  · by_cases h0 : n = 0
    · subst h0
      go_enter Tryz.func64, Tryz.ntmps64
      go_wp2_with fail
      refine bodyPost_ret (v := .agg #[.bool false, .slice ao 0 nc]) (by simp [results, Tryz.results64, go_sem]) rfl ?_
      have hb2 : Below w.heap.size w (w.alloc (.cells #[.bool false, .slice ao 0 nc] 44)) := (Below.refl _ w).alloc (Nat.le_refl _) _
      refine ⟨false, ao, 0, nc, rfl, ⟨f, hn, hc, hs'.out.below hb2, by rw [sgn_abs]; exact cf'.out, ?_⟩, hb2⟩
      simpa using hd'.out
    · go_enter Tryz.func64, Tryz.ntmps64
      go_wp2_with fail
      simp only [Nat.pos_of_ne_zero h0, decide_true]
      refine bodyPost_ret (v := .agg #[.bool true, .slice ao n nc]) (by simp [results, Tryz.results64, go_sem]) rfl ?_
      have hb2 : Below w.heap.size w (w.alloc (.cells #[.bool true, .slice ao n nc] 44)) := (Below.refl _ w).alloc (Nat.le_refl _) _
      refine ⟨true, ao, n, nc, rfl, ⟨f, hn, hc, hs'.out.below hb2, by rw [sgn_abs]; exact cf'.out, ?_⟩, hb2⟩
      simpa [Nat.pos_of_ne_zero h0] using hd'.out

/-- A block of two cells, none of them frozen. -/
structure Box (w : World) (B : Nat) (v0 v1 : Value) : Prop where
  c0 : w.cell? ⟨B, 0, none⟩ = some v0
  c1 : w.cell? ⟨B, 1, none⟩ = some v1
  fr : ∀ j, w.frozen? ⟨B, j, none⟩ = false

theorem Box.lt {w : World} {B : Nat} {v0 v1 : Value} (h : Box w B v0 v1) : B < w.heap.size := World.block_lt_of_cell? w _ h.c0

theorem Box.new {w : World} {B : Nat} (v0 v1 : Value) (t : TypeId) (h : B = w.heap.size) : Box (w.alloc (.cells #[v0, v1] t)) B v0 v1 := by
  subst h
  exact ⟨by simp, by simp, fun j => by
    have hh := heap_alloc_new w (.cells #[v0, v1] t)
    simp only [World.frozen?, hh]
    simp⟩

theorem Box.below {w w' : World} {B C : Nat} {v0 v1 : Value} (h : Box w B v0 v1) (hb : Below C w w') (hC : B < C) : Box w' B v0 v1 :=
  ⟨(hb.cell hC).trans h.c0, (hb.cell hC).trans h.c1, fun j => (hb.frozen hC).trans (h.fr j)⟩

theorem Box.later {w w' : World} {B : Nat} {v0 v1 : Value} (h : Box w B v0 v1) (hb : Below w.heap.size w w') : Box w' B v0 v1 := h.below hb h.lt

theorem Box.alloc {w : World} {B : Nat} {v0 v1 : Value} (h : Box w B v0 v1) (o : Obj) : Box (w.alloc o) B v0 v1 := h.later ((Below.refl _ w).alloc (Nat.le_refl _) o)

theorem Box.drew {w : World} {B : Nat} {v0 v1 : Value} (h : Box w B v0 v1) : Box w.drew B v0 v1 := ⟨h.c0, h.c1, h.fr⟩

theorem Box.set {w : World} {B : Nat} {v0 v1 : Value} (h : Box w B v0 v1) (u0 u1 : Value) : Box ((w.setCell ⟨B, 0, none⟩ u0).setCell ⟨B, 1, none⟩ u1) B u0 u1 := by
  refine ⟨?_, ?_, fun j => by rw [World.frozen?_setCell, World.frozen?_setCell]; exact h.fr j⟩
  · rw [World.cell?_setCell_other _ _ _ _ (fun e => by injection e with _ e2; omega)]
    exact World.cell?_setCell_same _ _ _ h.c0
  · refine World.cell?_setCell_same _ _ _ (?_ : _ = some v1)
    rw [World.cell?_setCell_other _ _ _ _ (fun e => by injection e with _ e2; omega)]
    exact h.c1

theorem Box.other {w : World} {B C : Nat} {v0 v1 : Value} (h : Box w B v0 v1) (hne : B ≠ C) (u0 u1 : Value) : Box ((w.setCell ⟨C, 0, none⟩ u0).setCell ⟨C, 1, none⟩ u1) B v0 v1 := by
  have ne : ∀ j k, (⟨B, j, none⟩ : Addr) ≠ ⟨C, k, none⟩ := fun j k e => hne (by injection e)
  refine ⟨?_, ?_, fun j => by rw [World.frozen?_setCell, World.frozen?_setCell]; exact h.fr j⟩
  · rw [World.cell?_setCell_other _ _ _ _ (ne _ _).symm, World.cell?_setCell_other _ _ _ _ (ne _ _).symm]; exact h.c0
  · rw [World.cell?_setCell_other _ _ _ _ (ne _ _).symm, World.cell?_setCell_other _ _ _ _ (ne _ _).symm]; exact h.c1

theorem below_set {w w' : World} {A B : Nat} (h : Below A w w') (hB : A ≤ B) (u0 u1 : Value) : Below A w ((w'.setCell ⟨B, 0, none⟩ u0).setCell ⟨B, 1, none⟩ u1) := (h.setCell (p := ⟨B, 0, none⟩) hB u0).setCell (p := ⟨B, 1, none⟩) hB u1

theorem below_then {w w1 w2 : World} {A : Nat} (h : Below A w w1) (hA : A ≤ w.heap.size) (k : Below w1.heap.size w1 w2) : Below A w w2 := h.trans (k.mono (Nat.le_trans hA h.size))

theorem Sl.set {w : World} {ao : Option Addr} {n B : Nat} {f : Nat → Nat} (h : Sl w ao n f) (hB : Off B ao n) (u0 u1 : Value) : Sl ((w.setCell ⟨B, 0, none⟩ u0).setCell ⟨B, 1, none⟩ u1) ao n f := by
  rcases h with rfl | ⟨c, off, rfl, hc⟩
  · exact .inl rfl
  · rcases hB with rfl | hB
    · exact .inl rfl
    · have hne : c ≠ B := hB _ rfl
      refine .inr ⟨c, off, rfl, fun j hj => ?_⟩
      rw [World.cell?_setCell_other _ _ _ _ (fun e => hne (by injection e with e1 _; exact e1.symm)), World.cell?_setCell_other _ _ _ _ (fun e => hne (by injection e with e1 _; exact e1.symm))]
      exact hc j hj

theorem Sl.box {w : World} {ao : Option Addr} {n B : Nat} {f : Nat → Nat} {c : Bool} {p : Option Addr} {k l : Nat} (h : Sl w ao n f) (z : Box w B (.bool c) (.slice p k l)) (u0 u1 : Value) : Sl ((w.setCell ⟨B, 0, none⟩ u0).setCell ⟨B, 1, none⟩ u1) ao n f := by
  rcases h with rfl | ⟨d, off, rfl, hc⟩
  · exact .inl rfl
  · refine .inr ⟨d, off, rfl, fun j hj => ?_⟩
    have e := hc j hj
    rw [World.cell?_setCell_other _ _ _ _ (fun e1 => by rw [← e1, z.c1] at e; cases e), World.cell?_setCell_other _ _ _ _ (fun e1 => by rw [← e1, z.c0] at e; cases e)]
    exact e

theorem Right.box {w : World} {b : Bool} {ao : Option Addr} {n nc B : Nat} {x : Int} {c : Bool} {p : Option Addr} {k l : Nat} (h : Right w b ao n nc x) (z : Box w B (.bool c) (.slice p k l)) (u0 u1 : Value) : Right ((w.setCell ⟨B, 0, none⟩ u0).setCell ⟨B, 1, none⟩ u1) b ao n nc x := by
  obtain ⟨f, h1, h2, h3, h4, h5⟩ := h.ex
  exact ⟨f, h1, h2, h3.box z u0 u1, h4, h5⟩

theorem Whole.box {w : World} {b : Bool} {ao : Option Addr} {n nc B : Nat} {x : Int} {c : Bool} {p : Option Addr} {k l : Nat} (h : Whole w b ao n nc x) (z : Box w B (.bool c) (.slice p k l)) (u0 u1 : Value) : Whole ((w.setCell ⟨B, 0, none⟩ u0).setCell ⟨B, 1, none⟩ u1) b ao n nc x := by
  obtain ⟨f, A, e⟩ := h.ex
  exact ⟨f, ⟨A.len, A.cap, A.few, A.sl.box z u0 u1, A.lim⟩, e⟩

/-- What was made is laid into the block of the result. -/
theorem IntPost.stored {w w2 : World} {b : Bool} {ao : Option Addr} {n nc B : Nat} {x : Int} {c : Bool} {p : Option Addr} {k l : Nat} (h : Right w2 b ao n nc x) (z : Box w2 B (.bool c) (.slice p k l)) (hb : Below w.heap.size w w2) (hB : w.heap.size ≤ B) :
    IntPost x w (.returned (.agg #[.bool b, .slice ao n nc])) ((w2.setCell ⟨B, 0, none⟩ (.bool b)).setCell ⟨B, 1, none⟩ (.slice ao n nc)) :=
  ⟨b, ao, n, nc, rfl, h.box z _ _, below_set hb hB _ _⟩

/-- The world, told by what is known of it. -/
theorem gen_wp {P : Program} {c : Code} {Q : Exit → Act → World → Prop} {a : Act} {W : World} (R : World → Prop) (hW : R W) (h : ∀ w', R w' → Code.wp P c Q a w') : Code.wp P c Q a W := h W hW

theorem gen_calls {P : Program} {f : FuncId} {args : Array Value} {Q : Ending → World → Prop} {W : World} (R : World → Prop) (hW : R W) (h : ∀ w', R w' → Calls P f args w' Q) : Calls P f args W Q := h W hW

attribute [local go_sem ↓] Go.wp_at_zero Go.wp_at_succ

set_option maxHeartbeats 1000000 in
/-- whole.Norm -/
theorem wNorm_any (b : Bool) (ao : Option Addr) (n nc : Nat) (x : Int) (w : World) (A : Whole w b ao n nc x) :
    Calls Tryz.prog 43 #[.agg #[.bool b, .slice ao n nc]] w (IntPost x w) := by
  obtain ⟨f, A, hx⟩ := A.ex
  have A' := Lib.hid A; have hx' := Lib.hid hx
  clear A hx
  go_enter Tryz.func43, Tryz.ntmps43
  go_wp2_with fail
  refine gen_wp (fun w' => Below w.heap.size w w' ∧ Box w' w.heap.size (.bool b) (.slice ao n nc) ∧ Box w' (w.heap.size + 1) (.bool false) (.slice none 0 0))
    ⟨((Below.refl _ w).alloc (Nat.le_refl _) _).alloc (by simp) _, (Box.new _ _ _ rfl).alloc _, Box.new _ _ _ (by simp)⟩ ?_
  rintro w0 ⟨hb0, x0, x1⟩
  have hb0 := hb0.drew; have x0 := x0.drew; have x1 := x1.drew
  go_region_held3 (fun w' => w'.cell? ⟨w.heap.size, 0, none⟩ = some (.bool b) ∧ w'.cell? ⟨w.heap.size, 1, none⟩ = some (.slice ao n nc))
    (first | exact ⟨x0.c0, x0.c1⟩ | exact ⟨y0.c0, y0.c1⟩ | exact ⟨z0.c0, z0.c1⟩ | exact ⟨(z0.other (by omega) _ _).c0, (z0.other (by omega) _ _).c1⟩)
    (first
    | (go_at_call 37; refine (norm_any ao n nc f _ (A'.out.below hb0)).mono ?_; rintro e w1 ⟨co, cn, cc, c, rfl, h1, h2, h3, h4, hb⟩; have y0 := x0.later hb; have y1 := x1.later hb)
    | (go_at_call 64; refine (signed_any b co _ cn cc c _ h1 h2 h3 h4).mono ?_; rintro e w2 ⟨sb, so, sn, sc, rfl, hR, hb2⟩; have z0 := y0.later hb2; have z1 := y1.later hb2; have q1 := z1.c0; have q2 := z1.c1; have q3 := z1.fr 0; have q4 := z1.fr 1))
  have z2 := z1.set (.bool sb) (.slice so sn sc)
  have e0 := z2.c0; have e1 := z2.c1
  go_wp2_with fail
  refine bodyPost_ret (v := .agg #[.bool sb, .slice so sn sc]) (by simp [results, Tryz.results43, go_sem, e0, e1]) rfl ?_
  rw [← hx'.out]
  exact IntPost.stored hR z1 (below_then (below_then hb0 (Nat.le_refl _) hb) (Nat.le_refl _) hb2) (by omega)

end Go.Proofs.YtokdaagjkhkinaaGreatDoor

namespace Go.Proofs.YtokdaagjkhkinaaGreatDoor
open Go.RowKit Num

attribute [local go_sem ↓] Go.wp_at_zero Go.wp_at_succ

/-- This comes back; what lay there before lies there still. -/
def Says (v : Value) (w : World) (e : Ending) (w' : World) : Prop := e = .returned v ∧ Below w.heap.size w w'

theorem below_drawn {w w' : World} (h : ∃ q, w' = w.drewN q) : Below w.heap.size w w' := by
  obtain ⟨q, rfl⟩ := h
  exact below_drewN (Below.refl _ _) q

theorem sign_sgn (b : Bool) (v : Nat) : (sgn b v).sign = if b then -cmpI v 0 else cmpI v 0 := by
  cases b
  · by_cases h : v = 0
    · subst h; simp [sgn, cmpI]
    · have h1 : (0 : Int) < (v : Int) := by omega
      simp only [sgn_false, Int.sign_eq_one_of_pos h1, cmpI_gt h1]; simp
  · by_cases h : v = 0
    · subst h; simp [sgn, cmpI]
    · have h1 : (0 : Int) < (v : Int) := by omega
      simp only [sgn_true, Int.sign_neg, Int.sign_eq_one_of_pos h1, cmpI_gt h1]; simp

set_option maxHeartbeats 1000000 in
theorem wSign_any (b : Bool) (ao : Option Addr) (n nc : Nat) (x : Int) (w : World) (A : Whole w b ao n nc x) :
    Calls Tryz.prog 50 #[.agg #[.bool b, .slice ao n nc]] w (Says (.int .i64 x.sign) w) := by
  obtain ⟨f, A, hx⟩ := A.ex
  have A' := Lib.hid A
  have hs : x.sign = if b then -cmpI (val f n) 0 else cmpI (val f n) 0 := by rw [← hx]; exact sign_sgn b _
  rw [hs]
  clear A hx hs
  cases b
  all_goals
   go_enter Tryz.func50, Tryz.ntmps50
   go_wp2_with fail
   refine gen_calls (fun w' => Below w.heap.size w w' ∧ Box w' w.heap.size _ (.slice ao n nc)) ⟨(Below.refl _ w).alloc (Nat.le_refl _) _, Box.new _ _ _ rfl⟩ ?_
   rintro w0 ⟨hb0, x0⟩
   refine (cmp_any ao none n nc 0 0 f (fun _ => 0) _ (A'.out.below hb0) ⟨Nat.le_refl _, by omega, by omega, .inl rfl, fun _ h => by omega⟩).mono ?_
   rintro e w1 ⟨rfl, hd⟩
   have hb := below_drawn hd
   have y0 := x0.later hb
   have hb1 := Lib.hid (below_then hb0 (Nat.le_refl _) hb)
   have p0 := y0.c0
   clear hd hb hb0 x0
   have hv : cmpI (val f n : Nat) (val (fun _ => 0) 0 : Nat) = cmpI (val f n) 0 := rfl
   rw [hv]
   have hc : cmpI (val f n) 0 = 0 ∨ cmpI (val f n) 0 = 1 := by
     by_cases h : val f n = 0
     · exact .inl (cmpI_eq (by omega))
     · exact .inr (cmpI_gt (by omega))
   clear hv
   rcases hc with hc | hc <;> have hc' := Lib.hid hc <;> rw [hc] <;> clear hc
   all_goals
     go_wp2_with fail
     go_ret
     refine ⟨ret_num ?_, hb1.out⟩
     simp [hc'.out]

theorem wrap_back (v : Nat) (h : v ≤ 9223372036854775808) : IntKind.u64.wrap (-IntKind.u64.wrap (-(v : Int))) = (v : Int) := by
  simp [IntKind.wrap, IntKind.bits, IntKind.signed]
  omega

theorem sl_two {w : World} {B : Nat} {u v : Int} {x y : Nat} (t : TypeId) (h : B = w.heap.size) (hu : u = x) (hv : v = y) : Sl (w.alloc (.cells #[.int .u32 u, .int .u32 v] t)) (some ⟨B, 0, none⟩) 2 (put (fun _ => x) 1 y) := by
  subst h
  exact sl_new2 w t u v x y hu hv

theorem lim_two {x y : Nat} (hx : x < 4294967296) (hy : y < 4294967296) : Lim (put (fun _ => x) 1 y) 2 := put_lim (fun _ _ => hx) hy

theorem val_pair (x y : Nat) : val (put (fun _ => x) 1 y) 2 = x + 4294967296 * y := by
  rw [val_succ, val_succ, val_zero, put_at, put_ne (by decide)]
  simp [pw]
  omega

end Go.Proofs.YtokdaagjkhkinaaGreatDoor
