/-
  scrimref03.Norm, Same, Neg, Sign; scrimlaw03.Mine, Theirs, few, same.
  Plain facts on the document's answers: numbers doubled, their bits, products and quotients bit by bit, the steps of a greatest divisor.
  scrimref02.longer, limb, Cmp, Add, Sub, twice and Bit: the document's answers, as they are reckoned.
  nat.Sub: the difference, or none.
  scrimref02.Sub, twice and Bit.
  scrimref02.Mul, DivMod and Gcd.
  scrimref03.Add, Sub, Cmp, Mul.
  nat.Add: the sum.
  whole.Cmp, whole.DivMod.
  ratio.upper, lower, over, long; ratio.Make.
  nat.addTimes and nat.Mul: the product.
-/
import Derived.Test.YtmkjebembicljaaGreatMrgB
import Derived.Deep.RegionWith
import Derived.Deep.CutRange
namespace Go.Proofs.YtmkjebembicljaaGreat
open Go.RowKit Num

attribute [local go_sem ↓] Go.wp_at_zero Go.wp_at_succ

theorem canon_right {w : World} {b : Bool} {ao : Option Addr} {n nc v : Nat} {f : Nat → Nat} (hn : n ≤ nc) (hc : nc ≤ 9223372036854775807) (hs : Sl w ao n f) (cf : Canon v n f) (h : 0 < n ∨ b = false) : Right w b ao n nc (sgn b v) := by
  refine ⟨f, hn, hc, hs, by rw [sgn_abs]; exact cf, ?_⟩
  rw [sgn_neg]
  rcases h with h | h
  · have := cf.ne_zero
    have : 0 < v := by omega
    simp [this]
  · simp [h]

set_option maxHeartbeats 1000000 in
theorem rNorm_any (b : Bool) (ao : Option Addr) (n nc : Nat) (x : Int) (w : World) (A : Whole w b ao n nc x) :
    Calls Tryz.prog 80 #[.agg #[.bool b, .slice ao n nc]] w (IntPost x w) := by
  obtain ⟨f, A, hx⟩ := A.ex
  have A' := Lib.hid A; have hx' := Lib.hid hx
  clear A hx
  go_enter Tryz.func80, Tryz.ntmps80
  go_wp2_with fail
  refine gen_calls (fun w' => Below w.heap.size w w' ∧ Box w' w.heap.size (.bool b) (.slice ao n nc) ∧ Box w' (w.heap.size + 1) (.bool false) (.slice none 0 0))
    ⟨(((Below.refl _ w).alloc (Nat.le_refl _) _).alloc (by first | (simp; done) | (simp; omega)) _), ((Box.new _ _ _ rfl).alloc _), (Box.new _ _ _ (by first | (simp; done) | (simp; omega)))⟩ ?_
  rintro w0 ⟨hb0, x0, x1⟩
  refine (refNorm_any ao n nc f _ (A'.out.below hb0)).mono ?_
  rintro e w1 ⟨co, cn, cc, c, rfl, h1, h2, h3, h4, hb⟩
  have y0 := x0.later hb; have y1 := x1.later hb
  have hb1 := Lib.hid (below_then hb0 (Nat.le_refl _) hb)
  have h3' := Lib.hid h3; have h4' := Lib.hid h4; have y0' := Lib.hid y0; have y1' := Lib.hid y1
  have p0 := y0.c0; have q1 := y1.c0; have q2 := y1.c1; have q3 := y1.fr 0; have q4 := y1.fr 1
  clear h3 h4 x0 x1 hb hb0 y0 y1
  by_cases h0 : cn = 0
  · subst h0
    have z := y1'.out.set (.bool false) (.slice none 0 0)
    have e0 := z.c0; have e1 := z.c1
    have hz : x = 0 := by
      rw [← hx'.out, h4'.out.ne_zero.1 rfl]; cases b <;> rfl
    have hz' := Lib.hid hz
    clear z hz
    go_wp2_with fail
    refine bodyPost_ret (v := .agg #[.bool false, .slice none 0 0]) (by simp [results, Tryz.results80, go_sem, e0, e1]) rfl ?_
    rw [hz'.out]
    exact IntPost.stored ⟨fun _ => 0, Nat.le_refl _, by omega, .inl rfl, canon_zero _, rfl⟩ y1'.out hb1.out (by omega)
  · have z := y1'.out.set (.bool b) (.slice co cn cc)
    have e0 := z.c0; have e1 := z.c1
    clear z
    go_wp2_with fail
    refine bodyPost_ret (v := .agg #[.bool b, .slice co cn cc]) (by simp [results, Tryz.results80, go_sem, e0, e1]) rfl ?_
    rw [← hx'.out]
    exact IntPost.stored (canon_right h1 h2 h3'.out h4'.out (.inl (Nat.pos_of_ne_zero h0))) y1'.out hb1.out (by omega)

end Go.Proofs.YtmkjebembicljaaGreat

namespace Go.Proofs.YtmkjebembicljaaGreat.Num

theorem twice_step {S A c c' s x P b : Nat} (h : S + c * P = 2 * A + b) (e : s + 4294967296 * c' = 2 * x + c) : S + s * P + c' * (4294967296 * P) = 2 * (A + x * P) + b := by
  have e' := congrArg (· * P) e
  simp only [Nat.add_mul] at e'
  have h1 : c' * (4294967296 * P) = 4294967296 * c' * P := by rw [Nat.mul_left_comm, Nat.mul_assoc]
  have h2 : 2 * (A + x * P) = 2 * A + 2 * x * P := by rw [Nat.mul_add, Nat.mul_assoc]
  omega

theorem twice_end {S A c b n : Nat} (h : S + c * pw (n + 1) = 2 * A + b) (hA : A < pw n) (hb : b ≤ 1) : S = 2 * A + b := by
  have hp := pw_pos n
  rw [pw_succ] at h
  by_cases h0 : c = 0
  · subst h0; omega
  · have : 1 * (4294967296 * pw n) ≤ c * (4294967296 * pw n) := Nat.mul_le_mul_right _ (by omega)
    omega

theorem sub_end {S c A B P : Nat} (h : S + B = A + c * P) (hS : S < P) (hBA : B ≤ A) : S = A - B := by
  by_cases h0 : c = 0
  · subst h0; omega
  · have : 1 * P ≤ c * P := Nat.mul_le_mul_right _ (by omega)
    omega

theorem pw_two (n : Nat) : pw n = 2 ^ (32 * n) := by
  induction n with
  | zero => rfl
  | succ n ih =>
    rw [pw_succ, ih, show 32 * (n + 1) = 32 * n + 32 by omega, Nat.pow_add, Nat.mul_comm]

/-- The i-th bit. -/
def bitAt (f : Nat → Nat) (n i : Nat) : Nat := at0 f n (i / 32) / 2 ^ (i % 32) % 2

theorem bitAt_le (f : Nat → Nat) (n i : Nat) : bitAt f n i ≤ 1 := by unfold bitAt; omega

theorem bit_low {a R s : Nat} (hs : s < 32) : (a + 4294967296 * R) / 2 ^ s % 2 = a / 2 ^ s % 2 := by
  have e : (4294967296 : Nat) = 2 ^ s * (2 * 2 ^ (31 - s)) := by
    have e1 : (2 : Nat) * 2 ^ (31 - s) = 2 ^ (32 - s) := by
      rw [Nat.mul_comm, ← Nat.pow_succ]
      congr 1
      omega
    rw [e1, ← Nat.pow_add]
    have : s + (32 - s) = 32 := by omega
    rw [this]
  have e2 : 4294967296 * R = 2 ^ s * (2 * (2 ^ (31 - s) * R)) := by
    rw [e]
    simp only [Nat.mul_assoc]
  rw [e2, Nat.add_mul_div_left _ _ (Nat.pow_pos (by decide))]
  omega

theorem val_bit {f : Nat → Nat} {n : Nat} (lf : Lim f n) (i : Nat) : val f n / 2 ^ i % 2 = bitAt f n i := by
  unfold bitAt
  have hi : i = 32 * (i / 32) + i % 32 := by omega
  have hp : (2 : Nat) ^ i = pw (i / 32) * 2 ^ (i % 32) := by
    rw [pw_two, ← Nat.pow_add, ← hi]
  rw [hp, ← Nat.div_div_eq_div_mul]
  generalize hm : i / 32 = m
  have hs : i % 32 < 32 := Nat.mod_lt _ (by decide)
  generalize i % 32 = s at hs
  by_cases h : m < n
  · rw [at0_in h]
    obtain ⟨d, rfl⟩ := Nat.le.dest (show m + 1 ≤ n by omega)
    have e : val f (m + 1 + d) = val f m + pw m * (f m + 4294967296 * val (fun j => f (m + 1 + j)) d) := by
      rw [val_add, val_succ, pw_succ, Nat.mul_add, Nat.mul_comm (f m), ← Nat.add_assoc]
      congr 1
      rw [Nat.mul_left_comm, Nat.mul_assoc, Nat.mul_left_comm]
    rw [e, Nat.add_mul_div_left _ _ (pw_pos m), Nat.div_eq_of_lt (val_lt (lf.mono (by omega))), Nat.zero_add]
    exact bit_low hs
  · rw [at0_out (by omega)]
    have : val f n < pw m := Nat.lt_of_lt_of_le (val_lt lf) (pw_le (by omega))
    rw [Nat.div_eq_of_lt this]

/-- The bits from place j on, and the one below. -/
theorem val_top {f : Nat → Nat} {n : Nat} (lf : Lim f n) (j : Nat) : val f n / 2 ^ j = 2 * (val f n / 2 ^ (j + 1)) + bitAt f n j := by
  rw [← val_bit lf j]
  have e : val f n / 2 ^ (j + 1) = val f n / 2 ^ j / 2 := by rw [Nat.pow_succ, Nat.div_div_eq_div_mul]
  rw [e]
  omega

theorem val_none {f : Nat → Nat} {n : Nat} (lf : Lim f n) : val f n / 2 ^ (32 * n) = 0 := by
  rw [← pw_two]; exact Nat.div_eq_of_lt (val_lt lf)

/-- A bit more: the quotient and the rest. -/
theorem div_bit {Z Y b : Nat} (hY : 0 < Y) (hb : b ≤ 1) :
    (Y ≤ 2 * (Z % Y) + b → (2 * Z + b) / Y = 2 * (Z / Y) + 1 ∧ (2 * Z + b) % Y = 2 * (Z % Y) + b - Y) ∧
    (2 * (Z % Y) + b < Y → (2 * Z + b) / Y = 2 * (Z / Y) ∧ (2 * Z + b) % Y = 2 * (Z % Y) + b) := by
  have e := Nat.div_add_mod Z Y
  have hr := Nat.mod_lt Z hY
  generalize hq : Z / Y = q at *
  generalize hm : Z % Y = r at *
  constructor
  · intro h
    have e1 : Y * (2 * q + 1) = 2 * (Y * q) + Y := by rw [Nat.mul_add, Nat.mul_left_comm]; omega
    exact (Nat.div_mod_unique hY).2 ⟨by omega, by omega⟩
  · intro h
    have e1 : Y * (2 * q) = 2 * (Y * q) := Nat.mul_left_comm _ _ _
    exact (Nat.div_mod_unique hY).2 ⟨by omega, by omega⟩

/-- A step of a greatest divisor halves the product. -/
theorem gcd_step {x y k T : Nat} (hyx : y < x) (hy : 0 < y) (h : x * y * 2 ^ k ≤ T) : x % y < y ∧ y * (x % y) * 2 ^ (k + 1) ≤ T := by
  have hm := Nat.mod_lt x hy
  refine ⟨hm, ?_⟩
  have e := Nat.div_add_mod x y
  have q1 : 1 ≤ x / y := (Nat.le_div_iff_mul_le hy).2 (by omega)
  have q2 : y * 1 ≤ y * (x / y) := Nat.mul_le_mul_left _ q1
  have h2 : 2 * (x % y) ≤ x := by omega
  have h3 : y * (x % y) * 2 ^ (k + 1) = y * (2 * (x % y)) * 2 ^ k := by
    rw [Nat.pow_succ, Nat.mul_comm (2 ^ k) 2, ← Nat.mul_assoc, Nat.mul_assoc y, Nat.mul_comm (x % y) 2]
  rw [h3]
  refine Nat.le_trans (Nat.mul_le_mul_right _ (Nat.mul_le_mul_left _ h2)) ?_
  rw [Nat.mul_comm y x]; exact h

theorem gcd_start {x y n m : Nat} (hx : x ≤ pw n) (hy : y ≤ pw n) (hm : 64 * n + 1 ≤ m) : x * y * 2 ^ 1 ≤ 2 ^ m := by
  have a : x * y ≤ pw n * pw n := Nat.mul_le_mul hx hy
  rw [pw_two, ← Nat.pow_add] at a
  have b : x * y * 2 ^ 1 ≤ 2 ^ (32 * n + 32 * n) * 2 ^ 1 := Nat.mul_le_mul_right _ a
  rw [← Nat.pow_add] at b
  exact Nat.le_trans b (Nat.pow_le_pow_right (by decide) (by omega))

theorem gcd_few {x y k m : Nat} (hyx : y < x) (hy : 0 < y) (h : x * y * 2 ^ k ≤ 2 ^ m) : k ≤ m := by
  have h1 : 1 ≤ x * y := Nat.mul_pos (by omega) hy
  have h2 : 1 * 2 ^ k ≤ x * y * 2 ^ k := Nat.mul_le_mul_right _ h1
  have h3 : 2 ^ k ≤ 2 ^ m := by omega
  exact (Nat.pow_le_pow_iff_right (by decide)).1 h3

end Go.Proofs.YtmkjebembicljaaGreat.Num

namespace Go.Proofs.YtmkjebembicljaaGreat
open Go.RowKit Num
set_option maxRecDepth 20000

set_option maxHeartbeats 400000 in
theorem longer_any (ao bo : Option Addr) (n nc m mc : Nat) (w : World) :
    Calls Tryz.prog 100 #[.slice ao n nc, .slice bo m mc] w fun e w' => e = .returned (.int .i64 (max n m : Nat)) ∧ w = w' := by
  by_cases h : m < n
  · rw [Nat.max_eq_left (by omega)]
    go_enter Tryz.func100, Tryz.ntmps100
    go_wp2_with fail
    go_ret
    exact ⟨rfl, rfl⟩
  · rw [Nat.max_eq_right (by omega)]
    go_enter Tryz.func100, Tryz.ntmps100
    go_wp2_with fail
    go_ret
    exact ⟨rfl, rfl⟩

set_option maxHeartbeats 400000 in
theorem refLimb_any (ao : Option Addr) (n cap : Nat) (i : Int) (f : Nat → Nat) (w : World) (h0 : 0 ≤ i) (hs : Sl w ao n f) (lf : Lim f n) :
    Calls Tryz.prog 98 #[.slice ao n cap, .int .i64 i] w fun e w' => e = .returned (.int .u64 (at0 f n i.toNat)) ∧ w = w' := by
  obtain ⟨i, rfl⟩ := Int.eq_ofNat_of_zero_le h0
  rw [Int.toNat_natCast]
  by_cases h : i < n
  · rw [at0_in h]
    rcases hs with rfl | ⟨b, off, rfl, hc⟩
    · omega
    · have hcell := hc i h
      have hl := lf i h
      clear hc
      go_enter Tryz.func98, Tryz.ntmps98
      go_wp2
      go_ret
      exact ⟨rfl, rfl⟩
  · rw [at0_out (by omega)]
    clear hs
    go_enter Tryz.func98, Tryz.ntmps98
    go_wp2
    go_ret
    exact ⟨rfl, rfl⟩

set_option maxHeartbeats 1000000 in
theorem refCmp_any (ao bo : Option Addr) (n nc m mc : Nat) (f g : Nat → Nat) (w : World) (A : Arg w ao n nc f) (B : Arg w bo m mc g) :
    Calls Tryz.prog 99 #[.slice ao n nc, .slice bo m mc] w fun e w' => e = .returned (.int .i64 (cmpI (val f n) (val g m))) ∧ w = w' := by
  obtain ⟨hn, hnc, hnb, hf, lf⟩ := A
  obtain ⟨hm, hmc, hmb, hg, lg⟩ := B
  obtain ⟨N, hN0⟩ : ∃ N, N = max n m := ⟨_, rfl⟩
  have hnN : n ≤ N := by omega
  have hmN : m ≤ N := by omega
  have hNb : N ≤ 1000000 := by omega
  have hN := Lib.hid hN0
  have hlf := Lib.hid lf; have hlg := Lib.hid lg; have hsf := Lib.hid hf; have hsg := Lib.hid hg
  clear hN0 hf hg lf lg
  go_enter Tryz.func99, Tryz.ntmps99
  go_wp2_with fail
  refine (longer_any ao bo n nc m mc w).mono ?_
  rw [← hN.out]
  rintro e w' ⟨rfl, rfl⟩
  go_wp2_with fail
  go_loop [5] (fun i => ∃ j : Nat, j ≤ N ∧ i = .int .i64 ((j : Int) - 1) ∧ (∀ t, j ≤ t → t < N → at0 f n t = at0 g m t)) (fun i => (intOf i + 1).toNat)
  case atStart => exact ⟨N, Nat.le_refl _, rfl, fun t h1 h2 => by omega⟩
  case round =>
    obtain ⟨j, hj, rfl, hsame0⟩ := hrel
    have hsame := Lib.hid hsame0
    clear hsame0
    by_cases h0 : j = 0
    · subst h0
      go_wp2_with fail
      go_ret
      refine ⟨ret_num ?_, rfl⟩
      rw [cmpI_eq]
      rw [← val_at0_ge hnN, ← val_at0_ge hmN, val_congr fun t ht => hsame.out t (Nat.zero_le _) ht]
    · have p1 : 0 ≤ (j : Int) - 1 := by omega
      have ej : ((j : Int) - 1).toNat = j - 1 := by omega
      have ej' := Lib.hid ej
      clear ej
      go_wp2_with fail
      refine (refLimb_any ao n nc _ f w (by omega) hsf.out hlf.out).mono ?_
      rw [ej'.out]
      rintro e w' ⟨rfl, rfl⟩
      go_wp2_with fail
      refine (refLimb_any bo m mc _ g w (by omega) hsg.out hlg.out).mono ?_
      rw [ej'.out]
      rintro e w' ⟨rfl, rfl⟩
      by_cases h1 : at0 f n (j - 1) < at0 g m (j - 1)
      · go_wp2_with fail
        go_ret
        refine ⟨ret_num ?_, rfl⟩
        rw [cmpI_lt]
        rw [← val_at0_ge hnN, ← val_at0_ge hmN]
        exact Int.ofNat_lt.2 (val_lt_of_top (at0_lim hlf.out N) (j - 1) (by omega) (fun t a b => hsame.out t (by omega) b) h1)
      · go_wp2_with fail
        refine (refLimb_any ao n nc _ f w (by omega) hsf.out hlf.out).mono ?_
        rw [ej'.out]
        rintro e w' ⟨rfl, rfl⟩
        go_wp2_with fail
        refine (refLimb_any bo m mc _ g w (by omega) hsg.out hlg.out).mono ?_
        rw [ej'.out]
        rintro e w' ⟨rfl, rfl⟩
        by_cases h2 : at0 g m (j - 1) < at0 f n (j - 1)
        · go_wp2_with fail
          go_ret
          refine ⟨ret_num ?_, rfl⟩
          rw [cmpI_gt]
          rw [← val_at0_ge hnN, ← val_at0_ge hmN]
          exact Int.ofNat_lt.2 (val_lt_of_top (at0_lim hlg.out N) (j - 1) (by omega) (fun t a b => (hsame.out t (by omega) b).symm) h2)
        · go_wp2_with fail
          go_round
          case rel =>
            refine ⟨j - 1, by omega, int_eq (by omega), fun t a b => ?_⟩
            by_cases ht : t = j - 1
            · rw [ht]; omega
            · exact hsame.out t (by omega) b
          case measure => simp [intOf]; omega

theorem cells_snoc (F : Nat → Nat) (j x : Nat) (v : Int) (h : v = (x : Int)) : limbCells F j ++ [Value.int .u32 v] = limbCells (put F j x) (j + 1) := by
  subst h
  unfold limbCells
  rw [List.range_succ, List.map_append]
  congr 1
  · exact List.map_congr_left fun t ht => by rw [put_ne (by have := List.mem_range.1 ht; omega)]
  · simp [put_at]

theorem put_snoc_lim {F : Nat → Nat} {j x : Nat} (h : Lim F j) (hx : x < 4294967296) : Lim (put F j x) (j + 1) := by
  intro t ht
  by_cases c : t = j
  · rw [c, put_at]; exact hx
  · rw [put_ne c]; exact h t (by omega)

theorem one_at (w : World) (v : Value) (t : TypeId) : ∀ j u, [v][j]? = some u → (w.alloc (.cells #[v] t)).cell? ((⟨w.heap.size, 0, none⟩ : Addr).add j) = some u := by
  intro j u h
  match j, h with
  | 0, h =>
    simp at h
    subst h
    simp [Addr.add]

/-- One limb more behind those that the call's own slice holds. -/
theorem wpList_append_limb {P : Program} {w0 : World} {ops : Array Oper} {rest : List Oper} {o : Oper} {a : Act} {Q : Exit → Act → World → Prop} (hgd : o.guard = none) (s x : Operand) (t : TypeId)
    (ho : o.op = .call { callee := .builtin .append, args := #[s, x], argTypes := #[t, t] }) (base : Nat) (e : TypeId) (i : TypeInfo) (ht : P.underlying t = some (.slice e)) (hi : P.info? e = some i)
    (hz : i.zero = some (Value.int .u32 0)) (h1 : i.size = 1) (h4 : i.bytes = 4) (v : Value) (n : Nat) (F : Nat → Nat) (tt : TypeId) (z : Int) (y : Nat) (hs : a.eval s = v) (hx : a.eval x = .slice (some ⟨w0.heap.size, 0, none⟩) 1 1)
    (hown : w0.ownsRow base e 1 v n (limbCells F n)) (hzy : z = (y : Int)) (hn : n ≤ 1000000) (hb : base ≤ w0.heap.size)
    (h : ∀ v' w', w'.ownsRow base e 1 v' (n + 1) (limbCells (put F n y) (n + 1)) → Below base w0 w' → wpList P ops Q rest (a.put o.dst v') w') :
    wpList P ops Q (o :: rest) a (w0.alloc (.cells #[.int .u32 z] tt)) := by
  refine wpList_append_own _ hgd s x t ho base e i (.int .u32 0) 1 4 ht hi hz h1 h4 rfl (by decide) v n (limbCells F n) hs (hown.alloc _) ⟨w0.heap.size, 0, none⟩ 1 1 [.int .u32 z] hx rfl (one_at w0 _ tt) ?_ (by unfold maxLen; omega) (by omega) (by simp; omega) ?_
  · intro u hu
    simp at hu
    subst hu
    rfl
  · intro v' w' hown' hgr _
    rw [cells_snoc F n y z hzy] at hown'
    refine h v' w' hown' ?_
    exact ((Below.refl base w0).alloc hb _).grown hgr (by simp; omega) (fun k hk => (hown.lt k hk).1)

end Go.Proofs.YtmkjebembicljaaGreat

namespace Go.Proofs.YtmkjebembicljaaGreat
open Go.RowKit Num

def SubPost (x y : Nat) (w : World) (e : Ending) (w' : World) : Prop :=
  Below w.heap.size w w' ∧ ((x < y ∧ e = .returned (.tuple #[.slice none 0 0, .bool false])) ∨
    (y ≤ x ∧ ∃ ao n cap f, e = .returned (.tuple #[.slice ao n cap, .bool true]) ∧ n ≤ cap ∧ cap ≤ 9223372036854775807 ∧ Sl w' ao n f ∧ Canon (x - y) n f))

end Go.Proofs.YtmkjebembicljaaGreat

namespace Go.Proofs.YtmkjebembicljaaGreat
open Go.RowKit Num
set_option maxRecDepth 20000

set_option maxHeartbeats 1000000 in
theorem refSub_any (ao bo : Option Addr) (n nc m mc : Nat) (f g : Nat → Nat) (w : World) (A : Arg w ao n nc f) (B : Arg w bo m mc g) :
    Calls Tryz.prog 93 #[.slice ao n nc, .slice bo m mc] w (SubPost (val f n) (val g m) w) := by
  obtain ⟨i32, hi, hz0, hz1, hz2⟩ := info_parts info32
  have hA := Lib.hid A; have hB := Lib.hid B
  obtain ⟨hn, hnc, hnb, hf, lf⟩ := A
  obtain ⟨hm, hmc, hmb, hg, lg⟩ := B
  obtain ⟨N, hN0⟩ : ∃ N, N = max n m := ⟨_, rfl⟩
  have hnN : n ≤ N := by omega
  have hmN : m ≤ N := by omega
  have hNb : N ≤ 1000000 := by omega
  have hN := Lib.hid hN0
  have hlf := Lib.hid lf; have hlg := Lib.hid lg; have hsf := Lib.hid hf; have hsg := Lib.hid hg
  clear hN0 hf hg lf lg
  go_enter Tryz.func93, Tryz.ntmps93
  go_wp2_with fail
  refine (refCmp_any ao bo n nc m mc f g w hA.out hB.out).mono ?_
  by_cases hlt0 : val f n < val g m
  · rw [cmpI_lt (Int.ofNat_lt.2 hlt0)]
    have hlt := Lib.hid hlt0
    clear hlt0
    rintro e w' ⟨rfl, rfl⟩
    go_wp2_with fail
    go_ret2
    exact ⟨Below.refl _ _, .inl ⟨hlt.out, rfl⟩⟩
  have hge := Lib.hid (Nat.le_of_not_lt hlt0)
  have hcm : 0 ≤ cmpI (val f n) (val g m) := by
    unfold cmpI
    rw [if_neg (by omega)]
    split <;> decide
  clear hlt0
  generalize cmpI (val f n : Int) (val g m : Int) = cm at hcm ⊢
  rintro e w' ⟨rfl, rfl⟩
  go_wp2_with fail
  go_loopw [6, 7, 8] (fun v c i wr => ∃ (j : Nat) (F : Nat → Nat) (cn : Nat), j ≤ N ∧ i = .int .i64 j ∧ c = .int .u64 cn ∧ cn ≤ 1 ∧ wr.ownsRow w.heap.size 79 1 v j (limbCells F j) ∧ Lim F j ∧
      val F j + val (at0 g m) j = val (at0 f n) j + cn * pw j ∧ Below w.heap.size w wr) (fun _ _ i _ => N - (intOf i).toNat)
  case atStart => exact ⟨0, fun _ => 0, 0, Nat.zero_le _, rfl, rfl, by omega, World.ownsRow_nil _ _ _ _, fun j h => by omega, rfl, Below.refl _ _⟩
  case round =>
    obtain ⟨j, F, cn, hj, rfl, rfl, hc, hown0, hlim0, hval0, hbel0⟩ := hrel
    have hown := Lib.hid hown0; have hlim := Lib.hid hlim0; have hval := Lib.hid hval0; have hbel := Lib.hid hbel0
    clear hown0 hlim0 hval0 hbel0
    have bf := at0_lt hlf.out j
    have bg := at0_lt hlg.out j
    go_wp2_with fail
    refine (longer_any ao bo n nc m mc _).mono ?_
    rw [← hN.out]
    rintro e w' ⟨rfl, rfl⟩
    by_cases hlt : j < N
    · go_wp2_with fail
      refine (refLimb_any ao n nc j f wr (by omega) (hsf.out.below hbel.out) hlf.out).mono ?_
      rw [Int.toNat_natCast]
      rintro e w' ⟨rfl, rfl⟩
      go_wp2_with fail
      refine (refLimb_any bo m mc j g wr (by omega) (hsg.out.below hbel.out) hlg.out).mono ?_
      rw [Int.toNat_natCast]
      rintro e w' ⟨rfl, rfl⟩
      go_wp2_with (at_builtin; refine wpList_append_limb rfl (.tmp 31) (.tmp 35) 27 rfl w.heap.size 79 i32 Tryz.underlying27 hi hz0 hz1 hz2 _ j F _ _ ((4294967296 + at0 f n j - at0 g m j - cn) % 4294967296) rfl rfl hown.out (by omega) (by omega) hbel.out.size ?_)
      intro v' w1 hown1 hb1
      have hown' := Lib.hid hown1; have hbel' := Lib.hid (hbel.out.trans hb1)
      clear hown1 hb1
      go_wp2_with fail
      go_roundw
      case rel =>
        refine ⟨j + 1, put F j ((4294967296 + at0 f n j - at0 g m j - cn) % 4294967296), 1 - (4294967296 + at0 f n j - at0 g m j - cn) / 4294967296, by omega, by go_num, int_eq (by omega), by omega, hown'.out, ?_, ?_, hbel'.out⟩
        · exact put_snoc_lim hlim.out (Nat.mod_lt _ (by decide))
        · rw [val_put_succ, val_succ, val_succ, pw_succ]
          exact dif_step hval.out (by omega)
      case measure => simp [intOf]; omega
    · obtain rfl : j = N := by omega
      obtain ⟨ao', cap', rfl, g1, g2, g3⟩ := owns_slice hown.out
      have A' := Lib.hid (show Arg wr ao' j cap' F from ⟨g1, g2, by omega, g3, hlim.out⟩)
      have hown' := Lib.hid hown.out
      clear g3
      go_wp2_with fail
      refine (refNorm_any ao' j cap' F wr A'.out).mono ?_
      rintro e w2 ⟨bo', p, pc, h, rfl, hp, hpc, hsp, hcp, hb⟩
      have hsp' := Lib.hid hsp; have hcp' := Lib.hid hcp; have hbel' := Lib.hid (hbel.out.trans (hb.mono hbel.out.size))
      clear hsp hcp hb
      go_wp2_with fail
      go_ret2
      refine ⟨hbel'.out, .inr ⟨hge.out, bo', p, pc, h, rfl, hp, hpc, hsp'.out, ?_⟩⟩
      have e1 := hval.out
      rw [val_at0_ge hnN, val_at0_ge hmN] at e1
      rw [← sub_end e1 (val_lt hlim.out) hge.out]
      exact hcp'.out

set_option maxHeartbeats 1000000 in
theorem twice_any (ao : Option Addr) (n nc b : Nat) (f : Nat → Nat) (w : World) (A : Arg w ao n nc f) (hnb' : n < 1000000) (hb : b ≤ 1) :
    Calls Tryz.prog 91 #[.slice ao n nc, .int .u32 b] w (NumPost (2 * val f n + b) w) := by
  obtain ⟨i32, hi, hz0, hz1, hz2⟩ := info_parts info32
  obtain ⟨hn, hnc, hnb, hf, lf⟩ := A
  have hlf := Lib.hid lf; have hsf := Lib.hid hf
  clear hf lf
  go_enter Tryz.func91, Tryz.ntmps91
  go_wp2_with fail
  go_loopw [5, 6, 7] (fun v c i wr => ∃ (j : Nat) (F : Nat → Nat) (cn : Nat), j ≤ n + 1 ∧ i = .int .i64 j ∧ c = .int .u64 cn ∧ cn ≤ 1 ∧ wr.ownsRow w.heap.size 79 1 v j (limbCells F j) ∧ Lim F j ∧
      val F j + cn * pw j = 2 * val (at0 f n) j + b ∧ Below w.heap.size w wr) (fun _ _ i _ => n + 1 - (intOf i).toNat)
  case atStart => exact ⟨0, fun _ => 0, b, Nat.zero_le _, rfl, rfl, hb, World.ownsRow_nil _ _ _ _, fun j h => by omega, by simp [val, pw], Below.refl _ _⟩
  case round =>
    obtain ⟨j, F, cn, hj, rfl, rfl, hc, hown0, hlim0, hval0, hbel0⟩ := hrel
    have hown := Lib.hid hown0; have hlim := Lib.hid hlim0; have hval := Lib.hid hval0; have hbel := Lib.hid hbel0
    clear hown0 hlim0 hval0 hbel0
    have bf := at0_lt hlf.out j
    by_cases hlt : j < n + 1
    · go_wp2_with fail
      refine (refLimb_any ao n nc j f wr (by omega) (hsf.out.below hbel.out) hlf.out).mono ?_
      rw [Int.toNat_natCast]
      rintro e w' ⟨rfl, rfl⟩
      go_wp2_with (at_builtin; refine wpList_append_limb rfl (.tmp 23) (.tmp 27) 27 rfl w.heap.size 79 i32 Tryz.underlying27 hi hz0 hz1 hz2 _ j F _ _ ((2 * at0 f n j + cn) % 4294967296) rfl rfl hown.out (by omega) (by omega) hbel.out.size ?_)
      intro v' w1 hown1 hb1
      have hown' := Lib.hid hown1; have hbel' := Lib.hid (hbel.out.trans hb1)
      clear hown1 hb1
      go_wp2_with fail
      go_roundw
      case rel =>
        refine ⟨j + 1, put F j ((2 * at0 f n j + cn) % 4294967296), (2 * at0 f n j + cn) / 4294967296, by omega, by go_num, int_eq (by omega), by omega, hown'.out, ?_, ?_, hbel'.out⟩
        · exact put_snoc_lim hlim.out (Nat.mod_lt _ (by decide))
        · rw [val_put_succ, val_succ, pw_succ]
          exact twice_step hval.out (by omega)
      case measure => simp [intOf]; omega
    · obtain rfl : j = n + 1 := by omega
      obtain ⟨ao', cap', rfl, g1, g2, g3⟩ := owns_slice hown.out
      have A' := Lib.hid (show Arg wr ao' (n + 1) cap' F from ⟨g1, g2, by omega, g3, hlim.out⟩)
      have hown' := Lib.hid hown.out
      clear g3
      go_wp2_with fail
      refine (refNorm_any ao' (n + 1) cap' F wr A'.out).mono ?_
      rintro e w2 ⟨bo', p, pc, h, rfl, hp, hpc, hsp, hcp, hb⟩
      have hsp' := Lib.hid hsp; have hcp' := Lib.hid hcp; have hbel' := Lib.hid (hbel.out.trans (hb.mono hbel.out.size))
      clear hsp hcp hb
      go_wp2_with fail
      go_ret
      refine ⟨bo', p, pc, h, rfl, hp, hpc, hsp'.out, ?_, hbel'.out⟩
      have e1 := hval.out
      rw [val_at0_ge (Nat.le_succ n)] at e1
      rw [← twice_end e1 (val_lt hlf.out) (by omega)]
      exact hcp'.out

set_option maxHeartbeats 1000000 in
theorem bit_any (ao : Option Addr) (n nc : Nat) (i : Int) (f : Nat → Nat) (w : World) (i0 : 0 ≤ i) (i1 : i ≤ 1000000000) (hf : Sl w ao n f) (lf : Lim f n) :
    Calls Tryz.prog 92 #[.slice ao n nc, .int .i64 i] w fun e w' => e = .returned (.int .u32 (bitAt f n i.toNat)) ∧ w = w' := by
  obtain ⟨i, rfl⟩ := Int.eq_ofNat_of_zero_le i0
  rw [Int.toNat_natCast]
  have hb := at0_lt lf (i / 32)
  obtain ⟨x, hx⟩ : ∃ x, x = at0 f n (i / 32) := ⟨_, rfl⟩
  have hx' := Lib.hid hx
  rw [← hx] at hb
  have hsf := Lib.hid hf; have hlf := Lib.hid lf
  clear hf lf hx
  go_enter Tryz.func92, Tryz.ntmps92
  go_wp2_with fail
  refine (refLimb_any ao n nc _ f w (by omega) hsf.out hlf.out).mono ?_
  rw [show ((i : Int) / 32).toNat = i / 32 by omega, ← hx'.out]
  rintro e w' ⟨rfl, rfl⟩
  go_wp2_with fail
  go_loop [5, 6] (fun v k => ∃ t y : Nat, t ≤ i % 32 ∧ k = .int .i64 t ∧ v = .int .u64 y ∧ y < 4294967296 ∧ y = x / 2 ^ t) (fun _ k => i % 32 - (intOf k).toNat)
  case atStart => exact ⟨0, x, Nat.zero_le _, rfl, rfl, hb, by simp⟩
  case round =>
    obtain ⟨t, y, ht, rfl, rfl, hd, hy0⟩ := hrel
    have hy := Lib.hid hy0
    clear hy0
    by_cases hlt : t < i % 32
    · go_wp2_with fail
      go_round
      case rel => exact ⟨t + 1, y / 2, by omega, by go_num, int_eq (by omega), by omega, by rw [hy.out, Nat.pow_succ, Nat.div_div_eq_div_mul]⟩
      case measure => simp [intOf]; omega
    · obtain rfl : t = i % 32 := by omega
      go_wp2_with fail
      go_ret
      refine ⟨ret_num ?_, rfl⟩
      unfold bitAt
      rw [← hx'.out, ← hy.out]
      omega

end Go.Proofs.YtmkjebembicljaaGreat

namespace Go.Proofs.YtmkjebembicljaaGreat
open Go.RowKit Num

theorem drawn_b {w w' : World} (h : ∃ q, w' = w.drewN q) : Below w.heap.size w w' := by
  obtain ⟨q, rfl⟩ := h
  exact below_drewN (Below.refl _ _) q

theorem small' {v k K : Nat} (h : v < pw k) (hk : k ≤ K) : v < pw K := Nat.lt_of_lt_of_le h (pw_le hk)

/-- A number in new memory, short enough to go on with. -/
theorem Num.Canon.few {w : World} {ao : Option Addr} {n nc v k : Nat} {f : Nat → Nat} (h : Canon v n f) (hs : Sl w ao n f) (hn : n ≤ nc) (hc : nc ≤ 9223372036854775807) (hv : v < pw k) (hk : k ≤ 1000000) : Arg w ao n nc f ∧ n ≤ k :=
  ⟨⟨hn, hc, Nat.le_trans (h.len_le hv) hk, hs, h.lim⟩, h.len_le hv⟩

theorem half_lt {X j n : Nat} (h : X < pw n) : X / 2 ^ j < pw n := Nat.lt_of_le_of_lt (Nat.div_le_self _ _) h

set_option maxHeartbeats 2000000 in
theorem refDivMod_any (ao bo : Option Addr) (n nc m mc : Nat) (f g : Nat → Nat) (w : World) (A : Arg w ao n nc f) (B : Arg w bo m mc g) (hn40 : n ≤ 1000) (hm40 : m ≤ 1000) :
    Calls Tryz.prog 82 #[.slice ao n nc, .slice bo m mc] w (DivPost (val f n) (val g m) w) := by
  have hA := Lib.hid A; have hB := Lib.hid B
  have hX := Lib.hid (val_lt A.lim); have hY := Lib.hid (val_lt B.lim)
  obtain ⟨X, hX0⟩ : ∃ X, X = val f n := ⟨_, rfl⟩
  obtain ⟨Y, hY0⟩ : ∃ Y, Y = val g m := ⟨_, rfl⟩
  rw [← hX0, ← hY0]
  rw [← hX0] at hX
  rw [← hY0] at hY
  have hX' := Lib.hid hX0; have hY' := Lib.hid hY0
  clear A B hX0 hY0
  go_enter Tryz.func82, Tryz.ntmps82
  go_wp2_with fail
  refine (refNorm_any bo m mc g w hB.out).mono ?_
  rw [← hY'.out]
  rintro e w1 ⟨no, q, qc, h, rfl, hq, hqc, hsh, hch, hb⟩
  have hbel1 := Lib.hid hb; have hne := Lib.hid hch.ne_zero
  clear hsh hch hb
  by_cases hq0 : q = 0
  · have hYz := Lib.hid (hne.out.1 hq0)
    clear hne
    subst hq0
    go_wp2_with fail
    go_ret3
    exact ⟨hbel1.out, .inl ⟨hYz.out, rfl⟩⟩
  have hY0 : 0 < Y := Nat.pos_of_ne_zero (fun e => hq0 (hne.out.2 e))
  have hqb : ((q : Int) == 0) = false := by simp [hq0]
  go_wp2_with fail
  clear hqb hq0
  go_loopw [7, 8, 9] (fun v r i wr => ∃ (j : Nat) (co : Option Addr) (k kc : Nat) (F : Nat → Nat) (eo : Option Addr) (l lc : Nat) (G : Nat → Nat), j ≤ 32 * n ∧ i = .int .i64 ((j : Int) - 1) ∧ v = .slice co k kc ∧ r = .slice eo l lc ∧ k ≤ kc ∧ kc ≤ 9223372036854775807 ∧ l ≤ lc ∧ lc ≤ 9223372036854775807 ∧
      Sl wr co k F ∧ Canon (X / 2 ^ j / Y) k F ∧ Sl wr eo l G ∧ Canon (X / 2 ^ j % Y) l G ∧ Below w.heap.size w wr)
    (fun _ _ i _ => (intOf i + 1).toNat)
  case atStart =>
    refine ⟨32 * n, none, 0, 0, fun _ => 0, none, 0, 0, fun _ => 0, Nat.le_refl _, int_eq (by omega), rfl, rfl, Nat.le_refl _, by omega, Nat.le_refl _, by omega, .inl rfl, ?_, .inl rfl, ?_, hbel1.out⟩
    · rw [hX'.out, val_none hA.out.lim, Nat.zero_div]
      exact canon_zero _
    · rw [hX'.out, val_none hA.out.lim, Nat.zero_mod]
      exact canon_zero _
  case round =>
    obtain ⟨j, co, k, kc, F, eo, l, lc, G, hj, rfl, rfl, rfl, hk, hkc, hl, hlc, hsF0, hcF0, hsG0, hcG0, hbel0⟩ := hrel
    have hsF := Lib.hid hsF0; have hcF := Lib.hid hcF0; have hsG := Lib.hid hsG0; have hcG := Lib.hid hcG0; have hbel := Lib.hid hbel0
    clear hsF0 hcF0 hsG0 hcG0 hbel0
    by_cases h0 : j = 0
    · subst h0
      go_wp2_with fail
      go_ret3
      refine ⟨hbel.out, .inr ⟨Nat.pos_iff_ne_zero.1 hY0, co, k, kc, F, eo, l, lc, G, rfl, hk, hkc, hl, hlc, hsF.out, ?_, hsG.out, ?_⟩⟩
      · have e := hcF.out
        rw [Nat.pow_zero, Nat.div_one] at e
        exact e
      · have e := hcG.out
        rw [Nat.pow_zero, Nat.div_one] at e
        exact e
    · obtain ⟨s, rfl⟩ : ∃ s, j = s + 1 := ⟨j - 1, by omega⟩
      have bq := Nat.lt_of_le_of_lt (Nat.div_le_self (X / 2 ^ (s + 1)) Y) (half_lt (j := s + 1) hX.out)
      have br := Nat.lt_of_lt_of_le (Nat.mod_lt (X / 2 ^ (s + 1)) hY0) (Nat.le_of_lt hY.out)
      obtain ⟨hQ, hkn⟩ := hcF.out.few hsF.out hk hkc bq (by omega)
      obtain ⟨hR, hlm⟩ := hcG.out.few hsG.out hl hlc br (by omega)
      have hQ' := Lib.hid hQ; have hR' := Lib.hid hR; have br' := Lib.hid br
      clear hQ hR bq br h0
      go_wp2_with fail
      refine (bit_any ao n nc _ f wr (by omega) (by omega) (hA.out.below hbel.out).sl hA.out.lim).mono ?_
      rw [show (s : Int).toNat = s from Int.toNat_natCast s]
      rintro e w' ⟨rfl, rfl⟩
      have htop := val_top hA.out.lim s
      rw [← hX'.out] at htop
      have hbl := bitAt_le f n s
      obtain ⟨b, hbb⟩ : ∃ b, b = bitAt f n s := ⟨_, rfl⟩
      rw [← hbb] at htop hbl ⊢
      have htop' := Lib.hid htop
      clear htop hbb
      obtain ⟨dv1, dv2⟩ := div_bit (Z := X / 2 ^ (s + 1)) hY0 hbl
      have dv1' := Lib.hid dv1; have dv2' := Lib.hid dv2
      clear dv1 dv2
      go_wp2_with fail
      refine (twice_any eo l lc b G wr hR'.out (by omega) hbl).mono ?_
      rw [hcG.out.val]
      rintro e w2 ⟨xo, p, pc, H, rfl, hp, hpc, hsp, hcp, hb⟩
      have hT : 2 * (X / 2 ^ (s + 1) % Y) + b < pw (m + 1) := by
        have e1 : pw (m + 1) = 4294967296 * pw m := pw_succ m
        have := br'.out
        omega
      obtain ⟨hD, hp2⟩ := hcp.few hsp hp hpc hT (by omega)
      have hD' := Lib.hid hD; have hsp' := Lib.hid hsp; have hcp' := Lib.hid hcp; have hb' := Lib.hid (hbel.out.trans (hb.mono hbel.out.size)); have hQ2 := Lib.hid (hQ'.out.below hb)
      clear hsp hcp hb hD hT
      go_wp2_with fail
      refine (refSub_any xo bo p pc m mc H g w2 hD'.out (hB.out.below hb'.out)).mono ?_
      rw [hcp'.out.val, ← hY'.out]
      rintro e w3 ⟨hb3, h3⟩
      have hb3' := Lib.hid (hb'.out.trans (hb3.mono hb'.out.size)); have hQ3 := Lib.hid (hQ2.out.below hb3); have hsp3 := Lib.hid (hsp'.out.below hb3)
      clear hb3
      rcases h3 with ⟨hlt, rfl⟩ | ⟨hge, yo, y, yc, I, rfl, hy, hyc, hsI, hcI⟩
      · have d := dv2'.out hlt
        have d' := Lib.hid d
        clear d hlt
        go_wp2_with fail
        refine (twice_any co k kc 0 F w3 hQ3.out (by omega) (by omega)).mono ?_
        rw [hcF.out.val]
        rintro e w4 ⟨zo, z, zc, J, rfl, hz, hzc, hsz, hcz, hb4⟩
        have hsz' := Lib.hid hsz; have hcz' := Lib.hid hcz; have hb4' := Lib.hid (hb3'.out.trans (hb4.mono hb3'.out.size)); have hsp4 := Lib.hid (hsp3.out.below hb4)
        clear hsz hcz hb4
        go_wp2_with fail
        go_roundw
        case rel =>
          refine ⟨s, zo, z, zc, J, xo, p, pc, H, by omega, int_eq (by omega), rfl, rfl, hz, hzc, hp, hpc, hsz'.out, ?_, hsp4.out, ?_, hb4'.out⟩
          · rw [htop'.out, d'.out.1]; exact hcz'.out
          · rw [htop'.out, d'.out.2]; exact hcp'.out
        case measure => simp [intOf]
      · have d := dv1'.out hge
        have d' := Lib.hid d; have hsI' := Lib.hid hsI; have hcI' := Lib.hid hcI
        clear d hge hsI hcI
        go_wp2_with fail
        refine (twice_any co k kc 1 F w3 hQ3.out (by omega) (by omega)).mono ?_
        rw [hcF.out.val]
        rintro e w4 ⟨zo, z, zc, J, rfl, hz, hzc, hsz, hcz, hb4⟩
        have hsz' := Lib.hid hsz; have hcz' := Lib.hid hcz; have hb4' := Lib.hid (hb3'.out.trans (hb4.mono hb3'.out.size)); have hsI4 := Lib.hid (hsI'.out.below hb4)
        clear hsz hcz hb4
        go_wp2_with fail
        go_roundw
        case rel =>
          refine ⟨s, zo, z, zc, J, yo, y, yc, I, by omega, int_eq (by omega), rfl, rfl, hz, hzc, hy, hyc, hsz'.out, ?_, hsI4.out, ?_, hb4'.out⟩
          · rw [htop'.out, d'.out.1]; exact hcz'.out
          · rw [htop'.out, d'.out.2]; exact hcI'.out
        case measure => simp [intOf]

set_option maxRecDepth 100000 in
set_option maxHeartbeats 2000000 in
theorem refGcd_any (ao bo : Option Addr) (n nc m mc : Nat) (f g : Nat → Nat) (w : World) (A : Arg w ao n nc f) (B : Arg w bo m mc g) (hn40 : n ≤ 40) (hm40 : m ≤ 40) :
    Calls Tryz.prog 81 #[.slice ao n nc, .slice bo m mc] w (NumPost (Nat.gcd (val f n) (val g m)) w) := by
  have hA := Lib.hid A; have hB := Lib.hid B
  have hX := Lib.hid (small' (val_lt A.lim) hn40); have hY := Lib.hid (small' (val_lt B.lim) hm40)
  obtain ⟨X, hX0⟩ : ∃ X, X = val f n := ⟨_, rfl⟩
  obtain ⟨Y, hY0⟩ : ∃ Y, Y = val g m := ⟨_, rfl⟩
  obtain ⟨D, hD0⟩ : ∃ D, D = Nat.gcd X Y := ⟨_, rfl⟩
  rw [← hX0, ← hY0, ← hD0]
  rw [← hX0] at hX
  rw [← hY0] at hY
  obtain ⟨P, hP0⟩ : ∃ P, P = pw 40 := ⟨_, rfl⟩
  obtain ⟨K, hK0⟩ : ∃ K, K = 4000 := ⟨_, rfl⟩
  have hK : 3999 < K := by omega
  have hKl : K < 4001 := by omega
  clear hK0
  obtain ⟨M, hM0⟩ : ∃ M, M = 3000 := ⟨_, rfl⟩
  obtain ⟨T, hT0⟩ : ∃ T, T = 2 ^ M := ⟨_, rfl⟩
  have hT := Lib.hid hT0
  have hM : M ≤ 3000 := by omega
  have hM' : 3000 ≤ M := by omega
  clear hT0 hM0
  rw [← hP0] at hX hY
  have hX' := Lib.hid hX0; have hY' := Lib.hid hY0; have hD' := Lib.hid hD0; have hP' := Lib.hid hP0
  clear A B hX0 hY0 hD0 hP0
  go_enter Tryz.func81, Tryz.ntmps81
  go_wp2_with fail
  refine (refNorm_any ao n nc f w hA.out).mono ?_
  rw [← hX'.out]
  rintro e w1 ⟨co, q, qc, h, rfl, hq, hqc, hsh, hch, hb⟩
  have hsh' := Lib.hid hsh; have hch' := Lib.hid hch; have hbel := Lib.hid hb
  clear hsh hch hb
  go_wp2_with fail
  refine (refNorm_any bo m mc g w1 (hB.out.below hbel.out)).mono ?_
  rw [← hY'.out]
  rintro e w2 ⟨do_, r, rc, i, rfl, hr, hrc, hsi, hci, hb⟩
  have hsi' := Lib.hid hsi; have hci' := Lib.hid hci; have hbel2 := Lib.hid (hbel.out.trans (hb.mono hbel.out.size)); have hsh2 := Lib.hid (hsh'.out.below hb)
  clear hsi hci hb hsh'
  go_wp2_with fail
  go_loopw [5, 6, 7] (fun a b c wr => ∃ (k x y : Nat) (ao : Option Addr) (n nc : Nat) (f : Nat → Nat) (bo : Option Addr) (m mc : Nat) (g : Nat → Nat), c = .int .i64 k ∧ a = .slice ao n nc ∧ b = .slice bo m mc ∧ n ≤ nc ∧ nc ≤ 9223372036854775807 ∧ m ≤ mc ∧ mc ≤ 9223372036854775807 ∧ k ≤ K ∧
      Sl wr ao n f ∧ Canon x n f ∧ Sl wr bo m g ∧ Canon y m g ∧ x < P ∧ y < P ∧ D = Nat.gcd x y ∧ (k = 0 ∨ (y < x ∧ x * y * 2 ^ k ≤ T)) ∧ Below w.heap.size w wr) (fun _ _ c _ => K - (intOf c).toNat)
  case atStart =>
    exact ⟨0, X, Y, co, q, qc, h, do_, r, rc, i, rfl, rfl, rfl, hq, hqc, hr, hrc, by omega, hsh2.out, hch'.out, hsi'.out, hci'.out, hX.out, hY.out, hD'.out, .inl rfl, hbel2.out⟩
  case round =>
    obtain ⟨k, x, y, ao, n, nc, f, bo, m, mc, g, rfl, rfl, rfl, hn, hnc, hm, hmc, hk, hsf0, hcf0, hsg0, hcg0, hx0, hy0, hg0, hst0, hbel0⟩ := hrel
    have hsf := Lib.hid hsf0; have hcf := Lib.hid hcf0; have hsg := Lib.hid hsg0; have hcg := Lib.hid hcg0; have hx := Lib.hid hx0; have hy := Lib.hid hy0; have hg := Lib.hid hg0; have hst := Lib.hid hst0; have hbel := Lib.hid hbel0
    clear hsf0 hcf0 hsg0 hcg0 hx0 hy0 hg0 hst0 hbel0
    have hkk0 : k ≤ 4000 := by omega
    have hkt : decide ((k : Int) < 100000) = true := by rw [decide_eq_true_iff]; omega
    by_cases hm0 : m = 0
    · subst hm0
      focus
        go_wp2_with fail
        go_ret
        refine ⟨ao, n, nc, f, rfl, hn, hnc, hsf.out, ?_, hbel.out⟩
        have e : y = 0 := hcg.out.ne_zero.1 rfl
        have e2 := hg.out
        rw [e, Nat.gcd_zero_right] at e2
        rw [e2]; exact hcf.out
    · have hy1 : 0 < y := Nat.pos_of_ne_zero (fun e => hm0 (hcg.out.ne_zero.2 e))
      have hkk : k ≤ 3000 := by
        rcases hst.out with h | ⟨h1, h2⟩
        · omega
        · rw [hT.out] at h2
          exact Nat.le_trans (gcd_few h1 hy1 h2) hM
      have hst2 : Hid (x % y < y ∧ y * (x % y) * 2 ^ (k + 1) ≤ T) := by
        rcases hst.out with h | ⟨h1, h2⟩
        · refine ⟨Nat.mod_lt _ hy1, ?_⟩
          rw [h, hT.out]
          have py : y ≤ pw 40 := by rw [← hP'.out]; exact Nat.le_of_lt hy.out
          exact gcd_start py (Nat.le_trans (Nat.le_of_lt (Nat.mod_lt _ hy1)) py) (by omega)
        · exact gcd_step h1 hy1 h2
      obtain ⟨a1, a2⟩ := hcf.out.few hsf.out hn hnc (by rw [← hP'.out]; exact hx.out) (by omega)
      obtain ⟨b1, b2⟩ := hcg.out.few hsg.out hm hmc (by rw [← hP'.out]; exact hy.out) (by omega)
      have a1' := Lib.hid a1; have b1' := Lib.hid b1
      have hm1 : 0 < m := by omega
      have n40 := Lib.hid a2; have m40 := Lib.hid b2; have k30 := Lib.hid hkk; have k40 := Lib.hid hkk0
      clear a1 b1 a2 b2 hk hM hM'
      go_wp2_with fail
      refine (refDivMod_any ao bo n nc m mc f g wr a1'.out b1'.out (Nat.le_trans n40.out (by decide)) (Nat.le_trans m40.out (by decide))).mono ?_
      rw [hcf.out.val, hcg.out.val]
      rintro e w3 ⟨hb3, h3⟩
      rcases h3 with ⟨h3, _⟩ | ⟨_, ao3, n3, nc3, f3, bo3, m3, mc3, g3, rfl, _, _, hm3, hmc3, _, _, hsg3, hcg3⟩
      · exact absurd h3 (Nat.pos_iff_ne_zero.1 hy1)
      have hsg3' := Lib.hid hsg3; have hcg3' := Lib.hid hcg3; have hsg4 := Lib.hid (hsg.out.below hb3)
      have hbel3 := Lib.hid (hbel.out.trans (hb3.mono hbel.out.size))
      clear hb3 hsg3 hcg3
      go_wp2_with fail
      go_roundw
      case rel =>
        exact ⟨k + 1, y, x % y, bo, m, mc, g, bo3, m3, mc3, g3, by go_num, rfl, rfl, hm, hmc, hm3, hmc3, by have := k30.out; omega, hsg4.out, hcg.out, hsg3'.out, hcg3'.out, hy.out, Nat.lt_trans (Nat.mod_lt _ hy1) hy.out, by rw [hg.out, Nat.gcd_comm, Nat.gcd_rec, Nat.gcd_comm], .inr hst2.out, hbel3.out⟩
      case measure => simp [intOf]; have := k30.out; omega

end Go.Proofs.YtmkjebembicljaaGreat

namespace Go.Proofs.YtmkjebembicljaaGreat
open Go.RowKit Num

attribute [local go_sem ↓] Go.wp_at_zero Go.wp_at_succ

theorem Whole.alloc {w : World} {b : Bool} {ao : Option Addr} {n nc : Nat} {x : Int} (h : Whole w b ao n nc x) (o : Obj) : Whole (w.alloc o) b ao n nc x := h.below ((Below.refl _ w).alloc (Nat.le_refl _) o)

theorem Right.alloc {w : World} {b : Bool} {ao : Option Addr} {n nc : Nat} {x : Int} (h : Right w b ao n nc x) (o : Obj) : Right (w.alloc o) b ao n nc x := h.below ((Below.refl _ w).alloc (Nat.le_refl _) o)

theorem small2 {v k : Nat} (hk : k ≤ 1000000) (h : v < pw k) : v < pw 1000000 := Nat.lt_of_lt_of_le h (pw_le hk)

theorem sum_small {u v k : Nat} (hk : k + 1 ≤ 1000000) (hu : u < pw k) (hv : v < pw k) : u + v < pw 1000000 := by
  have e : pw (k + 1) = 4294967296 * pw k := rfl
  exact Nat.lt_of_lt_of_le (m := pw (k + 1)) (by omega) (pw_le hk)

theorem Whole.drew {w : World} {b : Bool} {ao : Option Addr} {n nc : Nat} {x : Int} (h : Whole w b ao n nc x) : Whole w.drew b ao n nc x := h.below (Below.refl _ w).drew

theorem made1' {W w' : World} {u0 u1 : Value} {t : TypeId} (hb : Below (W.alloc (.cells #[u0, u1] t)).drew.heap.size (W.alloc (.cells #[u0, u1] t)).drew w') : Box w' W.heap.size u0 u1 := (Box.new u0 u1 t rfl).drew.later hb

theorem made2' {W w' : World} {u0 u1 v0 v1 : Value} {t s : TypeId} (hb : Below ((W.alloc (.cells #[u0, u1] t)).alloc (.cells #[v0, v1] s)).drew.heap.size ((W.alloc (.cells #[u0, u1] t)).alloc (.cells #[v0, v1] s)).drew w') :
    Box w' W.heap.size u0 u1 ∧ Box w' (W.heap.size + 1) v0 v1 := ⟨((Box.new u0 u1 t rfl).alloc _).drew.later hb, (Box.new v0 v1 s (by simp)).drew.later hb⟩

theorem made3' {W w' : World} {u0 u1 v0 v1 x0 x1 : Value} {t s r : TypeId} (hb : Below (((W.alloc (.cells #[u0, u1] t)).alloc (.cells #[v0, v1] s)).alloc (.cells #[x0, x1] r)).drew.heap.size (((W.alloc (.cells #[u0, u1] t)).alloc (.cells #[v0, v1] s)).alloc (.cells #[x0, x1] r)).drew w') :
    Box w' W.heap.size u0 u1 ∧ Box w' (W.heap.size + 1) v0 v1 ∧ Box w' (W.heap.size + 2) x0 x1 := ⟨(((Box.new u0 u1 t rfl).alloc _).alloc _).drew.later hb, ((Box.new v0 v1 s (by simp)).alloc _).drew.later hb, (Box.new x0 x1 r (by simp)).drew.later hb⟩

theorem made1 {W w' : World} {u0 u1 : Value} {t : TypeId} (hb : Below (W.alloc (.cells #[u0, u1] t)).heap.size (W.alloc (.cells #[u0, u1] t)) w') : Box w' W.heap.size u0 u1 := (Box.new u0 u1 t rfl).later hb

theorem made2 {W w' : World} {u0 u1 v0 v1 : Value} {t s : TypeId} (hb : Below ((W.alloc (.cells #[u0, u1] t)).alloc (.cells #[v0, v1] s)).heap.size ((W.alloc (.cells #[u0, u1] t)).alloc (.cells #[v0, v1] s)) w') :
    Box w' W.heap.size u0 u1 ∧ Box w' (W.heap.size + 1) v0 v1 := ⟨((Box.new u0 u1 t rfl).alloc _).later hb, (Box.new v0 v1 s (by simp)).later hb⟩

theorem made3 {W w' : World} {u0 u1 v0 v1 x0 x1 : Value} {t s r : TypeId} (hb : Below (((W.alloc (.cells #[u0, u1] t)).alloc (.cells #[v0, v1] s)).alloc (.cells #[x0, x1] r)).heap.size (((W.alloc (.cells #[u0, u1] t)).alloc (.cells #[v0, v1] s)).alloc (.cells #[x0, x1] r)) w') :
    Box w' W.heap.size u0 u1 ∧ Box w' (W.heap.size + 1) v0 v1 ∧ Box w' (W.heap.size + 2) x0 x1 := ⟨(((Box.new u0 u1 t rfl).alloc _).alloc _).later hb, ((Box.new v0 v1 s (by simp)).alloc _).later hb, (Box.new x0 x1 r (by simp)).later hb⟩

end Go.Proofs.YtmkjebembicljaaGreat

namespace Go.Proofs.YtmkjebembicljaaGreat
open Go.RowKit Num

end Go.Proofs.YtmkjebembicljaaGreat

namespace Go.Proofs.YtmkjebembicljaaGreat
open Go.RowKit Num

attribute [local go_sem ↓] Go.wp_at_zero Go.wp_at_succ

theorem cmp_sign {x y : Int} (h : x.sign ≠ y.sign) : cmpI x.sign y.sign = cmpI x y := by
  rcases Int.lt_trichotomy x 0 with hx | rfl | hx <;> rcases Int.lt_trichotomy y 0 with hy | rfl | hy <;>
    simp_all [Int.sign_eq_one_of_pos, Int.sign_eq_neg_one_of_neg, cmpI] <;> (repeat' split) <;> omega

theorem sgn_cases (b : Bool) (u : Nat) : ((u = 0 ∧ (sgn b u).sign = 0 ∧ sgn b u = 0) ∨ (0 < u ∧ (sgn b u).sign = 1 ∧ sgn b u = u)) ∨ (0 < u ∧ (sgn b u).sign = -1 ∧ sgn b u = -(u : Int)) := by
  by_cases h : u = 0
  · subst h; left; left; cases b <;> simp [sgn]
  · have h' : (0 : Int) < (u : Int) := by omega
    cases b
    · left; right; exact ⟨by omega, Int.sign_eq_one_of_pos h', rfl⟩
    · right; exact ⟨by omega, Int.sign_eq_neg_one_of_neg (by simp only [sgn_true]; omega), rfl⟩

theorem wrap_is (z : Int) : wrap64 z = IntKind.i64.wrap z := by
  simp [wrap64, IntKind.wrap, IntKind.bits, IntKind.signed]
  omega

theorem wrap_cmp (p q : Int) : IntKind.i64.wrap (1 * cmpI p q) = cmpI p q ∧ IntKind.i64.wrap (-1 * cmpI p q) = cmpI (-p) (-q) ∧ IntKind.i64.wrap (0 * cmpI p q) = 0 := by
  have w1 : IntKind.i64.wrap 1 = 1 := by decide
  have w2 : IntKind.i64.wrap (-1) = -1 := by decide
  have w3 : IntKind.i64.wrap 0 = 0 := by decide
  rcases Int.lt_trichotomy p q with h | h | h
  · rw [cmpI_lt h, cmpI_gt (show -q < -p by omega)]; exact ⟨w2, w1, w3⟩
  · rw [cmpI_eq h, cmpI_eq (show -p = -q by omega)]; exact ⟨w3, w3, w3⟩
  · rw [cmpI_gt h, cmpI_lt (show -p < -q by omega)]; exact ⟨w1, w2, w3⟩

theorem cmp_size {b c : Bool} {u v : Nat} (h : (sgn b u).sign = (sgn c v).sign) : IntKind.i64.wrap ((sgn b u).sign * cmpI u v) = cmpI (sgn b u) (sgn c v) := by
  obtain ⟨w1, w2, w3⟩ := wrap_cmp u v
  rcases sgn_cases b u with (⟨h1, h2, h3⟩ | ⟨h1, h2, h3⟩) | ⟨h1, h2, h3⟩ <;> rcases sgn_cases c v with (⟨k1, k2, k3⟩ | ⟨k1, k2, k3⟩) | ⟨k1, k2, k3⟩ <;> rw [h2, k2] at h <;> first | omega | skip
  · rw [h2, h3, k3, w3, cmpI_eq rfl]
  · rw [h2, h3, k3, w1]
  · rw [h2, h3, k3, w2]

/-- Quotient, rounded down, and rest; or zeros and false. -/
def IDivPost (x y : Int) (w : World) (e : Ending) (w' : World) : Prop :=
  Below w.heap.size w w' ∧ ((y = 0 ∧ e = .returned (.tuple #[.agg #[.bool false, .slice none 0 0], .agg #[.bool false, .slice none 0 0], .bool false])) ∨
    (y ≠ 0 ∧ ∃ b ao n nc c bo m mc, e = .returned (.tuple #[.agg #[.bool b, .slice ao n nc], .agg #[.bool c, .slice bo m mc], .bool true]) ∧ Right w' b ao n nc (x.fdiv y) ∧ Right w' c bo m mc (x.fmod y)))

theorem fdiv_is {x y q r : Int} (e : r + y * q = x) (h : (0 < y ∧ 0 ≤ r ∧ r < y) ∨ (y < 0 ∧ y < r ∧ r ≤ 0)) : x.fdiv y = q ∧ x.fmod y = r := by
  rcases h with ⟨h0, h1, h2⟩ | ⟨h0, h1, h2⟩
  · exact (Int.fdiv_fmod_unique h0).2 ⟨e, h1, h2⟩
  · exact (Int.fdiv_fmod_unique' h0).2 ⟨e, h1, h2⟩

theorem fdiv_same (b : Bool) {u v : Nat} (hv : v ≠ 0) : (sgn b u).fdiv (sgn b v) = sgn false (u / v) ∧ (sgn b u).fmod (sgn b v) = sgn b (u % v) := by
  have e : (v : Int) * ((u / v : Nat) : Int) + ((u % v : Nat) : Int) = u := by exact_mod_cast Nat.div_add_mod u v
  have l : u % v < v := Nat.mod_lt _ (by omega)
  cases b
  · exact fdiv_is (by simp only [sgn_false]; omega) (.inl ⟨by simp only [sgn_false]; omega, by simp only [sgn_false]; omega, by simp only [sgn_false]; omega⟩)
  · refine fdiv_is ?_ (.inr ⟨by simp only [sgn_true]; omega, by simp only [sgn_true]; omega, by simp only [sgn_true]; omega⟩)
    simp only [sgn_true, sgn_false, Int.neg_mul]; omega

theorem fdiv_even {b c : Bool} (h : b ≠ c) {u v : Nat} (hv : v ≠ 0) (hr : u % v = 0) : (sgn b u).fdiv (sgn c v) = sgn true (u / v) ∧ (sgn b u).fmod (sgn c v) = sgn c (u % v) := by
  have e : (v : Int) * ((u / v : Nat) : Int) + ((u % v : Nat) : Int) = u := by exact_mod_cast Nat.div_add_mod u v
  rw [hr] at e ⊢
  cases b <;> cases c <;> simp only [ne_eq, not_true, reduceCtorEq, not_false_iff] at h
  · refine fdiv_is ?_ (.inr ⟨by simp only [sgn_true]; omega, by simp only [sgn_true]; omega, by simp only [sgn_true]; omega⟩)
    simp only [sgn_true, sgn_false, Int.neg_mul, Int.mul_neg]; omega
  · refine fdiv_is ?_ (.inl ⟨by simp only [sgn_false]; omega, by simp only [sgn_false]; omega, by simp only [sgn_false]; omega⟩)
    simp only [sgn_true, sgn_false, Int.mul_neg]; omega

theorem fdiv_odd {b c : Bool} (h : b ≠ c) {u v : Nat} (hv : v ≠ 0) (hr : u % v ≠ 0) : (sgn b u).fdiv (sgn c v) = sgn true (u / v + 1) ∧ (sgn b u).fmod (sgn c v) = sgn c (v - u % v) := by
  have e : (v : Int) * ((u / v : Nat) : Int) + ((u % v : Nat) : Int) = u := by exact_mod_cast Nat.div_add_mod u v
  have l : u % v < v := Nat.mod_lt _ (by omega)
  have e2 : (v : Int) * ((u / v + 1 : Nat) : Int) = (v : Int) * ((u / v : Nat) : Int) + v := by rw [Int.natCast_add, Int.mul_add]; simp
  cases b <;> cases c <;> simp only [ne_eq, not_true, reduceCtorEq, not_false_iff] at h
  · refine fdiv_is ?_ (.inr ⟨by simp only [sgn_true]; omega, by simp only [sgn_true]; omega, by simp only [sgn_true]; omega⟩)
    simp only [sgn_true, sgn_false, Int.neg_mul, Int.mul_neg]; omega
  · refine fdiv_is ?_ (.inl ⟨by simp only [sgn_false]; omega, by simp only [sgn_false]; omega, by simp only [sgn_false]; omega⟩)
    simp only [sgn_true, sgn_false, Int.mul_neg]; omega

theorem small {v k : Nat} (hk : k ≤ 1000000) (h : v < pw k) : v < pw 1000000 := Nat.lt_of_lt_of_le h (pw_le hk)

theorem IDivPost.stored {w wk : World} {x y q r : Int} {b c : Bool} {ao bo : Option Addr} {n nc m mc B C : Nat} {b1 b2 : Bool} {p1 p2 : Option Addr} {k1 k2 l1 l2 : Nat} (hQ : Right wk b ao n nc q) (hR : Right wk c bo m mc r)
    (zB : Box wk B (.bool b1) (.slice p1 k1 l1)) (zC : Box wk C (.bool b2) (.slice p2 k2 l2)) (hne : B ≠ C) (hb : Below w.heap.size w wk) (hB : w.heap.size ≤ B) (hC : w.heap.size ≤ C) (hy : y ≠ 0) (e : x.fdiv y = q ∧ x.fmod y = r) :
    IDivPost x y w (.returned (.tuple #[.agg #[.bool b, .slice ao n nc], .agg #[.bool c, .slice bo m mc], .bool true])) ((((wk.setCell ⟨B, 0, none⟩ (.bool b)).setCell ⟨B, 1, none⟩ (.slice ao n nc)).setCell ⟨C, 0, none⟩ (.bool c)).setCell ⟨C, 1, none⟩ (.slice bo m mc)) := by
  rw [← e.1] at hQ; rw [← e.2] at hR
  exact ⟨below_set (below_set hb hB _ _) hC _ _, .inr ⟨hy, b, ao, n, nc, c, bo, m, mc, rfl, (hQ.box zB _ _).box (zC.other hne.symm _ _) _ _, (hR.box zB _ _).box (zC.other hne.symm _ _) _ _⟩⟩

theorem IDivPost.stored' {w wk : World} {x y q r : Int} {b c : Bool} {ao bo : Option Addr} {n nc m mc B C : Nat} {b1 b2 : Bool} {p1 p2 : Option Addr} {k1 k2 l1 l2 : Nat} (hQ : Right wk b ao n nc q) (hR : Right wk c bo m mc r)
    (zB : Box wk B (.bool b1) (.slice p1 k1 l1)) (zC : Box wk C (.bool b2) (.slice p2 k2 l2)) (hne : B ≠ C) (hb : Below w.heap.size w wk) (hB : w.heap.size ≤ B) (hC : w.heap.size ≤ C) (hy : y ≠ 0) (e : x.fdiv y = q ∧ x.fmod y = r) :
    IDivPost x y w (.returned (.tuple #[.agg #[.bool b, .slice ao n nc], .agg #[.bool c, .slice bo m mc], .bool true])) ((((wk.setCell ⟨C, 0, none⟩ (.bool c)).setCell ⟨C, 1, none⟩ (.slice bo m mc)).setCell ⟨B, 0, none⟩ (.bool b)).setCell ⟨B, 1, none⟩ (.slice ao n nc)) := by
  rw [← e.1] at hQ; rw [← e.2] at hR
  exact ⟨below_set (below_set hb hC _ _) hB _ _, .inr ⟨hy, b, ao, n, nc, c, bo, m, mc, rfl, (hQ.box zC _ _).box (zB.other hne _ _) _ _, (hR.box zC _ _).box (zB.other hne _ _) _ _⟩⟩

end Go.Proofs.YtmkjebembicljaaGreat

namespace Go.Proofs.YtmkjebembicljaaGreat
open Go.RowKit Num

attribute [local go_sem ↓] Go.wp_at_zero Go.wp_at_succ

set_option maxHeartbeats 1000000 in
theorem upper_any (ab : Bool) (ap aq : Option Addr) (an ac am ae : Nat) (w : World) :
    Calls Tryz.prog 88 #[.agg #[.bool ab, .slice ap an ac, .slice aq am ae]] w (Says (.agg #[.bool ab, .slice ap an ac]) w) := by
  go_enter Tryz.func88, Tryz.ntmps88
  go_wp2_with fail
  refine bodyPost_ret (v := .agg #[.bool ab, .slice ap an ac]) (by simp [results, Tryz.results88, go_sem]) rfl ?_
  exact ⟨rfl, ((Below.refl _ w).alloc (Nat.le_refl _) _).alloc (by simp) _⟩

set_option maxHeartbeats 1000000 in
theorem lower_any (ab : Bool) (ap aq : Option Addr) (an ac am ae : Nat) (w : World) :
    Calls Tryz.prog 89 #[.agg #[.bool ab, .slice ap an ac, .slice aq am ae]] w (Says (.agg #[.bool false, .slice aq am ae]) w) := by
  go_enter Tryz.func89, Tryz.ntmps89
  go_wp2_with fail
  refine bodyPost_ret (v := .agg #[.bool false, .slice aq am ae]) (by simp [results, Tryz.results89, go_sem]) rfl ?_
  exact ⟨rfl, ((Below.refl _ w).alloc (Nat.le_refl _) _).alloc (by simp) _⟩

set_option maxHeartbeats 1000000 in
theorem long_no (ao : Option Addr) (n nc : Nat) (w : World) (h : n ≤ 32) :
    Calls Tryz.prog 70 #[.slice ao n nc] w (Says (.bool false) w) := by
  have hd : decide ((32 : Int) < (n : Int)) = false := by rw [decide_eq_false_iff_not]; omega
  go_enter Tryz.func70, Tryz.ntmps70
  go_wp2_with fail
  go_ret
  exact ⟨rfl, Below.refl _ w⟩

set_option maxHeartbeats 1000000 in
theorem long_yes (ao : Option Addr) (n nc : Nat) (w : World) (h : 32 < n) :
    Calls Tryz.prog 70 #[.slice ao n nc] w (Says (.bool true) w) := by
  have hd : decide ((32 : Int) < (n : Int)) = true := by rw [decide_eq_true_iff]; omega
  go_enter Tryz.func70, Tryz.ntmps70
  go_wp2_with fail
  go_ret
  exact ⟨rfl, Below.refl _ w⟩

set_option maxHeartbeats 1000000 in
theorem over_any (b : Bool) (ao bo : Option Addr) (n nc m mc : Nat) (x : Int) (g : Nat → Nat) (w : World) (A : Right w b ao n nc x) (B : Arg w bo m mc g) :
    Calls Tryz.prog 71 #[.agg #[.bool b, .slice ao n nc], .slice bo m mc] w (RatPost x (val g m) w) := by
  have A' := Lib.hid A; have B' := Lib.hid B
  clear A B
  go_enter Tryz.func71, Tryz.ntmps71
  go_wp2_with fail
  refine gen_wp (fun w' => Below w.heap.size w w' ∧ Box w' w.heap.size (.bool b) (.slice ao n nc) ∧ Box3 w' (w.heap.size + 1) (.bool false) (.slice none 0 0) (.slice none 0 0))
    ⟨(((Below.refl _ _).alloc (Nat.le_refl _) _).alloc (by first | (simp; done) | (simp; omega)) _), ((Box.new _ _ _ rfl).alloc _), (Box3.new _ _ _ _ (by first | (simp; done) | (simp; omega)))⟩ ?_
  rintro w0 ⟨bb, x0, x1⟩
  have bb := bb.drew; have x0 := x0.drew; have x1 := x1.drew
  have sa0 := True.intro
  go_region_held3 (fun w' => w'.cell? ⟨w.heap.size, 0, none⟩ = some (.bool b) ∧ w'.cell? ⟨w.heap.size, 1, none⟩ = some (.slice ao n nc))
    (first | with_reducible exact ⟨x0.c0, x0.c1⟩ | with_reducible exact ⟨(x0.other3 (by omega) _ _ _).c0, (x0.other3 (by omega) _ _ _).c1⟩ | go_keep)
    (first
    | (go_at_call 73; clear sa0; refine (norm_any bo m mc g _ (B'.out.below bb)).mono ?_; rintro e w' ⟨co, cn, cc, c, rfl, h1, h2, h3, h4, hb⟩; have bb := below_then bb (Nat.le_refl _) hb; have x0 := x0.later hb; have x1 := x1.later hb; clear hb; have q0 := x1.c0; have q1 := x1.c1; have q2 := x1.c2; have q3 := x1.fr 0; have q4 := x1.fr 1; have q5 := x1.fr 2; have sa1 := True.intro))
  have z := x1.set (.bool b) (.slice ao n nc) (.slice co cn cc)
  have e0 := z.c0; have e1 := z.c1; have e2 := z.c2
  have hR : Hid (Rt w' b ao n nc co cn cc x (val g m)) := Lib.hid ⟨A'.out.below bb, canon_right (b := false) h1 h2 h3 h4 (.inr rfl)⟩
  have x1' := Lib.hid x1; have bb' := Lib.hid bb
  clear z h3 h4 x1 bb x0 A' B'
  go_wp2_with fail
  refine bodyPost_ret (v := .agg #[.bool b, .slice ao n nc, .slice co cn cc]) (by simp [results, Tryz.results71, go_sem, e0, e1, e2]) rfl ?_
  exact RatPost.stored hR.out x1'.out bb'.out (by omega)

theorem make_bad {p q e : Int} {w w' : World} {E : Ending} (h : mkE p q = e) (he : e ≠ 0) (k : ResPost 0 0 e w E w') : MakePost p q w E w' := by
  subst h
  show ResPost (mkT p q) (mkB p q) (mkE p q) w E w'
  rw [(mk_bad he).1, (mk_bad he).2]
  exact k

theorem make_good {p q : Int} {w w' : World} {E : Ending} (h : mkE p q = 0) (k : ResPost (mkT p q) (mkB p q) 0 w E w') : MakePost p q w E w' := by
  show ResPost (mkT p q) (mkB p q) (mkE p q) w E w'
  rw [h]
  exact k

theorem whole_abs {w : World} {b : Bool} {ao : Option Addr} {n nc : Nat} {x : Int} (h : Whole w b ao n nc x) : ∃ f, Arg w ao n nc f ∧ val f n = x.natAbs := by
  obtain ⟨f, A, rfl⟩ := h.ex
  exact ⟨f, A, by rw [sgn_abs]⟩

theorem mkE_three {p q : Int} (h : q = 0) : mkE p q = 3 := mk_three.2 h

theorem mkE_seven {p q : Int} (h : q ≠ 0) (k : pw 32 ≤ p.natAbs / mkG p q ∨ pw 32 ≤ q.natAbs / mkG p q) : mkE p q = 7 := by
  unfold mkE
  rw [if_neg h, if_neg (by omega)]

theorem canon_long {v n : Nat} {f : Nat → Nat} (c : Canon v n f) (h : 32 < n) : pw 32 ≤ v := by
  apply Nat.le_of_not_lt
  intro hl
  have := c.len_le hl
  omega

theorem canon_short {v n : Nat} {f : Nat → Nat} (c : Canon v n f) (h : n ≤ 32) : v < pw 32 := Nat.lt_of_lt_of_le c.lt_pw (pw_le h)

theorem sign_small (p q : Int) : IntKind.i64.wrap (p.sign * q.sign) = p.sign * q.sign := by
  have e : (p * q).sign = p.sign * q.sign := Int.sign_mul ..
  rw [← e]
  rcases Int.lt_trichotomy (p * q) 0 with h | h | h
  · rw [Int.sign_eq_neg_one_of_neg h]; rfl
  · rw [h]; rfl
  · rw [Int.sign_eq_one_of_pos h]; rfl

set_option maxRecDepth 20000 in
set_option maxHeartbeats 4000000 in
theorem make_any (b c : Bool) (ao bo : Option Addr) (n nc m mc : Nat) (p q : Int) (w : World) (A : Whole w b ao n nc p) (B : Whole w c bo m mc q) :
    Calls Tryz.prog 87 #[.agg #[.bool b, .slice ao n nc], .agg #[.bool c, .slice bo m mc]] w (MakePost p q w) := by
  have A' := Lib.hid A; have B' := Lib.hid B
  clear A B
  go_enter Tryz.func87, Tryz.ntmps87
  go_wp2_with fail
  refine gen_calls (fun w' => Below w.heap.size w w' ∧ Box w' w.heap.size (.bool b) (.slice ao n nc) ∧ Box w' (w.heap.size + 1) (.bool c) (.slice bo m mc) ∧ Box3 w' (w.heap.size + 2) (.bool false) (.slice none 0 0) (.slice none 0 0))
    ⟨((((Below.refl _ _).alloc (Nat.le_refl _) _).alloc (by first | (simp; done) | (simp; omega)) _).alloc (by first | (simp; done) | (simp; omega)) _), (((Box.new _ _ _ rfl).alloc _).alloc _), ((Box.new _ _ _ (by first | (simp; done) | (simp; omega))).alloc _), (Box3.new _ _ _ _ (by first | (simp; done) | (simp; omega)))⟩ ?_
  rintro w0 ⟨hb0, x0, x1, x2⟩
  refine (wSign_any c bo m mc q _ (B'.out.below hb0)).mono ?_
  by_cases hq : q = 0
  · have hs : q.sign = 0 := by rw [hq]; rfl
    rw [hs]
    have hE := Lib.hid (mkE_three (p := p) hq)
    clear hs hq
    rintro e w1 ⟨rfl, hb⟩
    have x2 := x2.later hb
    have bb := Lib.hid (below_then hb0 (Nat.le_refl _) hb)
    have x2' := Lib.hid x2
    have q0 := x2.c0; have q1 := x2.c1; have q2 := x2.c2; have q3 := x2.fr 0; have q4 := x2.fr 1; have q5 := x2.fr 2
    have z := x2.set (.bool false) (.slice none 0 0) (.slice none 0 0)
    have e0 := z.c0; have e1 := z.c1; have e2 := z.c2
    clear x0 x1 x2 hb hb0 z A' B'
    go_wp2_with fail
    refine bodyPost_ret (v := .tuple #[.agg #[.bool false, .slice none 0 0, .slice none 0 0], .int .i64 3]) (by simp [results, Tryz.results87, go_sem, e0, e1, e2]) rfl ?_
    exact make_bad hE.out (by decide) (ResPost.stored (rt_zero _) x2'.out bb.out (by omega))
  have hs : ¬ q.sign = 0 := fun e => hq (Int.sign_eq_zero_iff_zero.1 e)
  have hq' := Lib.hid hq
  clear hq
  rintro e w1 ⟨rfl, hb⟩
  have x0 := x0.later hb; have x1 := x1.later hb; have x2 := Lib.hid (x2.later hb)
  have bb := Lib.hid (below_then hb0 (Nat.le_refl _) hb)
  have A1 := Lib.hid (A'.out.below bb.out); have B1 := Lib.hid (B'.out.below bb.out)
  have p0 := x0.c1; have p1 := x1.c1
  have x0' := Lib.hid x0; have x1' := Lib.hid x1
  clear hb hb0 A' B' x0 x1
  go_wp2_with fail
  clear p0 p1 hs
  obtain ⟨f, hF, hf⟩ := whole_abs A1.out
  obtain ⟨g, hG, hg⟩ := whole_abs B1.out
  have hF := Lib.hid hF; have hf := Lib.hid hf; have hG := Lib.hid hG; have hg := Lib.hid hg
  refine (gcd_any ao bo n nc m mc f g _ hF.out hG.out).mono ?_
  rw [hf.out, hg.out]
  rintro e w2 ⟨go, gn, gc, gf, rfl, g1, g2, g3, g4, hb⟩
  have g4 : Hid (Canon (mkG p q) gn gf) := Lib.hid g4
  have hfew : Hid (mkG p q < pw 1000000) := Lib.hid (Nat.lt_of_le_of_lt (Nat.le_of_dvd (by have := hq'.out; omega) (Nat.gcd_dvd_right _ _)) (by rw [← hg.out]; exact small2 hG.out.few (val_lt hG.out.lim)))
  have gA := Lib.hid (g4.out.arg g3 g1 g2 hfew.out)
  have bb := Lib.hid (below_then bb.out (Nat.le_refl _) hb)
  have x0 := x0'.out.later hb; have x1 := x1'.out.later hb; have x2 := Lib.hid (x2.out.later hb)
  have hF := Lib.hid (hF.out.below hb); have hG := Lib.hid (hG.out.below hb); have A1 := Lib.hid (A1.out.below hb); have B1 := Lib.hid (B1.out.below hb)
  have p0 := x0.c1
  have x0' := Lib.hid x0; have x1' := Lib.hid x1
  clear hb g3 hfew x0 x1
  go_wp2_with fail
  clear p0
  refine (divMod_any ao go n nc gn gc f gf _ hF.out gA.out).mono ?_
  rw [hf.out, g4.out.val]
  rintro e w3 ⟨hb, h⟩
  have hg0 : Hid (mkG p q ≠ 0) := Lib.hid (Nat.pos_iff_ne_zero.1 (mkG_pos hq'.out))
  rcases h with ⟨h, _⟩ | ⟨_, to_, tn, tc, tf, ro, rn, rc, rf, rfl, t1, t2, _, _, t3, t4, _, _⟩
  · exact absurd h hg0.out
  have t3 := Lib.hid t3; have t4 := Lib.hid t4
  have bb := Lib.hid (below_then bb.out (Nat.le_refl _) hb)
  have x0 := x0'.out.later hb; have x1 := x1'.out.later hb; have x2 := Lib.hid (x2.out.later hb)
  have hG := Lib.hid (hG.out.below hb); have A1 := Lib.hid (A1.out.below hb); have B1 := Lib.hid (B1.out.below hb); have gA := Lib.hid (gA.out.below hb)
  have p0 := x1.c1
  have x0' := Lib.hid x0; have x1' := Lib.hid x1
  clear hb x0 x1 hF
  go_wp2_with fail
  clear p0
  refine (divMod_any bo go m mc gn gc g gf _ hG.out gA.out).mono ?_
  rw [hg.out, g4.out.val]
  rintro e w4 ⟨hb, h⟩
  rcases h with ⟨h, _⟩ | ⟨_, uo, un, uc, uf, ro', rn', rc', rf', rfl, u1, u2, _, _, u3, u4, _, _⟩
  · exact absurd h hg0.out
  have u3 := Lib.hid u3; have u4 := Lib.hid u4; have t3 := Lib.hid (t3.out.below hb)
  have bb := Lib.hid (below_then bb.out (Nat.le_refl _) hb)
  have x0' := Lib.hid (x0'.out.later hb); have x1' := Lib.hid (x1'.out.later hb); have x2 := Lib.hid (x2.out.later hb)
  have A1 := Lib.hid (A1.out.below hb); have B1 := Lib.hid (B1.out.below hb)
  clear hb hG gA
  by_cases ht : 32 < tn
  · have hE := Lib.hid (mkE_seven hq'.out (.inl (canon_long t4.out ht)))
    go_wp2_with fail
    refine (long_yes to_ tn tc _ ht).mono ?_
    rintro e w5 ⟨rfl, hb⟩
    have bb := Lib.hid (below_then bb.out (Nat.le_refl _) hb)
    have x2 := x2.out.later hb
    have x2' := Lib.hid x2
    have q0 := x2.c0; have q1 := x2.c1; have q2 := x2.c2; have q3 := x2.fr 0; have q4 := x2.fr 1; have q5 := x2.fr 2
    have z := x2.set (.bool false) (.slice none 0 0) (.slice none 0 0)
    have e0 := z.c0; have e1 := z.c1; have e2 := z.c2
    clear x2 hb z ht
    go_wp2_with fail
    refine bodyPost_ret (v := .tuple #[.agg #[.bool false, .slice none 0 0, .slice none 0 0], .int .i64 7]) (by simp [results, Tryz.results87, go_sem, e0, e1, e2]) rfl ?_
    exact make_bad hE.out (by decide) (ResPost.stored (rt_zero _) x2'.out bb.out (by omega))
  have ht' := Lib.hid ht
  clear ht
  go_wp2_with fail
  refine (long_no to_ tn tc _ (Nat.le_of_not_lt ht'.out)).mono ?_
  rintro e w5 ⟨rfl, hb⟩
  have bb := Lib.hid (below_then bb.out (Nat.le_refl _) hb)
  have x0' := Lib.hid (x0'.out.later hb); have x1' := Lib.hid (x1'.out.later hb); have x2 := Lib.hid (x2.out.later hb)
  have A1 := Lib.hid (A1.out.below hb); have B1 := Lib.hid (B1.out.below hb); have t3 := Lib.hid (t3.out.below hb); have u3 := Lib.hid (u3.out.below hb)
  clear hb
  by_cases hu : 32 < un
  · have hE := Lib.hid (mkE_seven hq'.out (.inr (canon_long u4.out hu)))
    go_wp2_with fail
    refine (long_yes uo un uc _ hu).mono ?_
    rintro e w6 ⟨rfl, hb⟩
    have bb := Lib.hid (below_then bb.out (Nat.le_refl _) hb)
    have x2 := x2.out.later hb
    have x2' := Lib.hid x2
    have q0 := x2.c0; have q1 := x2.c1; have q2 := x2.c2; have q3 := x2.fr 0; have q4 := x2.fr 1; have q5 := x2.fr 2
    have z := x2.set (.bool false) (.slice none 0 0) (.slice none 0 0)
    have e0 := z.c0; have e1 := z.c1; have e2 := z.c2
    clear x2 hb z hu
    go_wp2_with fail
    refine bodyPost_ret (v := .tuple #[.agg #[.bool false, .slice none 0 0, .slice none 0 0], .int .i64 7]) (by simp [results, Tryz.results87, go_sem, e0, e1, e2]) rfl ?_
    exact make_bad hE.out (by decide) (ResPost.stored (rt_zero _) x2'.out bb.out (by omega))
  have hu' := Lib.hid hu
  clear hu
  go_wp2_with fail
  refine (long_no uo un uc _ (Nat.le_of_not_lt hu'.out)).mono ?_
  rintro e w6 ⟨rfl, hb⟩
  have bb := Lib.hid (below_then bb.out (Nat.le_refl _) hb)
  have x0' := Lib.hid (x0'.out.later hb); have x1' := Lib.hid (x1'.out.later hb); have x2 := Lib.hid (x2.out.later hb)
  have A1 := Lib.hid (A1.out.below hb); have B1 := Lib.hid (B1.out.below hb); have t3 := Lib.hid (t3.out.below hb); have u3 := Lib.hid (u3.out.below hb)
  have hE : Hid (mkE p q = 0) := Lib.hid (mkE_ok.2 ⟨hq'.out, canon_short t4.out (Nat.le_of_not_lt ht'.out), canon_short u4.out (Nat.le_of_not_lt hu'.out)⟩)
  clear hb
  go_wp2_with fail
  have bb := bb.out.drew; have x0 := x0'.out.drew; have x1 := x1'.out.drew; have x2 := x2.out.drew
  have A1 := A1.out.below (Below.refl _ _).drew; have B1 := B1.out.below (Below.refl _ _).drew
  have t3 := t3.out.below (Below.refl _ _).drew; have u3 := u3.out.below (Below.refl _ _).drew
  clear x0' x1'
  have sb0 := True.intro
  go_region_held3 (fun w' => w'.cell? ⟨w.heap.size, 0, none⟩ = some (.bool b) ∧ w'.cell? ⟨w.heap.size, 1, none⟩ = some (.slice ao n nc) ∧ w'.cell? ⟨(w.heap.size + 1), 0, none⟩ = some (.bool c) ∧ w'.cell? ⟨(w.heap.size + 1), 1, none⟩ = some (.slice bo m mc))
    (first | with_reducible exact ⟨x0.c0, x0.c1, x1.c0, x1.c1⟩ | with_reducible exact ⟨(x0.other3 (by omega) _ _ _).c0, (x0.other3 (by omega) _ _ _).c1, (x1.other3 (by omega) _ _ _).c0, (x1.other3 (by omega) _ _ _).c1⟩ | go_keep)
    (first
    | (go_at_call 95; clear sb0; refine (wSign_any b ao n nc p _ A1).mono ?_; rintro e w' ⟨rfl, hb⟩; have bb := below_then bb (Nat.le_refl _) hb; have x0 := x0.later hb; have x1 := x1.later hb; have x2 := x2.later hb; have A1 := A1.below hb; have B1 := B1.below hb; have t3 := t3.below hb; have u3 := u3.below hb; clear hb; have sb1 := True.intro)
    | (go_at_call 95; clear sb1; refine (wSign_any c bo m mc q _ B1).mono ?_; rintro e w' ⟨rfl, hb⟩; have bb := below_then bb (Nat.le_refl _) hb; have x0 := x0.later hb; have x1 := x1.later hb; have x2 := x2.later hb; have A1 := A1.below hb; have B1 := B1.below hb; have t3 := t3.below hb; have u3 := u3.below hb; clear hb; have q0 := x2.c0; have q1 := x2.c1; have q2 := x2.c2; have q3 := x2.fr 0; have q4 := x2.fr 1; have q5 := x2.fr 2; have sb2 := True.intro))
  have z := x2.set (.bool (decide (p.sign * q.sign < 0))) (.slice to_ tn tc) (.slice uo un uc)
  have e0 := z.c0; have e1 := z.c1; have e2 := z.c2
  have hR : Hid (Rt w' (decide (p.sign * q.sign < 0)) to_ tn tc uo un uc (mkT p q) (mkB p q)) := Lib.hid ⟨by
    rw [mkT_ok hE.out]
    refine canon_right t1 t2 t3 t4.out ?_
    by_cases h0 : 0 < tn
    · exact .inl h0
    · refine .inr ?_
      have : tn = 0 := by omega
      have e := t4.out.ne_zero.1 this
      have hp : p = 0 := by
        rcases Nat.div_eq_zero_iff.1 e with h | h
        · exact absurd h hg0.out
        · have hd : mkG p q ∣ p.natAbs := Nat.gcd_dvd_left _ _
          have := Nat.eq_zero_of_dvd_of_lt hd h
          omega
      rw [hp]; simp, by
    rw [mkB_ok hE.out]
    exact canon_right (b := false) u1 u2 u3 u4.out (.inr rfl)⟩
  have x2' := Lib.hid x2; have bb' := Lib.hid bb
  clear z x2 bb x0 x1 t3 u3 A1 B1
  go_wp2_with fail
  refine bodyPost_ret (v := .tuple #[.agg #[.bool (decide (p.sign * q.sign < 0)), .slice to_ tn tc, .slice uo un uc], .int .i64 0]) (by simp [results, Tryz.results87, go_sem, sign_small, e0, e1, e2]) rfl ?_
  have := ResPost.stored (E := 0) hR.out x2'.out bb'.out (Nat.le_add_right _ 2)
  refine make_good hE.out ?_
  simpa only [sign_small] using this

end Go.Proofs.YtmkjebembicljaaGreat

namespace Go.Proofs.YtmkjebembicljaaGreat
open Go.RowKit Num

/-- addTimes: in a block of N limbs the m limbs from off on become, with the limb that is told, themselves and x times the other number; nothing else turns. -/
def TimesPost (b N off m x : Nat) (F g : Nat → Nat) (w : World) (e : Ending) (w' : World) : Prop :=
  ∃ (c : Nat) (F' : Nat → Nat), e = .returned (.int .u32 c) ∧ c < 4294967296 ∧ Blk w' b N F' ∧ Lim F' N ∧ (∀ j, (j < off ∨ off + m ≤ j) → F' j = F j) ∧
    val (fun j => F' (off + j)) m + c * pw m = val (fun j => F (off + j)) m + x * val g m ∧ w.grownBy w' (some b)

end Go.Proofs.YtmkjebembicljaaGreat
