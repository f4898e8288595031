/-
  whole.Neg, whole.Mul, whole.Add, whole.Sub.
  scrimref03.Sub, Cmp, Mul.
  Powers: what a power comes to, square by square, and whole.Pow.
  ratio.Whole, Of, Sign, Neg, Abs, Cmp.
  scrimref02.Gcd of longer numbers.
  scrimref03.DivMod.
  scrimref03.Of; scrimlaw03.awake: chapter 3's examples hold.
  scrimref04.Top, Bot, Make.
  scrimref02.Same of any limbs; scrimref04.Same, Right.
  ratio.Mul, Div, Add, Sub.
  ratio.Floor, Ceil, Mod.
-/
import Derived.Test.YtlfilpjiepdejaaMrgC
namespace Go.Proofs.Ytlfilpjiepdejaa
open Go.RowKit Num

attribute [local go_sem ↓] Go.wp_at_zero Go.wp_at_succ

end Go.Proofs.Ytlfilpjiepdejaa

namespace Go.Proofs.Ytlfilpjiepdejaa
open Go.RowKit Num

attribute [local go_sem ↓] Go.wp_at_zero Go.wp_at_succ

theorem sub_abs {x y : Int} {M : Nat} (hx : x.natAbs < pw M) (hy : y.natAbs < pw M) : (x - y).natAbs < pw (M + 1) := by
  have e : pw (M + 1) = 4294967296 * pw M := rfl
  omega

theorem add_abs {x y : Int} {M : Nat} (hx : x.natAbs < pw M) (hy : y.natAbs < pw M) : (x + y).natAbs < pw (M + 1) := by
  have e : pw (M + 1) = 4294967296 * pw M := rfl
  omega

theorem mul_abs {x y : Int} {M L : Nat} (hx : x.natAbs < pw M) (hy : y.natAbs < pw L) : (x * y).natAbs < pw (M + L) := by
  rw [Int.natAbs_mul, pw_add]
  exact Nat.mul_lt_mul'' hx hy

theorem sign_mul (x y : Int) : sgn (!(decide (x < 0) == decide (y < 0))) (x.natAbs * y.natAbs) = x * y := by
  rw [← sgn_mul, sgn_self, sgn_self]

end Go.Proofs.Ytlfilpjiepdejaa

namespace Go.Proofs.Ytlfilpjiepdejaa
open Go.RowKit Num

attribute [local go_sem ↓] Go.wp_at_zero Go.wp_at_succ

/-- The power p times s to the n, if no square and no product on the way has more than 32 limbs. -/
def powR (n : Nat) (p s : Int) : Option Int :=
  if _h : n = 0 then some p
  else if pw 32 ≤ s.natAbs then none
  else
    let q := if n % 2 = 1 then p * s else p
    if pw 32 ≤ q.natAbs then none else powR (n / 2) q (s * s)
termination_by n
decreasing_by omega

theorem powR_zero (p s : Int) : powR 0 p s = some p := by rw [powR]; simp

theorem powR_great {n : Nat} {p s : Int} (h0 : n ≠ 0) (hs : pw 32 ≤ s.natAbs) : powR n p s = none := by rw [powR]; simp [h0, hs]

theorem powR_odd_great {n : Nat} {p s : Int} (h0 : n ≠ 0) (h1 : n % 2 = 1) (hq : pw 32 ≤ (p * s).natAbs) : powR n p s = none := by rw [powR]; simp [h0, h1, hq]

theorem powR_odd {n : Nat} {p s : Int} (h0 : n ≠ 0) (h1 : n % 2 = 1) (hs : s.natAbs < pw 32) (hq : (p * s).natAbs < pw 32) : powR n p s = powR (n / 2) (p * s) (s * s) := by
  rw [powR]; simp [h0, h1, Nat.not_le.2 hs, Nat.not_le.2 hq]

theorem powR_even_great {n : Nat} {p s : Int} (h0 : n ≠ 0) (h1 : ¬ n % 2 = 1) (hq : pw 32 ≤ p.natAbs) : powR n p s = none := by rw [powR]; simp [h0, h1, hq]

theorem powR_even {n : Nat} {p s : Int} (h0 : n ≠ 0) (h1 : ¬ n % 2 = 1) (hs : s.natAbs < pw 32) (hq : p.natAbs < pw 32) : powR n p s = powR (n / 2) p (s * s) := by
  rw [powR]; simp [h0, h1, Nat.not_le.2 hs, Nat.not_le.2 hq]

theorem Right.len_lt {w : World} {b : Bool} {ao : Option Addr} {n nc : Nat} {x : Int} (h : Right w b ao n nc x) (hn : n ≤ 32) : x.natAbs < pw 32 := by
  obtain ⟨f, _, _, _, cf, _⟩ := h.ex
  exact Nat.lt_of_lt_of_le cf.lt_pw (pw_le hn)

theorem Right.len_ge {w : World} {b : Bool} {ao : Option Addr} {n nc : Nat} {x : Int} (h : Right w b ao n nc x) (hn : 32 < n) : pw 32 ≤ x.natAbs := by
  obtain ⟨f, _, _, _, cf, _⟩ := h.ex
  apply Nat.le_of_not_lt
  intro hl
  have := cf.len_le hl
  omega

theorem Right.le_len {w : World} {b : Bool} {ao : Option Addr} {n nc : Nat} {x : Int} (h : Right w b ao n nc x) (hx : x.natAbs < pw 32) : n ≤ 32 := by
  obtain ⟨f, _, _, _, cf, _⟩ := h.ex
  exact cf.len_le hx

def powE (k x : Int) : Int := if k < 0 then 3 else if (powR k.toNat 1 x).isSome then 0 else 7

def powV (k x : Int) : Int := if k < 0 then 0 else (powR k.toNat 1 x).getD 0

/-- A power and 0, or 0 and an error. -/
def PowPost (k x : Int) (w : World) (e : Ending) (w' : World) : Prop :=
  ∃ b ao n nc, e = .returned (.tuple #[.agg #[.bool b, .slice ao n nc], .int .i64 (powE k x)]) ∧ Right w' b ao n nc (powV k x) ∧ Below w.heap.size w w'

theorem zero_right (w : World) : Right w false none 0 0 0 := ⟨fun _ => 0, Nat.le_refl _, by omega, .inl rfl, canon_zero _, rfl⟩

theorem PowPost.some {k x v : Int} {w w' : World} {b : Bool} {ao : Option Addr} {n nc : Nat} {m : Nat} (hk : k = (m : Int)) (hv : powR m 1 x = some v) (hR : Right w' b ao n nc v) (hb : Below w.heap.size w w') :
    PowPost k x w (.returned (.tuple #[.agg #[.bool b, .slice ao n nc], .int .i64 0])) w' := by
  subst hk
  have h0 : ¬ ((m : Int) < 0) := by omega
  refine ⟨b, ao, n, nc, ?_, ?_, hb⟩
  · simp [powE, h0, hv]
  · simpa [powV, h0, hv] using hR

theorem PowPost.none {k x : Int} {w w' : World} {m : Nat} (hk : k = (m : Int)) (hv : powR m 1 x = none) (hb : Below w.heap.size w w') :
    PowPost k x w (.returned (.tuple #[.agg #[.bool false, .slice none 0 0], .int .i64 7])) w' := by
  subst hk
  have h0 : ¬ ((m : Int) < 0) := by omega
  refine ⟨false, Option.none, 0, 0, ?_, ?_, hb⟩
  · simp [powE, h0, hv]
  · simpa [powV, h0, hv] using zero_right w'

theorem mul_self_abs {x : Int} (hx : x.natAbs < pw 32) : (x * x).natAbs < pw 64 := mul_abs hx hx

end Go.Proofs.Ytlfilpjiepdejaa

namespace Go.Proofs.Ytlfilpjiepdejaa
open Go.RowKit Num

attribute [local go_sem ↓] Go.wp_at_zero Go.wp_at_succ

theorem Rt.alloc {w : World} {b : Bool} {ao bo : Option Addr} {n nc m mc Q : Nat} {P : Int} (h : Rt w b ao n nc bo m mc P Q) (o : Obj) : Rt (w.alloc o) b ao n nc bo m mc P Q := h.below ((Below.refl _ w).alloc (Nat.le_refl _) o)

theorem Rt.drew {w : World} {b : Bool} {ao bo : Option Addr} {n nc m mc Q : Nat} {P : Int} (h : Rt w b ao n nc bo m mc P Q) : Rt w.drew b ao n nc bo m mc P Q := h.below (Below.refl _ w).drew

theorem Right.drew' {w : World} {b : Bool} {ao : Option Addr} {n nc : Nat} {x : Int} (h : Right w b ao n nc x) : Right w.drew b ao n nc x := h.below (Below.refl _ w).drew

theorem made13' {W w' : World} {u0 u1 u2 : Value} {t : TypeId} (hb : Below (W.alloc (.cells #[u0, u1, u2] t)).drew.heap.size (W.alloc (.cells #[u0, u1, u2] t)).drew w') : Box3 w' W.heap.size u0 u1 u2 := (Box3.new u0 u1 u2 t rfl).drew.later hb

theorem made13 {W w' : World} {u0 u1 u2 : Value} {t : TypeId} (hb : Below (W.alloc (.cells #[u0, u1, u2] t)).heap.size (W.alloc (.cells #[u0, u1, u2] t)) w') : Box3 w' W.heap.size u0 u1 u2 := (Box3.new u0 u1 u2 t rfl).later hb

theorem Whole.nat {w : World} {b : Bool} {ao : Option Addr} {n nc : Nat} {x : Int} (h : Whole w b ao n nc x) : Whole w false ao n nc x.natAbs := by
  obtain ⟨f, A, rfl⟩ := h.ex
  exact ⟨f, A, by rw [sgn_abs]; rfl⟩

theorem over_w (b : Bool) (ao bo : Option Addr) (n nc m mc : Nat) (x : Int) (Q : Nat) (w : World) (A : Right w b ao n nc x) (B : Whole w false bo m mc Q) :
    Calls Try.prog 60 #[.agg #[.bool b, .slice ao n nc], .slice bo m mc] w (RatPost x Q w) := by
  obtain ⟨g, B, e⟩ := B.ex
  have e : val g m = Q := by rw [sgn_false] at e; omega
  rw [← e]
  exact over_any b ao bo n nc m mc x g w A B

set_option maxHeartbeats 1000000 in
theorem whole_any (b : Bool) (ao : Option Addr) (n nc : Nat) (x : Int) (w : World) (A : Whole w b ao n nc x) (hx : x.natAbs < pw 32) :
    Calls Try.prog 55 #[.agg #[.bool b, .slice ao n nc]] w (RatPost x 1 w) := by
  have A' := Lib.hid A; have hx' := Lib.hid hx
  clear A hx
  go_enter Try.func55, Try.ntmps55
  go_wp2_with fail
  refine gen_calls (fun w' => Below w.heap.size w w' ∧ Box w' w.heap.size (.bool b) (.slice ao n nc) ∧ Box3 w' (w.heap.size + 1) (.bool false) (.slice none 0 0) (.slice none 0 0))
    ⟨(((Below.refl _ _).alloc (Nat.le_refl _) _).alloc (by first | (simp; done) | (simp; omega)) _), ((Box.new _ _ _ rfl).alloc _), (Box3.new _ _ _ _ (by first | (simp; done) | (simp; omega)))⟩ ?_
  rintro w0 ⟨hb0, x0, x1⟩
  refine (wNorm_any b ao n nc x _ (A'.out.below hb0)).mono ?_
  rintro e w1 ⟨eb, eo, en, ec, rfl, h1, hb⟩
  have x0 := x0.later hb; have x1 := x1.later hb; have bb := below_then hb0 (Nat.le_refl _) hb
  have h2 := Lib.hid (h1.box x0 (.bool eb) (.slice eo en ec)); have bb2 := Lib.hid (below_set bb (Nat.le_refl _) (.bool eb) (.slice eo en ec))
  have z0 := x0.set (.bool eb) (.slice eo en ec); have z1 := Lib.hid (x1.other (C := w.heap.size) (by omega) (.bool eb) (.slice eo en ec))
  have q0 := x0.c0; have q1 := x0.c1; have q2 := x0.fr 0; have q3 := x0.fr 1
  have p1 := z0.c1
  have z0' := Lib.hid z0
  clear x0 x1 bb z0 h1 hb hb0
  go_wp2_with fail
  refine gen_calls (fun w' => Below w.heap.size w w' ∧ Box w' w.heap.size (.bool eb) (.slice eo en ec) ∧ Box3 w' (w.heap.size + 1) (.bool false) (.slice none 0 0) (.slice none 0 0) ∧ Right w' eb eo en ec x) ⟨bb2.out, z0'.out, z1.out, h2.out⟩ ?_
  rintro w2 ⟨bb, x0, x1, h1⟩
  clear q0 q1 q2 q3 p1 z0' z1 h2 bb2
  refine (long_no eo en ec _ (h1.le_len hx'.out)).mono ?_
  rintro e w3 ⟨rfl, hb⟩
  have bb := Lib.hid (below_then bb (Nat.le_refl _) hb)
  have x0 := x0.later hb; have x1 := Lib.hid (x1.later hb); have h1 := Lib.hid (h1.below hb)
  have p0 := x0.c0; have p1 := x0.c1
  clear hb x0
  go_wp2_with fail
  refine gen_calls (fun w' => Below w.heap.size w w' ∧ Box3 w' (w.heap.size + 1) (.bool false) (.slice none 0 0) (.slice none 0 0) ∧ Right w' eb eo en ec x ∧ Sl w' (some ⟨w3.heap.size, 0, none⟩) 1 (fun _ => 1)) ⟨bb.out.alloc bb.out.size _, x1.out.alloc _, h1.out.alloc _, sl_new1 w3 _ _ _ rfl⟩ ?_
  rintro w4 ⟨bb, x1, h1, hs⟩
  clear p0 p1
  refine (over_w eb eo (some ⟨w3.heap.size, 0, none⟩) en ec 1 1 x 1 _ h1 ⟨fun _ => 1, ⟨Nat.le_refl _, by omega, by omega, hs, fun _ _ => (by decide : 1 < 4294967296)⟩, by simp [sgn, val, pw]⟩).mono ?_
  rintro e w5 ⟨gb, gp, gn, gc, gq, gm, ge, rfl, hR, hb⟩
  have bb := Lib.hid (below_then bb (Nat.le_refl _) hb)
  have x1 := x1.later hb
  have x1' := Lib.hid x1; have hR' := Lib.hid hR
  have q0 := x1.c0; have q1 := x1.c1; have q2 := x1.c2; have q3 := x1.fr 0; have q4 := x1.fr 1; have q5 := x1.fr 2
  have z := x1.set (.bool gb) (.slice gp gn gc) (.slice gq gm ge)
  have e0 := z.c0; have e1 := z.c1; have e2 := z.c2
  clear x1 hb z h1 hs hR
  go_wp2_with fail
  refine bodyPost_ret (v := .agg #[.bool gb, .slice gp gn gc, .slice gq gm ge]) (by simp [results, Try.results55, go_sem, e0, e1, e2]) rfl ?_
  exact RatPost.stored hR'.out x1'.out bb.out (by omega)

theorem int_32 {n : Int} (h0 : -9223372036854775808 ≤ n) (h1 : n ≤ 9223372036854775807) : n.natAbs < pw 32 := by
  have e : pw 3 = 79228162514264337593543950336 := rfl
  exact Nat.lt_of_lt_of_le (m := pw 3) (by omega) (pw_le (by omega))

set_option maxHeartbeats 1000000 in
theorem of_any (x : Int) (w : World) (h0 : -9223372036854775808 ≤ x) (h1 : x ≤ 9223372036854775807) :
    Calls Try.prog 48 #[.int .i64 x] w (RatPost x 1 w) := by
  have hx := Lib.hid (int_32 h0 h1)
  have k0 := Lib.hid h0; have k1 := Lib.hid h1
  clear h0 h1
  go_enter Try.func48, Try.ntmps48
  go_wp2_with fail
  refine gen_calls (fun w' => Below w.heap.size w w' ∧ Box3 w' w.heap.size (.bool false) (.slice none 0 0) (.slice none 0 0))
    ⟨((Below.refl _ _).alloc (Nat.le_refl _) _), (Box3.new _ _ _ _ rfl)⟩ ?_
  rintro w0 ⟨hb0, x0⟩
  refine (wOf_any x _ k0.out k1.out).mono ?_
  rintro e w1 ⟨eb, eo, en, ec, rfl, h1, hb⟩
  have x0 := x0.later hb; have bb := below_then hb0 (Nat.le_refl _) hb
  clear hb0 hb
  go_wp2_with fail
  refine (whole_any eb eo en ec x _ (h1.whole32 hx.out) hx.out).mono ?_
  rintro e w2 ⟨gb, gp, gn, gc, gq, gm, ge, rfl, hR, hb⟩
  have bb := Lib.hid (below_then bb (Nat.le_refl _) hb)
  have x0 := x0.later hb
  have x0' := Lib.hid x0; have hR' := Lib.hid hR
  have q0 := x0.c0; have q1 := x0.c1; have q2 := x0.c2; have q3 := x0.fr 0; have q4 := x0.fr 1; have q5 := x0.fr 2
  have z := x0.set (.bool gb) (.slice gp gn gc) (.slice gq gm ge)
  have e0 := z.c0; have e1 := z.c1; have e2 := z.c2
  clear x0 hb z hR
  go_wp2_with fail
  refine bodyPost_ret (v := .agg #[.bool gb, .slice gp gn gc, .slice gq gm ge]) (by simp [results, Try.results48, go_sem, e0, e1, e2]) rfl ?_
  exact RatPost.stored hR'.out x0'.out bb.out (by omega)

theorem mul_32 {x y : Int} (hx : x.natAbs < pw 32) (hy : y.natAbs < pw 32) : (x * y).natAbs < pw 64 := mul_abs hx hy

end Go.Proofs.Ytlfilpjiepdejaa

namespace Go.Proofs.Ytlfilpjiepdejaa
open Go.RowKit Num



end Go.Proofs.Ytlfilpjiepdejaa

namespace Go.Proofs.Ytlfilpjiepdejaa
open Go.RowKit Num

attribute [local go_sem ↓] Go.wp_at_zero Go.wp_at_succ

theorem nz_of {y : Int} {v : Nat} (h : v ≠ 0) (e : v = y.natAbs) : y ≠ 0 := by rintro rfl; exact h (by simpa using e)

end Go.Proofs.Ytlfilpjiepdejaa

namespace Go.Proofs.Ytlfilpjiepdejaa
open Go.RowKit Num

attribute [local go_sem ↓] Go.wp_at_zero Go.wp_at_succ

theorem sl_one {w : World} {B : Nat} {v : Int} {x : Nat} (t : TypeId) (h : B = w.heap.size) (hv : v = x) : Sl (w.alloc (.cells #[.int .u32 v] t)) (some ⟨B, 0, none⟩) 1 (fun _ => x) := by
  subst h
  exact sl_new1 w t v x hv

theorem Right.drew {w : World} {b : Bool} {ao : Option Addr} {n nc : Nat} {x : Int} (h : Right w b ao n nc x) : Right w.drew b ao n nc x := h.below (Below.refl _ w).drew

theorem pw3 : pw 3 = 79228162514264337593543950336 := rfl

theorem int_small {n : Int} (h0 : -9223372036854775808 ≤ n) (h1 : n ≤ 9223372036854775807) : n.natAbs < pw 3 := by rw [pw3]; omega

end Go.Proofs.Ytlfilpjiepdejaa

namespace Go.Proofs.Ytlfilpjiepdejaa
open Go.RowKit Num

attribute [local go_sem ↓] Go.wp_at_zero Go.wp_at_succ

theorem sign_differ {p q : Int} (hp : p ≠ 0) (hq : q ≠ 0) : decide (p.sign * q.sign < 0) = !(decide (p < 0) == decide (q < 0)) := by
  rcases Int.lt_or_gt_of_ne hp with h | h <;> rcases Int.lt_or_gt_of_ne hq with k | k
  · rw [Int.sign_eq_neg_one_of_neg h, Int.sign_eq_neg_one_of_neg k]; simp [h, k]
  · rw [Int.sign_eq_neg_one_of_neg h, Int.sign_eq_one_of_pos k]; simp [h, Int.not_lt.2 (Int.le_of_lt k)]
  · rw [Int.sign_eq_one_of_pos h, Int.sign_eq_neg_one_of_neg k]; simp [k, Int.not_lt.2 (Int.le_of_lt h)]
  · rw [Int.sign_eq_one_of_pos h, Int.sign_eq_one_of_pos k]; simp [Int.not_lt.2 (Int.le_of_lt h), Int.not_lt.2 (Int.le_of_lt k)]

end Go.Proofs.Ytlfilpjiepdejaa

namespace Go.Proofs.Ytlfilpjiepdejaa
open Go.RowKit Num

/-- What Same tells of any limbs. -/
def SameBPost (n m : Nat) (f g : Nat → Nat) (w : World) (e : Ending) (w' : World) : Prop := ∃ r, e = .returned (.bool r) ∧ (r = true ↔ n = m ∧ ∀ j, j < n → f j = g j) ∧ Below w.heap.size w w'

def Same4BPost (b c : Bool) (n m k l : Nat) (f g h i : Nat → Nat) (w : World) (e : Ending) (w' : World) : Prop := ∃ r, e = .returned (.bool r) ∧ (r = true ↔ b = c ∧ (n = m ∧ ∀ j, j < n → f j = g j) ∧ (k = l ∧ ∀ j, j < k → h j = i j)) ∧ Below w.heap.size w w'

set_option maxHeartbeats 1000000 in
/-- Same, of any limbs. -/
theorem sameB_any (ao bo : Option Addr) (n nc m mc : Nat) (f g : Nat → Nat) (w : World) (hn : n ≤ 9223372036854775807) (hf : Sl w ao n f) (hg : Sl w bo m g) :
    Calls Try.prog 41 #[.slice ao n nc, .slice bo m mc] w (SameBPost n m f g w) := by
  by_cases hnm : n = m
  · subst hnm
    go_enter Try.func41, Try.ntmps41
    go_wp2_with fail
    go_loopw [5] (fun i wr => ∃ j : Nat, j ≤ n ∧ i = .int .i64 j ∧ Hid (∀ i, i < j → f i = g i) ∧ ∃ q, wr = w.drewN q) (fun i _ => n - (intOf i).toNat)
    case atStart => exact ⟨0, Nat.zero_le _, rfl, Lib.hid (fun i hi => absurd hi (Nat.not_lt_zero _)), 0, rfl⟩
    case round =>
      obtain ⟨j, hj, rfl, heq, q, rfl⟩ := hrel
      by_cases hlt : j < n
      · rcases hf with h | ⟨b, off, rfl, hc⟩
        · omega
        rcases hg with h | ⟨b', off', rfl, hc'⟩
        · omega
        have c1 := hc j hlt
        have c2 := hc' j hlt
        clear hc hc'
        by_cases he : f j = g j
        · rw [← he] at c2
          have heq' : Hid (∀ i, i < j + 1 → f i = g i) := Lib.hid (fun i hi => by
            by_cases hij : i < j
            · exact heq.out i hij
            · have : i = j := by omega
              subst this; exact he)
          clear he heq
          go_wp2_with fail
          go_quiet (fail)
          go_wp2_with fail
          go_roundw
          case rel => exact ⟨j + 1, by omega, by go_num, heq', _, rfl⟩
          case measure => simp [intOf]; omega
        · have he' : ((f j : Int) == (g j : Int)) = false := by rw [beq_eq_false_iff_ne]; omega
          have hid := Lib.hid he
          have hlt' := Lib.hid hlt
          go_wp2_with fail
          go_quiet (fail)
          go_wp2_with fail
          go_ret
          exact ⟨false, rfl, ⟨(fun h => by cases h), fun h => absurd (h.2 j hlt'.out) hid.out⟩, below_drewN (below_drewN (Below.refl _ _) _) _⟩
      · have : j = n := by omega
        subst this
        go_wp2_with fail
        go_ret
        exact ⟨true, rfl, ⟨fun _ => ⟨rfl, heq.out⟩, fun _ => rfl⟩, below_drewN (Below.refl _ _) _⟩
  · have hd : ((n : Int) == (m : Int)) = false := by rw [beq_eq_false_iff_ne]; omega
    have hnm' := Lib.hid hnm
    clear hf hg
    go_enter Try.func41, Try.ntmps41
    go_wp2_with fail
    go_ret
    exact ⟨false, rfl, ⟨(fun h => by cases h), fun h => absurd h.1 hnm'.out⟩, Below.refl _ _⟩

attribute [local go_sem ↓] Go.wp_at_zero Go.wp_at_succ

set_option maxHeartbeats 2000000 in
theorem same4B_any (ab cb : Bool) (ap aq cp cq : Option Addr) (an ac am ae cn cc cm ce : Nat) (f h g k : Nat → Nat) (w : World) (hn : an ≤ 9223372036854775807) (hm : am ≤ 9223372036854775807) (hf : Sl w ap an f) (hh : Sl w aq am h) (hg : Sl w cp cn g) (hk : Sl w cq cm k) :
    Calls Try.prog 28 #[.agg #[.bool ab, .slice ap an ac, .slice aq am ae], .agg #[.bool cb, .slice cp cn cc, .slice cq cm ce]] w (Same4BPost ab cb an cn am cm f g h k w) := by
  have hf' := Lib.hid hf; have hh' := Lib.hid hh; have hg' := Lib.hid hg; have hk' := Lib.hid hk
  clear hf hh hg hk
  by_cases hb : ab = cb
  · subst hb
    go_enter Try.func28, Try.ntmps28
    go_wp2_with fail
    refine gen_calls (fun w' => Below w.heap.size w w' ∧ Box3 w' w.heap.size (.bool ab) (.slice ap an ac) (.slice aq am ae) ∧ Box3 w' (w.heap.size + 1) (.bool ab) (.slice cp cn cc) (.slice cq cm ce))
      ⟨(((Below.refl _ _).alloc (Nat.le_refl _) _).alloc (by first | (simp; done) | (simp; omega)) _), ((Box3.new _ _ _ _ rfl).alloc _), (Box3.new _ _ _ _ (by first | (simp; done) | (simp; omega)))⟩ ?_
    rintro w0 ⟨hb0, x0, x1⟩
    refine (sameB_any ap cp an ac cn cc f g _ hn (hf'.out.below hb0) (hg'.out.below hb0)).mono ?_
    rintro e w1 ⟨r, rfl, hr, hb⟩
    have bb := Lib.hid (below_then hb0 (Nat.le_refl _) hb)
    have x0 := x0.later hb; have x1 := x1.later hb
    have p0 := x0.c2; have p1 := x1.c2
    replace hr := Lib.hid hr
    clear hb hb0 x0 x1
    cases r
    · go_wp2_with fail
      go_ret
      exact ⟨false, rfl, ⟨(fun h => by cases h), fun h => absurd (hr.out.2 h.2.1) (by decide)⟩, bb.out⟩
    · go_wp2_with fail
      refine (sameB_any aq cq am ae cm ce h k _ hm (hh'.out.below bb.out) (hk'.out.below bb.out)).mono ?_
      rintro e w2 ⟨s, rfl, hs, hb⟩
      have bb := Lib.hid (below_then bb.out (Nat.le_refl _) hb)
      replace hs := Lib.hid hs
      clear hb p0 p1
      go_wp2_with fail
      go_ret
      exact ⟨s, rfl, ⟨fun e => ⟨rfl, hr.out.1 (by first | exact rfl | trivial), hs.out.1 e⟩, fun h => hs.out.2 h.2.2⟩, bb.out⟩
  · have hd : (ab == cb) = false := by simp [hb]
    have hb' := Lib.hid hb
    clear hb
    go_enter Try.func28, Try.ntmps28
    go_wp2_with fail
    go_ret
    exact ⟨false, rfl, ⟨(fun h => by cases h), fun h => absurd h.1 hb'.out⟩, (((Below.refl _ _).alloc (Nat.le_refl _) _).alloc (by simp) _)⟩

theorem Right.same {w : World} {b c : Bool} {ao bo : Option Addr} {n nc m mc : Nat} {x : Int} (A : Right w b ao n nc x) (B : Right w c bo m mc x) : b = c := A.neg.trans B.neg.symm

theorem same4_any (ab : Bool) (ap aq : Option Addr) (an ac am ae : Nat) (P : Int) (Q : Nat) (cb : Bool) (cp cq : Option Addr) (cn cc cm ce : Nat) (w : World) (A : Rt w ab ap an ac aq am ae P Q) (B : Rt w cb cp cn cc cq cm ce P Q) :
    Calls Try.prog 28 #[.agg #[.bool ab, .slice ap an ac, .slice aq am ae], .agg #[.bool cb, .slice cp cn cc, .slice cq cm ce]] w (Says (.bool true) w) := by
  have e := A.top.same B.top
  obtain ⟨f, f1, f2, f3, f4, _⟩ := A.top.ex
  obtain ⟨h, h1, h2, h3, h4, _⟩ := A.bot.ex
  obtain ⟨g, _, _, g3, g4, _⟩ := B.top.ex
  obtain ⟨k, _, _, k3, k4, _⟩ := B.bot.ex
  refine (same4B_any ab cb ap aq cp cq an ac am ae cn cc cm ce f h g k w (by omega) (by omega) f3 h3 g3 k3).mono ?_
  rintro e' w' ⟨r, rfl, hr, hb⟩
  have := hr.2 ⟨e, ⟨f4.len g4, f4.eq g4⟩, ⟨h4.len k4, h4.eq k4⟩⟩
  subst this
  exact ⟨rfl, hb⟩

theorem Sl.whole {w : World} {b : Bool} {ao : Option Addr} {n nc : Nat} {f : Nat → Nat} (A : Arg w ao n nc f) : Whole w b ao n nc (sgn b (val f n)) := ⟨f, A, rfl⟩

theorem arg_small {w : World} {b : Bool} {ao : Option Addr} {n nc : Nat} {f : Nat → Nat} (A : Arg w ao n nc f) (h : n ≤ 32) : (sgn b (val f n)).natAbs < pw 32 := by
  rw [sgn_abs]
  exact Nat.lt_of_lt_of_le (val_lt A.lim) (pw_le h)

/-- What Right tells: true of a number that is right, and of none else. -/
def RightPost (ab : Bool) (ap : Option Addr) (an ac : Nat) (aq : Option Addr) (am ae : Nat) (w : World) (e : Ending) (w' : World) : Prop :=
  ∃ r, e = .returned (.bool r) ∧ (r = true → ∃ P Q, Low P Q ∧ Rt w ab ap an ac aq am ae P Q) ∧ (∀ P Q, Low P Q → Rt w ab ap an ac aq am ae P Q → r = true) ∧ Below w.heap.size w w'

theorem Right.len_le32 {w : World} {b : Bool} {ao : Option Addr} {n nc : Nat} {x : Int} (h : Right w b ao n nc x) (hx : x.natAbs < pw 32) : n ≤ 32 := h.le_len hx

theorem Right.canon {w : World} {b : Bool} {ao : Option Addr} {n nc : Nat} {x : Int} {f : Nat → Nat} (h : Right w b ao n nc x) (A : Arg w ao n nc f) : Canon x.natAbs n f := by
  obtain ⟨g, _, _, hs, cg, e⟩ := h.ex
  have he : ∀ j, j < n → f j = g j := by
    intro j hj
    rcases A.sl with rfl | ⟨d, off, rfl, hc⟩
    · omega
    · rcases hs with rfl | ⟨d', off', e', hc'⟩
      · omega
      · injection e' with e'
        injection e' with e1 e2
        subst e1 e2
        have := (hc j hj).symm.trans (hc' j hj)
        injection this with this
        injection this with _ this
        omega
  refine ⟨A.lim, ?_, (val_congr he).trans cg.val⟩
  rcases cg.top with h0 | h0
  · exact .inl h0
  · by_cases hn : n = 0
    · exact .inl hn
    · refine .inr ?_
      rw [he (n - 1) (by omega)]; exact h0

theorem Right.val_is {w : World} {b : Bool} {ao : Option Addr} {n nc : Nat} {x : Int} {f : Nat → Nat} (h : Right w b ao n nc x) (A : Arg w ao n nc f) : sgn b (val f n) = x := by
  rw [(h.canon A).val, h.neg, sgn_self]

end Go.Proofs.Ytlfilpjiepdejaa

namespace Go.Proofs.Ytlfilpjiepdejaa
open Go.RowKit Num

attribute [local go_sem ↓] Go.wp_at_zero Go.wp_at_succ

theorem sum_64 {x y : Int} (hx : x.natAbs < pw 64) (hy : y.natAbs < pw 64) : (x + y).natAbs < pw 65 := add_abs hx hy

end Go.Proofs.Ytlfilpjiepdejaa

namespace Go.Proofs.Ytlfilpjiepdejaa
open Go.RowKit Num

attribute [local go_sem ↓] Go.wp_at_zero Go.wp_at_succ

/-- A quotient, rounded down, and a rest come back. -/
def FDivPost (x y : Int) (w : World) (e : Ending) (w' : World) : Prop :=
  ∃ b ao n nc c bo m mc, e = .returned (.tuple #[.agg #[.bool b, .slice ao n nc], .agg #[.bool c, .slice bo m mc], .bool true]) ∧ Right w' b ao n nc (x.fdiv y) ∧ Right w' c bo m mc (x.fmod y) ∧ Below w.heap.size w w'

theorem IDivPost.nz {x y : Int} {w w' : World} {e : Ending} (hy : y ≠ 0) (h : IDivPost x y w e w') : FDivPost x y w e w' := by
  obtain ⟨hb, ⟨h0, _⟩ | ⟨_, b, ao, n, nc, c, bo, m, mc, rfl, h1, h2⟩⟩ := h
  · exact absurd h0 hy
  · exact ⟨b, ao, n, nc, c, bo, m, mc, rfl, h1, h2, hb⟩

/-- What is left of a number by another one: the top, the bottom, the error. -/
abbrev modF (P : Int) (Q : Nat) (R : Int) (S : Nat) : Int := (mkT (R * Q) (S * P)).fdiv (mkB (R * Q) (S * P))

abbrev modT (P : Int) (Q : Nat) (R : Int) (S : Nat) : Int := mkT (P * modF P Q R S) Q

abbrev modB (P : Int) (Q : Nat) (R : Int) (S : Nat) : Nat := mkB (P * modF P Q R S) Q

def modRes (P : Int) (Q : Nat) (R : Int) (S : Nat) : Int × Nat × Int :=
  if P = 0 then (R, S, 0) else if mkE (R * Q) (S * P) ≠ 0 then (0, 0, mkE (R * Q) (S * P)) else
  if mkE (P * modF P Q R S) Q ≠ 0 then (0, 0, mkE (P * modF P Q R S) Q) else
  (mkT (R * modB P Q R S + -modT P Q R S * S) (S * modB P Q R S), mkB (R * modB P Q R S + -modT P Q R S * S) (S * modB P Q R S), mkE (R * modB P Q R S + -modT P Q R S * S) (S * modB P Q R S))

def ModPost (P : Int) (Q : Nat) (R : Int) (S : Nat) := ResPost (modRes P Q R S).1 (modRes P Q R S).2.1 (modRes P Q R S).2.2

theorem mod_zero {P R : Int} {Q S : Nat} {w w' : World} {e : Ending} (h : P = 0) (k : ResPost R S 0 w e w') : ModPost P Q R S w e w' := by
  unfold ModPost modRes
  rw [if_pos h]; exact k

theorem mod_one {P R : Int} {Q S : Nat} {w w' : World} {e : Ending} {E : Int} (h : P ≠ 0) (h1 : mkE (R * Q) (S * P) = E) (hE : E ≠ 0) (k : ResPost 0 0 E w e w') : ModPost P Q R S w e w' := by
  unfold ModPost modRes
  rw [if_neg h, if_pos (by rw [h1]; exact hE), h1]; exact k

theorem mod_two {P R : Int} {Q S : Nat} {w w' : World} {e : Ending} {E : Int} (h : P ≠ 0) (h1 : mkE (R * Q) (S * P) = 0) (h2 : mkE (P * modF P Q R S) Q = E) (hE : E ≠ 0) (k : ResPost 0 0 E w e w') : ModPost P Q R S w e w' := by
  unfold ModPost modRes
  rw [if_neg h, if_neg (by rw [h1]; decide), if_pos (by rw [h2]; exact hE), h2]; exact k

theorem mod_ok {P R : Int} {Q S : Nat} {w w' : World} {e : Ending} (h : P ≠ 0) (h1 : mkE (R * Q) (S * P) = 0) (h2 : mkE (P * modF P Q R S) Q = 0) (k : MakePost (R * modB P Q R S + -modT P Q R S * S) (S * modB P Q R S) w e w') : ModPost P Q R S w e w' := by
  unfold ModPost modRes
  rw [if_neg h, if_neg (by rw [h1]; decide), if_neg (by rw [h2]; decide)]; exact k

theorem make_zero {p q : Int} {w w' : World} {E : Ending} (h : mkE p q = 0) (k : MakePost p q w E w') : ResPost (mkT p q) (mkB p q) 0 w E w' := by
  have k : ResPost (mkT p q) (mkB p q) (mkE p q) w E w' := k
  rwa [h] at k

theorem make_nz {p q e : Int} {w w' : World} {E : Ending} (h : mkE p q = e) (he : e ≠ 0) (k : MakePost p q w E w') : ResPost 0 0 e w E w' := by
  subst h
  have k : ResPost (mkT p q) (mkB p q) (mkE p q) w E w' := k
  rwa [(mk_bad he).1, (mk_bad he).2] at k

end Go.Proofs.Ytlfilpjiepdejaa
