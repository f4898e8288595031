/-
  whole.Neg, whole.Mul, whole.Add, whole.Sub.
  scrimref03.Sub, Cmp, Mul.
  Powers: what a power comes to, square by square, and whole.Pow.
  ratio.Whole, Of, Sign, Neg, Abs, Cmp.
  scrimref02.Gcd of longer numbers.
  scrimref03.DivMod.
  scrimref03.Of; scrimlaw03.awake: chapter 3's examples hold.
  scrimref04.Top, Bot, Make.
  scrimref02.Same of any limbs; scrimref04.Same, Right.
  ratio.Mul, Div, Add, Sub.
  ratio.Floor, Ceil, Mod.
-/
import Derived.Test.YtmkjebembicljaaGreatMrgC
namespace Go.Proofs.YtmkjebembicljaaGreat
open Go.RowKit Num

attribute [local go_sem ↓] Go.wp_at_zero Go.wp_at_succ

end Go.Proofs.YtmkjebembicljaaGreat

namespace Go.Proofs.YtmkjebembicljaaGreat
open Go.RowKit Num

attribute [local go_sem ↓] Go.wp_at_zero Go.wp_at_succ

theorem sub_abs {x y : Int} {M : Nat} (hx : x.natAbs < pw M) (hy : y.natAbs < pw M) : (x - y).natAbs < pw (M + 1) := by
  have e : pw (M + 1) = 4294967296 * pw M := rfl
  omega

theorem add_abs {x y : Int} {M : Nat} (hx : x.natAbs < pw M) (hy : y.natAbs < pw M) : (x + y).natAbs < pw (M + 1) := by
  have e : pw (M + 1) = 4294967296 * pw M := rfl
  omega

theorem mul_abs {x y : Int} {M L : Nat} (hx : x.natAbs < pw M) (hy : y.natAbs < pw L) : (x * y).natAbs < pw (M + L) := by
  rw [Int.natAbs_mul, pw_add]
  exact Nat.mul_lt_mul'' hx hy

theorem field0 (u v : Value) (w : World) : (Instr.field 82 (.agg #[u, v]) 0).run Tryz.prog w = .ok u w := by kernel_rfl

attribute [local go_sem] field0

theorem sign_mul (x y : Int) : sgn (!(decide (x < 0) == decide (y < 0))) (x.natAbs * y.natAbs) = x * y := by
  rw [← sgn_mul, sgn_self, sgn_self]

end Go.Proofs.YtmkjebembicljaaGreat

namespace Go.Proofs.YtmkjebembicljaaGreat
open Go.RowKit Num

attribute [local go_sem ↓] Go.wp_at_zero Go.wp_at_succ

/-- The power p times s to the n, if no square and no product on the way has more than 32 limbs. -/
def powR (n : Nat) (p s : Int) : Option Int :=
  if _h : n = 0 then some p
  else if pw 32 ≤ s.natAbs then none
  else
    let q := if n % 2 = 1 then p * s else p
    if pw 32 ≤ q.natAbs then none else powR (n / 2) q (s * s)
termination_by n
decreasing_by omega

theorem powR_zero (p s : Int) : powR 0 p s = some p := by rw [powR]; simp

theorem powR_great {n : Nat} {p s : Int} (h0 : n ≠ 0) (hs : pw 32 ≤ s.natAbs) : powR n p s = none := by rw [powR]; simp [h0, hs]

theorem powR_odd_great {n : Nat} {p s : Int} (h0 : n ≠ 0) (h1 : n % 2 = 1) (hq : pw 32 ≤ (p * s).natAbs) : powR n p s = none := by rw [powR]; simp [h0, h1, hq]

theorem powR_odd {n : Nat} {p s : Int} (h0 : n ≠ 0) (h1 : n % 2 = 1) (hs : s.natAbs < pw 32) (hq : (p * s).natAbs < pw 32) : powR n p s = powR (n / 2) (p * s) (s * s) := by
  rw [powR]; simp [h0, h1, Nat.not_le.2 hs, Nat.not_le.2 hq]

theorem powR_even_great {n : Nat} {p s : Int} (h0 : n ≠ 0) (h1 : ¬ n % 2 = 1) (hq : pw 32 ≤ p.natAbs) : powR n p s = none := by rw [powR]; simp [h0, h1, hq]

theorem powR_even {n : Nat} {p s : Int} (h0 : n ≠ 0) (h1 : ¬ n % 2 = 1) (hs : s.natAbs < pw 32) (hq : p.natAbs < pw 32) : powR n p s = powR (n / 2) p (s * s) := by
  rw [powR]; simp [h0, h1, Nat.not_le.2 hs, Nat.not_le.2 hq]

theorem Right.len_lt {w : World} {b : Bool} {ao : Option Addr} {n nc : Nat} {x : Int} (h : Right w b ao n nc x) (hn : n ≤ 32) : x.natAbs < pw 32 := by
  obtain ⟨f, _, _, _, cf, _⟩ := h.ex
  exact Nat.lt_of_lt_of_le cf.lt_pw (pw_le hn)

theorem Right.len_ge {w : World} {b : Bool} {ao : Option Addr} {n nc : Nat} {x : Int} (h : Right w b ao n nc x) (hn : 32 < n) : pw 32 ≤ x.natAbs := by
  obtain ⟨f, _, _, _, cf, _⟩ := h.ex
  apply Nat.le_of_not_lt
  intro hl
  have := cf.len_le hl
  omega

theorem Right.le_len {w : World} {b : Bool} {ao : Option Addr} {n nc : Nat} {x : Int} (h : Right w b ao n nc x) (hx : x.natAbs < pw 32) : n ≤ 32 := by
  obtain ⟨f, _, _, _, cf, _⟩ := h.ex
  exact cf.len_le hx

def powE (k x : Int) : Int := if k < 0 then 3 else if (powR k.toNat 1 x).isSome then 0 else 7

def powV (k x : Int) : Int := if k < 0 then 0 else (powR k.toNat 1 x).getD 0

/-- A power and 0, or 0 and an error. -/
def PowPost (k x : Int) (w : World) (e : Ending) (w' : World) : Prop :=
  ∃ b ao n nc, e = .returned (.tuple #[.agg #[.bool b, .slice ao n nc], .int .i64 (powE k x)]) ∧ Right w' b ao n nc (powV k x) ∧ Below w.heap.size w w'

theorem zero_right (w : World) : Right w false none 0 0 0 := ⟨fun _ => 0, Nat.le_refl _, by omega, .inl rfl, canon_zero _, rfl⟩

theorem PowPost.some {k x v : Int} {w w' : World} {b : Bool} {ao : Option Addr} {n nc : Nat} {m : Nat} (hk : k = (m : Int)) (hv : powR m 1 x = some v) (hR : Right w' b ao n nc v) (hb : Below w.heap.size w w') :
    PowPost k x w (.returned (.tuple #[.agg #[.bool b, .slice ao n nc], .int .i64 0])) w' := by
  subst hk
  have h0 : ¬ ((m : Int) < 0) := by omega
  refine ⟨b, ao, n, nc, ?_, ?_, hb⟩
  · simp [powE, h0, hv]
  · simpa [powV, h0, hv] using hR

theorem PowPost.none {k x : Int} {w w' : World} {m : Nat} (hk : k = (m : Int)) (hv : powR m 1 x = none) (hb : Below w.heap.size w w') :
    PowPost k x w (.returned (.tuple #[.agg #[.bool false, .slice none 0 0], .int .i64 7])) w' := by
  subst hk
  have h0 : ¬ ((m : Int) < 0) := by omega
  refine ⟨false, Option.none, 0, 0, ?_, ?_, hb⟩
  · simp [powE, h0, hv]
  · simpa [powV, h0, hv] using zero_right w'

theorem mul_self_abs {x : Int} (hx : x.natAbs < pw 32) : (x * x).natAbs < pw 64 := mul_abs hx hx

end Go.Proofs.YtmkjebembicljaaGreat

namespace Go.Proofs.YtmkjebembicljaaGreat
open Go.RowKit Num

attribute [local go_sem ↓] Go.wp_at_zero Go.wp_at_succ

theorem Rt.alloc {w : World} {b : Bool} {ao bo : Option Addr} {n nc m mc Q : Nat} {P : Int} (h : Rt w b ao n nc bo m mc P Q) (o : Obj) : Rt (w.alloc o) b ao n nc bo m mc P Q := h.below ((Below.refl _ w).alloc (Nat.le_refl _) o)

theorem Rt.drew {w : World} {b : Bool} {ao bo : Option Addr} {n nc m mc Q : Nat} {P : Int} (h : Rt w b ao n nc bo m mc P Q) : Rt w.drew b ao n nc bo m mc P Q := h.below (Below.refl _ w).drew

theorem Right.drew' {w : World} {b : Bool} {ao : Option Addr} {n nc : Nat} {x : Int} (h : Right w b ao n nc x) : Right w.drew b ao n nc x := h.below (Below.refl _ w).drew

theorem made13' {W w' : World} {u0 u1 u2 : Value} {t : TypeId} (hb : Below (W.alloc (.cells #[u0, u1, u2] t)).drew.heap.size (W.alloc (.cells #[u0, u1, u2] t)).drew w') : Box3 w' W.heap.size u0 u1 u2 := (Box3.new u0 u1 u2 t rfl).drew.later hb

theorem made13 {W w' : World} {u0 u1 u2 : Value} {t : TypeId} (hb : Below (W.alloc (.cells #[u0, u1, u2] t)).heap.size (W.alloc (.cells #[u0, u1, u2] t)) w') : Box3 w' W.heap.size u0 u1 u2 := (Box3.new u0 u1 u2 t rfl).later hb

theorem Whole.nat {w : World} {b : Bool} {ao : Option Addr} {n nc : Nat} {x : Int} (h : Whole w b ao n nc x) : Whole w false ao n nc x.natAbs := by
  obtain ⟨f, A, rfl⟩ := h.ex
  exact ⟨f, A, by rw [sgn_abs]; rfl⟩

theorem over_w (b : Bool) (ao bo : Option Addr) (n nc m mc : Nat) (x : Int) (Q : Nat) (w : World) (A : Right w b ao n nc x) (B : Whole w false bo m mc Q) :
    Calls Tryz.prog 71 #[.agg #[.bool b, .slice ao n nc], .slice bo m mc] w (RatPost x Q w) := by
  obtain ⟨g, B, e⟩ := B.ex
  have e : val g m = Q := by rw [sgn_false] at e; omega
  rw [← e]
  exact over_any b ao bo n nc m mc x g w A B

set_option maxHeartbeats 1000000 in
theorem whole_any (b : Bool) (ao : Option Addr) (n nc : Nat) (x : Int) (w : World) (A : Whole w b ao n nc x) (hx : x.natAbs < pw 32) :
    Calls Tryz.prog 57 #[.agg #[.bool b, .slice ao n nc]] w (RatPost x 1 w) := by
  have A' := Lib.hid A; have hx' := Lib.hid hx
  clear A hx
  go_enter Tryz.func57, Tryz.ntmps57
  go_wp2_with fail
  refine gen_calls (fun w' => Below w.heap.size w w' ∧ Box w' w.heap.size (.bool b) (.slice ao n nc) ∧ Box3 w' (w.heap.size + 1) (.bool false) (.slice none 0 0) (.slice none 0 0))
    ⟨(((Below.refl _ _).alloc (Nat.le_refl _) _).alloc (by first | (simp; done) | (simp; omega)) _), ((Box.new _ _ _ rfl).alloc _), (Box3.new _ _ _ _ (by first | (simp; done) | (simp; omega)))⟩ ?_
  rintro w0 ⟨hb0, x0, x1⟩
  refine (wNorm_any b ao n nc x _ (A'.out.below hb0)).mono ?_
  rintro e w1 ⟨eb, eo, en, ec, rfl, h1, hb⟩
  have x0 := x0.later hb; have x1 := x1.later hb; have bb := below_then hb0 (Nat.le_refl _) hb
  have h2 := Lib.hid (h1.box x0 (.bool eb) (.slice eo en ec)); have bb2 := Lib.hid (below_set bb (Nat.le_refl _) (.bool eb) (.slice eo en ec))
  have z0 := x0.set (.bool eb) (.slice eo en ec); have z1 := Lib.hid (x1.other (C := w.heap.size) (by omega) (.bool eb) (.slice eo en ec))
  have q0 := x0.c0; have q1 := x0.c1; have q2 := x0.fr 0; have q3 := x0.fr 1
  have p1 := z0.c1
  have z0' := Lib.hid z0
  clear x0 x1 bb z0 h1 hb hb0
  go_wp2_with fail
  refine gen_calls (fun w' => Below w.heap.size w w' ∧ Box w' w.heap.size (.bool eb) (.slice eo en ec) ∧ Box3 w' (w.heap.size + 1) (.bool false) (.slice none 0 0) (.slice none 0 0) ∧ Right w' eb eo en ec x) ⟨bb2.out, z0'.out, z1.out, h2.out⟩ ?_
  rintro w2 ⟨bb, x0, x1, h1⟩
  clear q0 q1 q2 q3 p1 z0' z1 h2 bb2
  refine (long_no eo en ec _ (h1.le_len hx'.out)).mono ?_
  rintro e w3 ⟨rfl, hb⟩
  have bb := Lib.hid (below_then bb (Nat.le_refl _) hb)
  have x0 := x0.later hb; have x1 := Lib.hid (x1.later hb); have h1 := Lib.hid (h1.below hb)
  have p0 := x0.c0; have p1 := x0.c1
  clear hb x0
  go_wp2_with fail
  refine gen_calls (fun w' => Below w.heap.size w w' ∧ Box3 w' (w.heap.size + 1) (.bool false) (.slice none 0 0) (.slice none 0 0) ∧ Right w' eb eo en ec x ∧ Sl w' (some ⟨w3.heap.size, 0, none⟩) 1 (fun _ => 1)) ⟨bb.out.alloc bb.out.size _, x1.out.alloc _, h1.out.alloc _, sl_new1 w3 _ _ _ rfl⟩ ?_
  rintro w4 ⟨bb, x1, h1, hs⟩
  clear p0 p1
  refine (over_w eb eo (some ⟨w3.heap.size, 0, none⟩) en ec 1 1 x 1 _ h1 ⟨fun _ => 1, ⟨Nat.le_refl _, by omega, by omega, hs, fun _ _ => (by decide : 1 < 4294967296)⟩, by simp [sgn, val, pw]⟩).mono ?_
  rintro e w5 ⟨gb, gp, gn, gc, gq, gm, ge, rfl, hR, hb⟩
  have bb := Lib.hid (below_then bb (Nat.le_refl _) hb)
  have x1 := x1.later hb
  have x1' := Lib.hid x1; have hR' := Lib.hid hR
  have q0 := x1.c0; have q1 := x1.c1; have q2 := x1.c2; have q3 := x1.fr 0; have q4 := x1.fr 1; have q5 := x1.fr 2
  have z := x1.set (.bool gb) (.slice gp gn gc) (.slice gq gm ge)
  have e0 := z.c0; have e1 := z.c1; have e2 := z.c2
  clear x1 hb z h1 hs hR
  go_wp2_with fail
  refine bodyPost_ret (v := .agg #[.bool gb, .slice gp gn gc, .slice gq gm ge]) (by simp [results, Tryz.results57, go_sem, e0, e1, e2]) rfl ?_
  exact RatPost.stored hR'.out x1'.out bb.out (by omega)

theorem int_32 {n : Int} (h0 : -9223372036854775808 ≤ n) (h1 : n ≤ 9223372036854775807) : n.natAbs < pw 32 := by
  have e : pw 3 = 79228162514264337593543950336 := rfl
  exact Nat.lt_of_lt_of_le (m := pw 3) (by omega) (pw_le (by omega))

set_option maxHeartbeats 1000000 in
theorem of_any (x : Int) (w : World) (h0 : -9223372036854775808 ≤ x) (h1 : x ≤ 9223372036854775807) :
    Calls Tryz.prog 40 #[.int .i64 x] w (RatPost x 1 w) := by
  have hx := Lib.hid (int_32 h0 h1)
  have k0 := Lib.hid h0; have k1 := Lib.hid h1
  clear h0 h1
  go_enter Tryz.func40, Tryz.ntmps40
  go_wp2_with fail
  refine gen_calls (fun w' => Below w.heap.size w w' ∧ Box3 w' w.heap.size (.bool false) (.slice none 0 0) (.slice none 0 0))
    ⟨((Below.refl _ _).alloc (Nat.le_refl _) _), (Box3.new _ _ _ _ rfl)⟩ ?_
  rintro w0 ⟨hb0, x0⟩
  refine (wOf_any x _ k0.out k1.out).mono ?_
  rintro e w1 ⟨eb, eo, en, ec, rfl, h1, hb⟩
  have x0 := x0.later hb; have bb := below_then hb0 (Nat.le_refl _) hb
  clear hb0 hb
  go_wp2_with fail
  refine (whole_any eb eo en ec x _ (h1.whole32 hx.out) hx.out).mono ?_
  rintro e w2 ⟨gb, gp, gn, gc, gq, gm, ge, rfl, hR, hb⟩
  have bb := Lib.hid (below_then bb (Nat.le_refl _) hb)
  have x0 := x0.later hb
  have x0' := Lib.hid x0; have hR' := Lib.hid hR
  have q0 := x0.c0; have q1 := x0.c1; have q2 := x0.c2; have q3 := x0.fr 0; have q4 := x0.fr 1; have q5 := x0.fr 2
  have z := x0.set (.bool gb) (.slice gp gn gc) (.slice gq gm ge)
  have e0 := z.c0; have e1 := z.c1; have e2 := z.c2
  clear x0 hb z hR
  go_wp2_with fail
  refine bodyPost_ret (v := .agg #[.bool gb, .slice gp gn gc, .slice gq gm ge]) (by simp [results, Tryz.results40, go_sem, e0, e1, e2]) rfl ?_
  exact RatPost.stored hR'.out x0'.out bb.out (by omega)

theorem mul_32 {x y : Int} (hx : x.natAbs < pw 32) (hy : y.natAbs < pw 32) : (x * y).natAbs < pw 64 := mul_abs hx hy

end Go.Proofs.YtmkjebembicljaaGreat

namespace Go.Proofs.YtmkjebembicljaaGreat
open Go.RowKit Num



set_option maxRecDepth 100000 in
set_option maxHeartbeats 2000000 in
theorem refGcdL_any (ao bo : Option Addr) (n nc m mc : Nat) (f g : Nat → Nat) (w : World) (A : Arg w ao n nc f) (B : Arg w bo m mc g) (L : Nat) (hL : L ≤ 1000) (hn40 : n ≤ L) (hm40 : m ≤ L) :
    Calls Tryz.prog 81 #[.slice ao n nc, .slice bo m mc] w (NumPost (Nat.gcd (val f n) (val g m)) w) := by
  have hA := Lib.hid A; have hB := Lib.hid B
  have hX := Lib.hid (small' (val_lt A.lim) hn40); have hY := Lib.hid (small' (val_lt B.lim) hm40)
  obtain ⟨X, hX0⟩ : ∃ X, X = val f n := ⟨_, rfl⟩
  obtain ⟨Y, hY0⟩ : ∃ Y, Y = val g m := ⟨_, rfl⟩
  obtain ⟨D, hD0⟩ : ∃ D, D = Nat.gcd X Y := ⟨_, rfl⟩
  rw [← hX0, ← hY0, ← hD0]
  rw [← hX0] at hX
  rw [← hY0] at hY
  obtain ⟨P, hP0⟩ : ∃ P, P = pw L := ⟨_, rfl⟩
  have hL' := Lib.hid hL
  obtain ⟨M, hM0⟩ : ∃ M, M = 64 * L + 1 := ⟨_, rfl⟩
  obtain ⟨K, hK0⟩ : ∃ K, K = M + 2 := ⟨_, rfl⟩
  have hK : Hid (M + 2 = K) := Lib.hid hK0.symm
  have hKl : K < 64010 := by omega
  have hKl' := Lib.hid hKl
  clear hK0
  obtain ⟨T, hT0⟩ : ∃ T, T = 2 ^ M := ⟨_, rfl⟩
  have hT := Lib.hid hT0
  have hM' : Hid (64 * L + 1 ≤ M) := Lib.hid (by omega)
  clear hT0 hM0 hL
  rw [← hP0] at hX hY
  have hX' := Lib.hid hX0; have hY' := Lib.hid hY0; have hD' := Lib.hid hD0; have hP' := Lib.hid hP0
  clear A B hX0 hY0 hD0 hP0
  go_enter Tryz.func81, Tryz.ntmps81
  go_wp2_with fail
  refine (refNorm_any ao n nc f w hA.out).mono ?_
  rw [← hX'.out]
  rintro e w1 ⟨co, q, qc, h, rfl, hq, hqc, hsh, hch, hb⟩
  have hsh' := Lib.hid hsh; have hch' := Lib.hid hch; have hbel := Lib.hid hb
  clear hsh hch hb
  go_wp2_with fail
  refine (refNorm_any bo m mc g w1 (hB.out.below hbel.out)).mono ?_
  rw [← hY'.out]
  rintro e w2 ⟨do_, r, rc, i, rfl, hr, hrc, hsi, hci, hb⟩
  have hsi' := Lib.hid hsi; have hci' := Lib.hid hci; have hbel2 := Lib.hid (hbel.out.trans (hb.mono hbel.out.size)); have hsh2 := Lib.hid (hsh'.out.below hb)
  clear hsi hci hb hsh'
  go_wp2_with fail
  go_loopw [5, 6, 7] (fun a b c wr => ∃ (k x y : Nat) (ao : Option Addr) (n nc : Nat) (f : Nat → Nat) (bo : Option Addr) (m mc : Nat) (g : Nat → Nat), c = .int .i64 k ∧ a = .slice ao n nc ∧ b = .slice bo m mc ∧ n ≤ nc ∧ nc ≤ 9223372036854775807 ∧ m ≤ mc ∧ mc ≤ 9223372036854775807 ∧ k ≤ K ∧
      Sl wr ao n f ∧ Canon x n f ∧ Sl wr bo m g ∧ Canon y m g ∧ x < P ∧ y < P ∧ D = Nat.gcd x y ∧ (k = 0 ∨ (y < x ∧ x * y * 2 ^ k ≤ T)) ∧ Below w.heap.size w wr) (fun _ _ c _ => K - (intOf c).toNat)
  case atStart =>
    exact ⟨0, X, Y, co, q, qc, h, do_, r, rc, i, rfl, rfl, rfl, hq, hqc, hr, hrc, by omega, hsh2.out, hch'.out, hsi'.out, hci'.out, hX.out, hY.out, hD'.out, .inl rfl, hbel2.out⟩
  case round =>
    obtain ⟨k, x, y, ao, n, nc, f, bo, m, mc, g, rfl, rfl, rfl, hn, hnc, hm, hmc, hk, hsf0, hcf0, hsg0, hcg0, hx0, hy0, hg0, hst0, hbel0⟩ := hrel
    have hsf := Lib.hid hsf0; have hcf := Lib.hid hcf0; have hsg := Lib.hid hsg0; have hcg := Lib.hid hcg0; have hx := Lib.hid hx0; have hy := Lib.hid hy0; have hg := Lib.hid hg0; have hst := Lib.hid hst0; have hbel := Lib.hid hbel0
    clear hsf0 hcf0 hsg0 hcg0 hx0 hy0 hg0 hst0 hbel0
    have hkk0 : k ≤ 64010 := by omega
    have hkt : decide ((k : Int) < 100000) = true := by rw [decide_eq_true_iff]; omega
    by_cases hm0 : m = 0
    · subst hm0
      focus
        go_wp2_with fail
        go_ret
        refine ⟨ao, n, nc, f, rfl, hn, hnc, hsf.out, ?_, hbel.out⟩
        have e : y = 0 := hcg.out.ne_zero.1 rfl
        have e2 := hg.out
        rw [e, Nat.gcd_zero_right] at e2
        rw [e2]; exact hcf.out
    · have hy1 : 0 < y := Nat.pos_of_ne_zero (fun e => hm0 (hcg.out.ne_zero.2 e))
      have hkk : k ≤ M := by
        rcases hst.out with h | ⟨h1, h2⟩
        · omega
        · rw [hT.out] at h2
          exact gcd_few h1 hy1 h2
      have hst2 : Hid (x % y < y ∧ y * (x % y) * 2 ^ (k + 1) ≤ T) := by
        rcases hst.out with h | ⟨h1, h2⟩
        · refine ⟨Nat.mod_lt _ hy1, ?_⟩
          rw [h, hT.out]
          have py : y ≤ pw L := by rw [← hP'.out]; exact Nat.le_of_lt hy.out
          exact gcd_start py (Nat.le_trans (Nat.le_of_lt (Nat.mod_lt _ hy1)) py) hM'.out
        · exact gcd_step h1 hy1 h2
      obtain ⟨a1, a2⟩ := hcf.out.few hsf.out hn hnc (by rw [← hP'.out]; exact hx.out) (Nat.le_trans hL'.out (by decide))
      obtain ⟨b1, b2⟩ := hcg.out.few hsg.out hm hmc (by rw [← hP'.out]; exact hy.out) (Nat.le_trans hL'.out (by decide))
      have a1' := Lib.hid a1; have b1' := Lib.hid b1
      have hm1 : 0 < m := by omega
      have n40 := Lib.hid a2; have m40 := Lib.hid b2; have k30 := Lib.hid hkk; have k40 := Lib.hid hkk0
      clear a1 b1 a2 b2 hk
      go_wp2_with fail
      refine (refDivMod_any ao bo n nc m mc f g wr a1'.out b1'.out (Nat.le_trans n40.out hL'.out) (Nat.le_trans m40.out hL'.out)).mono ?_
      rw [hcf.out.val, hcg.out.val]
      rintro e w3 ⟨hb3, h3⟩
      rcases h3 with ⟨h3, _⟩ | ⟨_, ao3, n3, nc3, f3, bo3, m3, mc3, g3, rfl, _, _, hm3, hmc3, _, _, hsg3, hcg3⟩
      · exact absurd h3 (Nat.pos_iff_ne_zero.1 hy1)
      have hsg3' := Lib.hid hsg3; have hcg3' := Lib.hid hcg3; have hsg4 := Lib.hid (hsg.out.below hb3)
      have hbel3 := Lib.hid (hbel.out.trans (hb3.mono hbel.out.size))
      clear hb3 hsg3 hcg3
      go_wp2_with fail
      go_roundw
      case rel =>
        exact ⟨k + 1, y, x % y, bo, m, mc, g, bo3, m3, mc3, g3, by go_num, rfl, rfl, hm, hmc, hm3, hmc3, by have := k30.out; have := hK.out; omega, hsg4.out, hcg.out, hsg3'.out, hcg3'.out, hy.out, Nat.lt_trans (Nat.mod_lt _ hy1) hy.out, by rw [hg.out, Nat.gcd_comm, Nat.gcd_rec, Nat.gcd_comm], .inr hst2.out, hbel3.out⟩
      case measure => simp [intOf]; have := k30.out; have := hK.out; omega

end Go.Proofs.YtmkjebembicljaaGreat

namespace Go.Proofs.YtmkjebembicljaaGreat
open Go.RowKit Num

attribute [local go_sem ↓] Go.wp_at_zero Go.wp_at_succ

theorem nz_of {y : Int} {v : Nat} (h : v ≠ 0) (e : v = y.natAbs) : y ≠ 0 := by rintro rfl; exact h (by simpa using e)

end Go.Proofs.YtmkjebembicljaaGreat

namespace Go.Proofs.YtmkjebembicljaaGreat
open Go.RowKit Num

attribute [local go_sem ↓] Go.wp_at_zero Go.wp_at_succ

theorem sl_one {w : World} {B : Nat} {v : Int} {x : Nat} (t : TypeId) (h : B = w.heap.size) (hv : v = x) : Sl (w.alloc (.cells #[.int .u32 v] t)) (some ⟨B, 0, none⟩) 1 (fun _ => x) := by
  subst h
  exact sl_new1 w t v x hv

theorem Right.drew {w : World} {b : Bool} {ao : Option Addr} {n nc : Nat} {x : Int} (h : Right w b ao n nc x) : Right w.drew b ao n nc x := h.below (Below.refl _ w).drew

theorem pw3 : pw 3 = 79228162514264337593543950336 := rfl

theorem int_small {n : Int} (h0 : -9223372036854775808 ≤ n) (h1 : n ≤ 9223372036854775807) : n.natAbs < pw 3 := by rw [pw3]; omega

end Go.Proofs.YtmkjebembicljaaGreat

namespace Go.Proofs.YtmkjebembicljaaGreat
open Go.RowKit Num

attribute [local go_sem ↓] Go.wp_at_zero Go.wp_at_succ

set_option maxHeartbeats 1000000 in
theorem rTop_any (ab : Bool) (ap aq : Option Addr) (an ac am ae : Nat) (P : Int) (w : World) (A : Whole w ab ap an ac P) :
    Calls Tryz.prog 64 #[.agg #[.bool ab, .slice ap an ac, .slice aq am ae]] w (IntPost P w) := by
  have A' := Lib.hid A
  clear A
  go_enter Tryz.func64, Tryz.ntmps64
  go_wp2_with fail
  refine gen_calls (fun w' => Below w.heap.size w w' ∧ Box3 w' w.heap.size (.bool ab) (.slice ap an ac) (.slice aq am ae) ∧ Box w' (w.heap.size + 1) (.bool false) (.slice none 0 0))
    ⟨(((Below.refl _ _).alloc (Nat.le_refl _) _).alloc (by first | (simp; done) | (simp; omega)) _), ((Box3.new _ _ _ _ rfl).alloc _), (Box.new _ _ _ (by first | (simp; done) | (simp; omega)))⟩ ?_
  rintro w0 ⟨hb0, x0, x1⟩
  refine (rNorm_any ab ap an ac P _ (A'.out.below hb0)).mono ?_
  rintro e w1 ⟨eb, eo, en, ec, rfl, hR, hb⟩
  have bb := Lib.hid (below_then hb0 (Nat.le_refl _) hb)
  have x1 := x1.later hb
  have x1' := Lib.hid x1; have hR' := Lib.hid hR
  have q0 := x1.c0; have q1 := x1.c1; have q2 := x1.fr 0; have q3 := x1.fr 1
  have z := x1.set (.bool eb) (.slice eo en ec)
  have e0 := z.c0; have e1 := z.c1
  clear x0 x1 hb hb0 z hR
  go_wp2_with fail
  refine bodyPost_ret (v := .agg #[.bool eb, .slice eo en ec]) (by simp [results, Tryz.results64, go_sem, e0, e1]) rfl ?_
  exact IntPost.stored hR'.out x1'.out bb.out (by omega)

set_option maxHeartbeats 1000000 in
theorem rBot_any (ab : Bool) (ap aq : Option Addr) (an ac am ae : Nat) (Q : Int) (w : World) (A : Whole w false aq am ae Q) :
    Calls Tryz.prog 65 #[.agg #[.bool ab, .slice ap an ac, .slice aq am ae]] w (IntPost Q w) := by
  have A' := Lib.hid A
  clear A
  go_enter Tryz.func65, Tryz.ntmps65
  go_wp2_with fail
  refine gen_calls (fun w' => Below w.heap.size w w' ∧ Box3 w' w.heap.size (.bool ab) (.slice ap an ac) (.slice aq am ae) ∧ Box w' (w.heap.size + 1) (.bool false) (.slice none 0 0))
    ⟨(((Below.refl _ _).alloc (Nat.le_refl _) _).alloc (by first | (simp; done) | (simp; omega)) _), ((Box3.new _ _ _ _ rfl).alloc _), (Box.new _ _ _ (by first | (simp; done) | (simp; omega)))⟩ ?_
  rintro w0 ⟨hb0, x0, x1⟩
  refine (rNorm_any false aq am ae Q _ (A'.out.below hb0)).mono ?_
  rintro e w1 ⟨eb, eo, en, ec, rfl, hR, hb⟩
  have bb := Lib.hid (below_then hb0 (Nat.le_refl _) hb)
  have x1 := x1.later hb
  have x1' := Lib.hid x1; have hR' := Lib.hid hR
  have q0 := x1.c0; have q1 := x1.c1; have q2 := x1.fr 0; have q3 := x1.fr 1
  have z := x1.set (.bool eb) (.slice eo en ec)
  have e0 := z.c0; have e1 := z.c1
  clear x0 x1 hb hb0 z hR
  go_wp2_with fail
  refine bodyPost_ret (v := .agg #[.bool eb, .slice eo en ec]) (by simp [results, Tryz.results65, go_sem, e0, e1]) rfl ?_
  exact IntPost.stored hR'.out x1'.out bb.out (by omega)

theorem sign_differ {p q : Int} (hp : p ≠ 0) (hq : q ≠ 0) : decide (p.sign * q.sign < 0) = !(decide (p < 0) == decide (q < 0)) := by
  rcases Int.lt_or_gt_of_ne hp with h | h <;> rcases Int.lt_or_gt_of_ne hq with k | k
  · rw [Int.sign_eq_neg_one_of_neg h, Int.sign_eq_neg_one_of_neg k]; simp [h, k]
  · rw [Int.sign_eq_neg_one_of_neg h, Int.sign_eq_one_of_pos k]; simp [h, Int.not_lt.2 (Int.le_of_lt k)]
  · rw [Int.sign_eq_one_of_pos h, Int.sign_eq_neg_one_of_neg k]; simp [k, Int.not_lt.2 (Int.le_of_lt h)]
  · rw [Int.sign_eq_one_of_pos h, Int.sign_eq_one_of_pos k]; simp [Int.not_lt.2 (Int.le_of_lt h), Int.not_lt.2 (Int.le_of_lt k)]

set_option maxRecDepth 20000 in
set_option maxHeartbeats 4000000 in
theorem rMake_any (b c : Bool) (ao bo : Option Addr) (n nc m mc : Nat) (p q : Int) (w : World) (A : Whole w b ao n nc p) (B : Whole w c bo m mc q) (L : Nat) (hL : L ≤ 1000) (hp : p.natAbs < pw L) (hq : q.natAbs < pw L) :
    Calls Tryz.prog 63 #[.agg #[.bool b, .slice ao n nc], .agg #[.bool c, .slice bo m mc]] w (MakePost p q w) := by
  have A' := Lib.hid A; have B' := Lib.hid B; have hL' := Lib.hid hL; have hp' := Lib.hid hp; have hq' := Lib.hid hq
  clear A B hL hp hq
  go_enter Tryz.func63, Tryz.ntmps63
  go_wp2_with fail
  refine gen_wp (fun w' => Below w.heap.size w w' ∧ Box w' w.heap.size (.bool b) (.slice ao n nc) ∧ Box w' (w.heap.size + 1) (.bool c) (.slice bo m mc) ∧ Box3 w' (w.heap.size + 2) (.bool false) (.slice none 0 0) (.slice none 0 0))
    ⟨((((Below.refl _ _).alloc (Nat.le_refl _) _).alloc (by first | (simp; done) | (simp; omega)) _).alloc (by first | (simp; done) | (simp; omega)) _), (((Box.new _ _ _ rfl).alloc _).alloc _), ((Box.new _ _ _ (by first | (simp; done) | (simp; omega))).alloc _), (Box3.new _ _ _ _ (by first | (simp; done) | (simp; omega)))⟩ ?_
  rintro u0 ⟨bb, x0, x1, x2⟩
  have A := A'.out.below bb; have B := B'.out.below bb
  clear A' B'
  go_cut [6, 7] from 19 to 67 (fun s t wx => ∃ Y Z eb eo en ec fb fo fn fc, s = .pointer (some ⟨Y, 0, none⟩) ∧ t = .pointer (some ⟨Z, 0, none⟩) ∧ Box wx Y (.bool eb) (.slice eo en ec) ∧ Box wx Z (.bool fb) (.slice fo fn fc) ∧ Box3 wx (w.heap.size + 2) (.bool false) (.slice none 0 0) (.slice none 0 0) ∧ Right wx eb eo en ec p ∧ Right wx fb fo fn fc q ∧ Below w.heap.size w wx)
  case first =>
    have lx0 := x0.lt
    have lx1 := x1.lt
    have lx2 := x2.lt
    have bs := bb.size
    have sa0 := True.intro
    go_region_held3 (fun w' => w'.cell? ⟨w.heap.size, 0, none⟩ = some (.bool b) ∧ w'.cell? ⟨w.heap.size, 1, none⟩ = some (.slice ao n nc) ∧ w'.cell? ⟨(w.heap.size + 1), 0, none⟩ = some (.bool c) ∧ w'.cell? ⟨(w.heap.size + 1), 1, none⟩ = some (.slice bo m mc))
      (first | with_reducible exact ⟨(x0.drew).c0, (x0.drew).c1, (x1.drew).c0, (x1.drew).c1⟩ | with_reducible exact ⟨((x0.alloc _).drew).c0, ((x0.alloc _).drew).c1, ((x1.alloc _).drew).c0, ((x1.alloc _).drew).c1⟩ | with_reducible exact ⟨(((x0.alloc _).alloc _).drew).c0, (((x0.alloc _).alloc _).drew).c1, (((x1.alloc _).alloc _).drew).c0, (((x1.alloc _).alloc _).drew).c1⟩ | with_reducible exact ⟨x0.c0, x0.c1, x1.c0, x1.c1⟩ | with_reducible exact ⟨(x0.alloc _).c0, (x0.alloc _).c1, (x1.alloc _).c0, (x1.alloc _).c1⟩ | with_reducible exact ⟨((x0.alloc _).alloc _).c0, ((x0.alloc _).alloc _).c1, ((x1.alloc _).alloc _).c0, ((x1.alloc _).alloc _).c1⟩ | with_reducible exact ⟨(x0.other (by omega) _ _).c0, (x0.other (by omega) _ _).c1, (x1.other (by omega) _ _).c0, (x1.other (by omega) _ _).c1⟩ | with_reducible exact ⟨((x0.other (by omega) _ _).alloc _).c0, ((x0.other (by omega) _ _).alloc _).c1, ((x1.other (by omega) _ _).alloc _).c0, ((x1.other (by omega) _ _).alloc _).c1⟩ | with_reducible exact ⟨((x0.other (by omega) _ _).other (by omega) _ _).c0, ((x0.other (by omega) _ _).other (by omega) _ _).c1, ((x1.other (by omega) _ _).other (by omega) _ _).c0, ((x1.other (by omega) _ _).other (by omega) _ _).c1⟩ | go_keep)
      (first
      | (go_at_call 80; clear sa0; refine (rNorm_any b ao n nc p _ ?_).mono ?_; (first | with_reducible exact (A.drew) | with_reducible exact ((A.alloc _).drew) | with_reducible exact (((A.alloc _).alloc _).drew)); rintro e u1 ⟨eb, eo, en, ec, rfl, h1, hb⟩; have hc : Below u0.heap.size u0 u1 := (by first | exact (Below.refl _ _).drew.trans hb | exact ((Below.refl _ _).alloc (by first | exact Nat.le_refl _ | (simp; done) | (simp; omega)) _).drew.trans (hb.mono (by first | (simp; done) | (simp; omega))) | exact (((Below.refl _ _).alloc (by first | exact Nat.le_refl _ | (simp; done) | (simp; omega)) _).alloc (by first | exact Nat.le_refl _ | (simp; done) | (simp; omega)) _).drew.trans (hb.mono (by first | (simp; done) | (simp; omega)))); have hz0 := hc.size; have x0 := x0.later hc; have x1 := x1.later hc; have x2 := x2.later hc; have A := A.below hc; have B := B.below hc; have bb := below_then bb (Nat.le_refl _) hc; (first | (with_reducible have mm := made2' hb; obtain ⟨m10, m11⟩ := mm) | (with_reducible have m10 := made1' hb) | skip); (try have k10 := m10.lt); (try have k11 := m11.lt); clear hb hc; have sa1 := True.intro)
      | (go_at_call 80; clear sa1; refine (rNorm_any c bo m mc q _ ?_).mono ?_; (first | with_reducible exact B | with_reducible exact (B.alloc _) | with_reducible exact ((B.alloc _).alloc _)); rintro e u2 ⟨fb, fo, fn, fc, rfl, h2, hb⟩; have hc : Below u1.heap.size u1 u2 := (by first | with_reducible exact hb | exact ((Below.refl _ _).alloc (by first | exact Nat.le_refl _ | (simp; done) | (simp; omega)) _).trans (hb.mono (by first | (simp; done) | (simp; omega))) | exact (((Below.refl _ _).alloc (by first | exact Nat.le_refl _ | (simp; done) | (simp; omega)) _).alloc (by first | exact Nat.le_refl _ | (simp; done) | (simp; omega)) _).trans (hb.mono (by first | (simp; done) | (simp; omega)))); have hz1 := hc.size; have x0 := x0.later hc; have x1 := x1.later hc; have x2 := x2.later hc; have A := A.below hc; have B := B.below hc; have h1 := h1.below hc; have bb := below_then bb (Nat.le_refl _) hc; (try have m10 := m10.later hc); (try have m11 := m11.later hc); (first | (with_reducible have mm := made2 hb; obtain ⟨m20, m21⟩ := mm) | (with_reducible have m20 := made1 hb) | skip); (try have k10 := m10.lt); (try have k11 := m11.lt); (try have k20 := m20.lt); (try have k21 := m21.lt); (try (have f100 := m10.c0; have f101 := m10.c1; have f102 := m10.fr 0; have f103 := m10.fr 1)); (try (have f110 := m11.c0; have f111 := m11.c1; have f112 := m11.fr 0; have f113 := m11.fr 1)); (try (have f200 := m20.c0; have f201 := m20.c1; have f202 := m20.fr 0; have f203 := m20.fr 1)); (try (have f210 := m21.c0; have f211 := m21.c1; have f212 := m21.fr 0; have f213 := m21.fr 1)); clear hb hc; have sa2 := True.intro))
    · go_wp2_with fail; go_meet; exact ⟨_, _, eb, eo, en, ec, fb, fo, fn, fc, rfl, rfl, ((Box.new _ _ _ (by first | (simp; done) | rfl)).alloc _), (Box.new _ _ _ (by first | (simp; done) | rfl)), ((x2.alloc _).alloc _), ((h1.alloc _).alloc _), ((h2.alloc _).alloc _), (Below.alloc (Below.alloc bb (by first | omega | (simp; omega) | (simp; done)) _) (by first | omega | (simp; omega) | (simp; done)) _)⟩
    · go_wp2_with fail; go_meet; exact ⟨_, _, eb, eo, en, ec, fb, fo, fn, fc, rfl, rfl, (Box.new _ _ _ (by first | (simp; done) | rfl)), ((Box.new _ _ _ (by first | (simp; done) | rfl)).alloc _), ((x2.alloc _).alloc _), ((h1.alloc _).alloc _), ((h2.alloc _).alloc _), (Below.alloc (Below.alloc bb (by first | omega | (simp; omega) | (simp; done)) _) (by first | omega | (simp; omega) | (simp; done)) _)⟩
    · go_wp2_with fail; go_meet; exact ⟨_, _, eb, eo, en, ec, fb, fo, fn, fc, rfl, rfl, ((m20.set _ _).alloc _), (Box.new _ _ _ (by first | (simp; done) | rfl)), ((x2.other (by omega) _ _).alloc _), ((h1.box m20 _ _).alloc _), ((h2.box m20 _ _).alloc _), (Below.alloc (below_set bb (by omega) _ _) (by first | omega | (simp; omega) | (simp; done)) _)⟩
    · go_wp2_with fail; go_meet; exact ⟨_, _, eb, eo, en, ec, fb, fo, fn, fc, rfl, rfl, ((m20.set _ _).other (by omega) _ _), ((m21.other (by omega) _ _).set _ _), ((x2.other (by omega) _ _).other (by omega) _ _), ((h1.box m20 _ _).box (m21.other (by omega) _ _) _ _), ((h2.box m20 _ _).box (m21.other (by omega) _ _) _ _), (below_set (below_set bb (by omega) _ _) (by omega) _ _)⟩
    · go_wp2_with fail; go_meet; exact ⟨_, _, eb, eo, en, ec, fb, fo, fn, fc, rfl, rfl, (Box.new _ _ _ (by first | (simp; done) | rfl)), ((m20.set _ _).alloc _), ((x2.other (by omega) _ _).alloc _), ((h1.box m20 _ _).alloc _), ((h2.box m20 _ _).alloc _), (Below.alloc (below_set bb (by omega) _ _) (by first | omega | (simp; omega) | (simp; done)) _)⟩
    · go_wp2_with fail; go_meet; exact ⟨_, _, eb, eo, en, ec, fb, fo, fn, fc, rfl, rfl, ((m21.set _ _).other (by omega) _ _), ((m20.other (by omega) _ _).set _ _), ((x2.other (by omega) _ _).other (by omega) _ _), ((h1.box m21 _ _).box (m20.other (by omega) _ _) _ _), ((h2.box m21 _ _).box (m20.other (by omega) _ _) _ _), (below_set (below_set bb (by omega) _ _) (by omega) _ _)⟩
    · go_wp2_with fail; go_meet; exact ⟨_, _, eb, eo, en, ec, fb, fo, fn, fc, rfl, rfl, ((m10.set _ _).alloc _), (Box.new _ _ _ (by first | (simp; done) | rfl)), ((x2.other (by omega) _ _).alloc _), ((h1.box m10 _ _).alloc _), ((h2.box m10 _ _).alloc _), (Below.alloc (below_set bb (by omega) _ _) (by first | omega | (simp; omega) | (simp; done)) _)⟩
    · go_wp2_with fail; go_meet; exact ⟨_, _, eb, eo, en, ec, fb, fo, fn, fc, rfl, rfl, ((m10.set _ _).other (by omega) _ _), ((m20.other (by omega) _ _).set _ _), ((x2.other (by omega) _ _).other (by omega) _ _), ((h1.box m10 _ _).box (m20.other (by omega) _ _) _ _), ((h2.box m10 _ _).box (m20.other (by omega) _ _) _ _), (below_set (below_set bb (by omega) _ _) (by omega) _ _)⟩
    · go_wp2_with fail; go_meet; exact ⟨_, _, eb, eo, en, ec, fb, fo, fn, fc, rfl, rfl, ((m10.set _ _).other (by omega) _ _), ((m11.other (by omega) _ _).set _ _), ((x2.other (by omega) _ _).other (by omega) _ _), ((h1.box m10 _ _).box (m11.other (by omega) _ _) _ _), ((h2.box m10 _ _).box (m11.other (by omega) _ _) _ _), (below_set (below_set bb (by omega) _ _) (by omega) _ _)⟩
    · go_wp2_with fail; go_meet; exact ⟨_, _, eb, eo, en, ec, fb, fo, fn, fc, rfl, rfl, (Box.new _ _ _ (by first | (simp; done) | rfl)), ((m10.set _ _).alloc _), ((x2.other (by omega) _ _).alloc _), ((h1.box m10 _ _).alloc _), ((h2.box m10 _ _).alloc _), (Below.alloc (below_set bb (by omega) _ _) (by first | omega | (simp; omega) | (simp; done)) _)⟩
    · go_wp2_with fail; go_meet; exact ⟨_, _, eb, eo, en, ec, fb, fo, fn, fc, rfl, rfl, ((m20.set _ _).other (by omega) _ _), ((m10.other (by omega) _ _).set _ _), ((x2.other (by omega) _ _).other (by omega) _ _), ((h1.box m20 _ _).box (m10.other (by omega) _ _) _ _), ((h2.box m20 _ _).box (m10.other (by omega) _ _) _ _), (below_set (below_set bb (by omega) _ _) (by omega) _ _)⟩
    · go_wp2_with fail; go_meet; exact ⟨_, _, eb, eo, en, ec, fb, fo, fn, fc, rfl, rfl, ((m11.set _ _).other (by omega) _ _), ((m10.other (by omega) _ _).set _ _), ((x2.other (by omega) _ _).other (by omega) _ _), ((h1.box m11 _ _).box (m10.other (by omega) _ _) _ _), ((h2.box m11 _ _).box (m10.other (by omega) _ _) _ _), (below_set (below_set bb (by omega) _ _) (by omega) _ _)⟩
  case rest =>
    obtain ⟨Y, Z, eb, eo, en, ec, fb, fo, fn, fc, rfl, rfl, y, z, x2, h1, h2, bb⟩ := hcut
    have hq0 : q = 0 ↔ fn = 0 := by
      obtain ⟨g, _, _, _, cg, _⟩ := h2.ex
      rw [cg.ne_zero]; omega
    have p0 := z.c1
    have y := Lib.hid y
    by_cases h0 : fn = 0
    · have hE := Lib.hid (mkE_three (p := p) (hq0.2 h0))
      subst h0
      clear hq0 h1 h2 z
      have q0 := x2.c0; have q1 := x2.c1; have q2 := x2.c2; have q3 := x2.fr 0; have q4 := x2.fr 1; have q5 := x2.fr 2
      have z := x2.set (.bool false) (.slice none 0 0) (.slice none 0 0)
      have e0 := z.c0; have e1 := z.c1; have e2 := z.c2
      have x2' := Lib.hid x2; have bb' := Lib.hid bb
      clear z x2 bb 
      go_wp2_with fail
      refine bodyPost_ret (v := .tuple #[.agg #[.bool false, .slice none 0 0, .slice none 0 0], .int .i64 (3)]) (by simp [results, Tryz.results63, go_sem, e0, e1, e2]) rfl ?_
      exact make_bad hE.out (by decide) (ResPost.stored (rt_zero _) x2'.out bb'.out (by omega))
    have hqz : Hid (q ≠ 0) := Lib.hid (fun e => h0 (hq0.1 e))
    obtain ⟨f, f1, f2, f3, cf, hfb⟩ := h1.ex
    obtain ⟨g, g1, g2, g3, cg, hgb⟩ := h2.ex
    have cf := Lib.hid cf; have cg := Lib.hid cg; replace hfb := Lib.hid hfb; replace hgb := Lib.hid hgb
    have Ff := Lib.hid (cf.out.few f3 f1 f2 hp'.out (Nat.le_trans hL'.out (by decide))); have Fg := Lib.hid (cg.out.few g3 g1 g2 hq'.out (Nat.le_trans hL'.out (by decide)))
    have p1 := y.out.c1
    have z := Lib.hid z; have x2 := Lib.hid x2; have bb := Lib.hid bb
    clear hq0 h1 h2 f3 g3
    go_wp2_with fail
    clear p0 p1
    refine (refGcdL_any eo fo en ec fn fc f g _ Ff.out.1 Fg.out.1 L hL'.out Ff.out.2 Fg.out.2).mono ?_
    rw [cf.out.val, cg.out.val]
    rintro e w2 ⟨go, gn, gc, gf, rfl, k1, k2, k3, k4, hb⟩
    have k4 : Hid (Canon (mkG p q) gn gf) := Lib.hid k4
    have hGL : Hid (mkG p q < pw L) := Lib.hid (Nat.lt_of_le_of_lt (Nat.le_of_dvd (by have := hqz.out; omega) (Nat.gcd_dvd_right _ _)) hq'.out)
    have FG := Lib.hid (k4.out.few k3 k1 k2 hGL.out (Nat.le_trans hL'.out (by decide)))
    have bb := Lib.hid (below_then bb.out (Nat.le_refl _) hb)
    have y := Lib.hid (y.out.later hb); have z := Lib.hid (z.out.later hb); have x2 := Lib.hid (x2.out.later hb)
    have Ff := Lib.hid (And.intro (Ff.out.1.below hb) Ff.out.2); have Fg := Lib.hid (And.intro (Fg.out.1.below hb) Fg.out.2)
    have p1 := y.out.c1
    clear hb k3
    go_wp2_with fail
    clear p1
    refine (refDivMod_any eo go en ec gn gc f gf _ Ff.out.1 FG.out.1 (Nat.le_trans Ff.out.2 hL'.out) (Nat.le_trans FG.out.2 hL'.out)).mono ?_
    rw [cf.out.val, k4.out.val]
    rintro e w3 ⟨hb, h⟩
    have hg0 : Hid (mkG p q ≠ 0) := Lib.hid (Nat.pos_iff_ne_zero.1 (mkG_pos hqz.out))
    rcases h with ⟨h, _⟩ | ⟨_, to_, tn, tc, tf, ro, rn, rc, rf, rfl, t1, t2, _, _, t3, t4, _, _⟩
    · exact absurd h hg0.out
    have t3 := Lib.hid t3; have t4 := Lib.hid t4
    have bb := Lib.hid (below_then bb.out (Nat.le_refl _) hb)
    have y := Lib.hid (y.out.later hb); have z := Lib.hid (z.out.later hb); have x2 := Lib.hid (x2.out.later hb)
    have Fg := Lib.hid (And.intro (Fg.out.1.below hb) Fg.out.2); have FG := Lib.hid (And.intro (FG.out.1.below hb) FG.out.2)
    have p1 := z.out.c1
    clear hb
    go_wp2_with fail
    clear p1
    refine (refDivMod_any fo go fn fc gn gc g gf _ Fg.out.1 FG.out.1 (Nat.le_trans Fg.out.2 hL'.out) (Nat.le_trans FG.out.2 hL'.out)).mono ?_
    rw [cg.out.val, k4.out.val]
    rintro e w4 ⟨hb, h⟩
    rcases h with ⟨h, _⟩ | ⟨_, uo, un, uc, uf, ro', rn', rc', rf', rfl, u1, u2, _, _, u3, u4, _, _⟩
    · exact absurd h hg0.out
    have u3 := Lib.hid u3; have u4 := Lib.hid u4; have t3 := Lib.hid (t3.out.below hb)
    have bb := below_then bb.out (Nat.le_refl _) hb
    have y := Lib.hid (y.out.later hb); have z := Lib.hid (z.out.later hb); have x2 := x2.out.later hb
    clear hb
    by_cases ht : 32 < tn
    · have hE := Lib.hid (mkE_seven hqz.out (.inl (canon_long t4.out ht)))
      have hd : decide ((32 : Int) < (tn : Int)) = true := by rw [decide_eq_true_iff]; omega
      clear ht h0 f1 f2 g1 g2 t1 t2 u1 u2 k1 k2
      have q0 := x2.c0; have q1 := x2.c1; have q2 := x2.c2; have q3 := x2.fr 0; have q4 := x2.fr 1; have q5 := x2.fr 2
      have z := x2.set (.bool false) (.slice none 0 0) (.slice none 0 0)
      have e0 := z.c0; have e1 := z.c1; have e2 := z.c2
      have x2' := Lib.hid x2; have bb' := Lib.hid bb
      clear z x2 bb 
      go_wp2_with fail
      refine bodyPost_ret (v := .tuple #[.agg #[.bool false, .slice none 0 0, .slice none 0 0], .int .i64 (7)]) (by simp [results, Tryz.results63, go_sem, e0, e1, e2]) rfl ?_
      exact make_bad hE.out (by decide) (ResPost.stored (rt_zero _) x2'.out bb'.out (by omega))
    have hd : decide ((32 : Int) < (tn : Int)) = false := by rw [decide_eq_false_iff_not]; omega
    have ht' := Lib.hid ht
    clear ht
    by_cases hu : 32 < un
    · have hE := Lib.hid (mkE_seven hqz.out (.inr (canon_long u4.out hu)))
      have hd2 : decide ((32 : Int) < (un : Int)) = true := by rw [decide_eq_true_iff]; omega
      clear hu h0 f1 f2 g1 g2 t1 t2 u1 u2 k1 k2
      have q0 := x2.c0; have q1 := x2.c1; have q2 := x2.c2; have q3 := x2.fr 0; have q4 := x2.fr 1; have q5 := x2.fr 2
      have z := x2.set (.bool false) (.slice none 0 0) (.slice none 0 0)
      have e0 := z.c0; have e1 := z.c1; have e2 := z.c2
      have x2' := Lib.hid x2; have bb' := Lib.hid bb
      clear z x2 bb 
      go_wp2_with fail
      refine bodyPost_ret (v := .tuple #[.agg #[.bool false, .slice none 0 0, .slice none 0 0], .int .i64 (7)]) (by simp [results, Tryz.results63, go_sem, e0, e1, e2]) rfl ?_
      exact make_bad hE.out (by decide) (ResPost.stored (rt_zero _) x2'.out bb'.out (by omega))
    have hd2 : decide ((32 : Int) < (un : Int)) = false := by rw [decide_eq_false_iff_not]; omega
    have hE : Hid (mkE p q = 0) := Lib.hid (mkE_ok.2 ⟨hqz.out, canon_short t4.out (Nat.le_of_not_lt ht'.out), canon_short u4.out (Nat.le_of_not_lt hu)⟩)
    clear hu
    by_cases ht0 : tn = 0
    · have hR : Hid (Rt w4 false to_ 0 tc uo un uc (mkT p q) (mkB p q)) := Lib.hid ⟨by
        rw [mkT_ok hE.out]
        have e := t4.out.ne_zero.1 ht0
        have t3 := t3.out
        have t4 := t4.out
        rw [e, ht0] at t4
        rw [e]
        have := canon_right (b := false) (Nat.zero_le tc) t2 (.inl rfl : Sl w4 to_ 0 tf) t4 (.inr rfl)
        have e0 : ∀ s, sgn s 0 = 0 := fun s => by cases s <;> rfl
        rw [e0] at this ⊢; exact this, by
        rw [mkB_ok hE.out]
        exact canon_right (b := false) u1 u2 u3.out u4.out (.inr rfl)⟩
      subst ht0
      clear t1 h0 f1 f2 g1 g2 t2 u1 u2 k1 k2

      have q0 := x2.c0; have q1 := x2.c1; have q2 := x2.c2; have q3 := x2.fr 0; have q4 := x2.fr 1; have q5 := x2.fr 2
      have zz := x2.set (.bool (false)) (.slice to_ 0 tc) (.slice uo un uc)
      have e0 := zz.c0; have e1 := zz.c1; have e2 := zz.c2
      have x2' := Lib.hid x2; have bb' := Lib.hid bb
      have v0 := y.out.c0; have v1 := z.out.c0
      clear zz x2 bb
      go_wp2_with fail
      refine bodyPost_ret (v := .tuple #[.agg #[.bool (false), .slice to_ 0 tc, .slice uo un uc], .int .i64 0]) (by simp [results, Tryz.results63, go_sem, e0, e1, e2]) rfl ?_
      exact make_good hE.out (ResPost.stored (E := 0) hR.out x2'.out bb'.out (Nat.le_add_right _ 2))
    · have hR : Hid (Rt w4 (!(eb == fb)) to_ tn tc uo un uc (mkT p q) (mkB p q)) := Lib.hid ⟨by
        rw [mkT_ok hE.out]
        have hpz : p ≠ 0 := by
          intro e
          refine ht0 (t4.out.ne_zero.2 ?_)
          rw [e]; simp
        rw [hfb.out, hgb.out, ← sign_differ hpz hqz.out]
        exact canon_right t1 t2 t3.out t4.out (.inl (Nat.pos_of_ne_zero ht0)), by
        rw [mkB_ok hE.out]
        exact canon_right (b := false) u1 u2 u3.out u4.out (.inr rfl)⟩
      have hd3 := Nat.pos_of_ne_zero ht0
      clear t1 h0 f1 f2 g1 g2 t2 u1 u2 k1 k2 ht0

      have q0 := x2.c0; have q1 := x2.c1; have q2 := x2.c2; have q3 := x2.fr 0; have q4 := x2.fr 1; have q5 := x2.fr 2
      have zz := x2.set (.bool (!(eb == fb))) (.slice to_ tn tc) (.slice uo un uc)
      have e0 := zz.c0; have e1 := zz.c1; have e2 := zz.c2
      have x2' := Lib.hid x2; have bb' := Lib.hid bb
      have v0 := y.out.c0; have v1 := z.out.c0
      clear zz x2 bb
      go_wp2_with fail
      refine bodyPost_ret (v := .tuple #[.agg #[.bool (!(eb == fb)), .slice to_ tn tc, .slice uo un uc], .int .i64 0]) (by simp [results, Tryz.results63, go_sem, e0, e1, e2]) rfl ?_
      exact make_good hE.out (ResPost.stored (E := 0) hR.out x2'.out bb'.out (Nat.le_add_right _ 2))

end Go.Proofs.YtmkjebembicljaaGreat

namespace Go.Proofs.YtmkjebembicljaaGreat
open Go.RowKit Num

/-- What Same tells of any limbs. -/
def SameBPost (n m : Nat) (f g : Nat → Nat) (w : World) (e : Ending) (w' : World) : Prop := ∃ r, e = .returned (.bool r) ∧ (r = true ↔ n = m ∧ ∀ j, j < n → f j = g j) ∧ Below w.heap.size w w'

def Same4BPost (b c : Bool) (n m k l : Nat) (f g h i : Nat → Nat) (w : World) (e : Ending) (w' : World) : Prop := ∃ r, e = .returned (.bool r) ∧ (r = true ↔ b = c ∧ (n = m ∧ ∀ j, j < n → f j = g j) ∧ (k = l ∧ ∀ j, j < k → h j = i j)) ∧ Below w.heap.size w w'

set_option maxHeartbeats 1000000 in
/-- Same, of any limbs. -/
theorem sameB_any (ao bo : Option Addr) (n nc m mc : Nat) (f g : Nat → Nat) (w : World) (hn : n ≤ 9223372036854775807) (hf : Sl w ao n f) (hg : Sl w bo m g) :
    Calls Tryz.prog 47 #[.slice ao n nc, .slice bo m mc] w (SameBPost n m f g w) := by
  by_cases hnm : n = m
  · subst hnm
    go_enter Tryz.func47, Tryz.ntmps47
    go_wp2_with fail
    go_loopw [5] (fun i wr => ∃ j : Nat, j ≤ n ∧ i = .int .i64 j ∧ Hid (∀ i, i < j → f i = g i) ∧ ∃ q, wr = w.drewN q) (fun i _ => n - (intOf i).toNat)
    case atStart => exact ⟨0, Nat.zero_le _, rfl, Lib.hid (fun i hi => absurd hi (Nat.not_lt_zero _)), 0, rfl⟩
    case round =>
      obtain ⟨j, hj, rfl, heq, q, rfl⟩ := hrel
      by_cases hlt : j < n
      · rcases hf with h | ⟨b, off, rfl, hc⟩
        · omega
        rcases hg with h | ⟨b', off', rfl, hc'⟩
        · omega
        have c1 := hc j hlt
        have c2 := hc' j hlt
        clear hc hc'
        by_cases he : f j = g j
        · rw [← he] at c2
          have heq' : Hid (∀ i, i < j + 1 → f i = g i) := Lib.hid (fun i hi => by
            by_cases hij : i < j
            · exact heq.out i hij
            · have : i = j := by omega
              subst this; exact he)
          clear he heq
          go_wp2_with fail
          go_quiet (fail)
          go_wp2_with fail
          go_roundw
          case rel => exact ⟨j + 1, by omega, by go_num, heq', _, rfl⟩
          case measure => simp [intOf]; omega
        · have he' : ((f j : Int) == (g j : Int)) = false := by rw [beq_eq_false_iff_ne]; omega
          have hid := Lib.hid he
          have hlt' := Lib.hid hlt
          go_wp2_with fail
          go_quiet (fail)
          go_wp2_with fail
          go_ret
          exact ⟨false, rfl, ⟨(fun h => by cases h), fun h => absurd (h.2 j hlt'.out) hid.out⟩, below_drewN (below_drewN (Below.refl _ _) _) _⟩
      · have : j = n := by omega
        subst this
        go_wp2_with fail
        go_ret
        exact ⟨true, rfl, ⟨fun _ => ⟨rfl, heq.out⟩, fun _ => rfl⟩, below_drewN (Below.refl _ _) _⟩
  · have hd : ((n : Int) == (m : Int)) = false := by rw [beq_eq_false_iff_ne]; omega
    have hnm' := Lib.hid hnm
    clear hf hg
    go_enter Tryz.func47, Tryz.ntmps47
    go_wp2_with fail
    go_ret
    exact ⟨false, rfl, ⟨(fun h => by cases h), fun h => absurd h.1 hnm'.out⟩, Below.refl _ _⟩

attribute [local go_sem ↓] Go.wp_at_zero Go.wp_at_succ

set_option maxHeartbeats 2000000 in
theorem same4B_any (ab cb : Bool) (ap aq cp cq : Option Addr) (an ac am ae cn cc cm ce : Nat) (f h g k : Nat → Nat) (w : World) (hn : an ≤ 9223372036854775807) (hm : am ≤ 9223372036854775807) (hf : Sl w ap an f) (hh : Sl w aq am h) (hg : Sl w cp cn g) (hk : Sl w cq cm k) :
    Calls Tryz.prog 31 #[.agg #[.bool ab, .slice ap an ac, .slice aq am ae], .agg #[.bool cb, .slice cp cn cc, .slice cq cm ce]] w (Same4BPost ab cb an cn am cm f g h k w) := by
  have hf' := Lib.hid hf; have hh' := Lib.hid hh; have hg' := Lib.hid hg; have hk' := Lib.hid hk
  clear hf hh hg hk
  by_cases hb : ab = cb
  · subst hb
    go_enter Tryz.func31, Tryz.ntmps31
    go_wp2_with fail
    refine gen_calls (fun w' => Below w.heap.size w w' ∧ Box3 w' w.heap.size (.bool ab) (.slice ap an ac) (.slice aq am ae) ∧ Box3 w' (w.heap.size + 1) (.bool ab) (.slice cp cn cc) (.slice cq cm ce))
      ⟨(((Below.refl _ _).alloc (Nat.le_refl _) _).alloc (by first | (simp; done) | (simp; omega)) _), ((Box3.new _ _ _ _ rfl).alloc _), (Box3.new _ _ _ _ (by first | (simp; done) | (simp; omega)))⟩ ?_
    rintro w0 ⟨hb0, x0, x1⟩
    refine (sameB_any ap cp an ac cn cc f g _ hn (hf'.out.below hb0) (hg'.out.below hb0)).mono ?_
    rintro e w1 ⟨r, rfl, hr, hb⟩
    have bb := Lib.hid (below_then hb0 (Nat.le_refl _) hb)
    have x0 := x0.later hb; have x1 := x1.later hb
    have p0 := x0.c2; have p1 := x1.c2
    replace hr := Lib.hid hr
    clear hb hb0 x0 x1
    cases r
    · go_wp2_with fail
      go_ret
      exact ⟨false, rfl, ⟨(fun h => by cases h), fun h => absurd (hr.out.2 h.2.1) (by decide)⟩, bb.out⟩
    · go_wp2_with fail
      refine (sameB_any aq cq am ae cm ce h k _ hm (hh'.out.below bb.out) (hk'.out.below bb.out)).mono ?_
      rintro e w2 ⟨s, rfl, hs, hb⟩
      have bb := Lib.hid (below_then bb.out (Nat.le_refl _) hb)
      replace hs := Lib.hid hs
      clear hb p0 p1
      go_wp2_with fail
      go_ret
      exact ⟨s, rfl, ⟨fun e => ⟨rfl, hr.out.1 (by first | exact rfl | trivial), hs.out.1 e⟩, fun h => hs.out.2 h.2.2⟩, bb.out⟩
  · have hd : (ab == cb) = false := by simp [hb]
    have hb' := Lib.hid hb
    clear hb
    go_enter Tryz.func31, Tryz.ntmps31
    go_wp2_with fail
    go_ret
    exact ⟨false, rfl, ⟨(fun h => by cases h), fun h => absurd h.1 hb'.out⟩, (((Below.refl _ _).alloc (Nat.le_refl _) _).alloc (by simp) _)⟩

theorem Right.same {w : World} {b c : Bool} {ao bo : Option Addr} {n nc m mc : Nat} {x : Int} (A : Right w b ao n nc x) (B : Right w c bo m mc x) : b = c := A.neg.trans B.neg.symm

theorem same4_any (ab : Bool) (ap aq : Option Addr) (an ac am ae : Nat) (P : Int) (Q : Nat) (cb : Bool) (cp cq : Option Addr) (cn cc cm ce : Nat) (w : World) (A : Rt w ab ap an ac aq am ae P Q) (B : Rt w cb cp cn cc cq cm ce P Q) :
    Calls Tryz.prog 31 #[.agg #[.bool ab, .slice ap an ac, .slice aq am ae], .agg #[.bool cb, .slice cp cn cc, .slice cq cm ce]] w (Says (.bool true) w) := by
  have e := A.top.same B.top
  obtain ⟨f, f1, f2, f3, f4, _⟩ := A.top.ex
  obtain ⟨h, h1, h2, h3, h4, _⟩ := A.bot.ex
  obtain ⟨g, _, _, g3, g4, _⟩ := B.top.ex
  obtain ⟨k, _, _, k3, k4, _⟩ := B.bot.ex
  refine (same4B_any ab cb ap aq cp cq an ac am ae cn cc cm ce f h g k w (by omega) (by omega) f3 h3 g3 k3).mono ?_
  rintro e' w' ⟨r, rfl, hr, hb⟩
  have := hr.2 ⟨e, ⟨f4.len g4, f4.eq g4⟩, ⟨h4.len k4, h4.eq k4⟩⟩
  subst this
  exact ⟨rfl, hb⟩

theorem Sl.whole {w : World} {b : Bool} {ao : Option Addr} {n nc : Nat} {f : Nat → Nat} (A : Arg w ao n nc f) : Whole w b ao n nc (sgn b (val f n)) := ⟨f, A, rfl⟩

theorem arg_small {w : World} {b : Bool} {ao : Option Addr} {n nc : Nat} {f : Nat → Nat} (A : Arg w ao n nc f) (h : n ≤ 32) : (sgn b (val f n)).natAbs < pw 32 := by
  rw [sgn_abs]
  exact Nat.lt_of_lt_of_le (val_lt A.lim) (pw_le h)

/-- What Right tells: true of a number that is right, and of none else. -/
def RightPost (ab : Bool) (ap : Option Addr) (an ac : Nat) (aq : Option Addr) (am ae : Nat) (w : World) (e : Ending) (w' : World) : Prop :=
  ∃ r, e = .returned (.bool r) ∧ (r = true → ∃ P Q, Low P Q ∧ Rt w ab ap an ac aq am ae P Q) ∧ (∀ P Q, Low P Q → Rt w ab ap an ac aq am ae P Q → r = true) ∧ Below w.heap.size w w'

theorem Right.len_le32 {w : World} {b : Bool} {ao : Option Addr} {n nc : Nat} {x : Int} (h : Right w b ao n nc x) (hx : x.natAbs < pw 32) : n ≤ 32 := h.le_len hx

theorem Right.canon {w : World} {b : Bool} {ao : Option Addr} {n nc : Nat} {x : Int} {f : Nat → Nat} (h : Right w b ao n nc x) (A : Arg w ao n nc f) : Canon x.natAbs n f := by
  obtain ⟨g, _, _, hs, cg, e⟩ := h.ex
  have he : ∀ j, j < n → f j = g j := by
    intro j hj
    rcases A.sl with rfl | ⟨d, off, rfl, hc⟩
    · omega
    · rcases hs with rfl | ⟨d', off', e', hc'⟩
      · omega
      · injection e' with e'
        injection e' with e1 e2
        subst e1 e2
        have := (hc j hj).symm.trans (hc' j hj)
        injection this with this
        injection this with _ this
        omega
  refine ⟨A.lim, ?_, (val_congr he).trans cg.val⟩
  rcases cg.top with h0 | h0
  · exact .inl h0
  · by_cases hn : n = 0
    · exact .inl hn
    · refine .inr ?_
      rw [he (n - 1) (by omega)]; exact h0

theorem Right.val_is {w : World} {b : Bool} {ao : Option Addr} {n nc : Nat} {x : Int} {f : Nat → Nat} (h : Right w b ao n nc x) (A : Arg w ao n nc f) : sgn b (val f n) = x := by
  rw [(h.canon A).val, h.neg, sgn_self]

set_option maxRecDepth 20000 in
set_option maxHeartbeats 4000000 in
theorem right4_any (ab : Bool) (ap aq : Option Addr) (an ac am ae : Nat) (f h : Nat → Nat) (w : World) (A : Arg w ap an ac f) (B : Arg w aq am ae h) :
    Calls Tryz.prog 49 #[.agg #[.bool ab, .slice ap an ac, .slice aq am ae]] w (RightPost ab ap an ac aq am ae w) := by
  have A' := Lib.hid A; have B' := Lib.hid B
  clear A B
  by_cases ht : 32 < an
  · have hd : decide ((32 : Int) < (an : Int)) = true := by rw [decide_eq_true_iff]; omega
    have ht' := Lib.hid ht
    clear ht
    go_enter Tryz.func49, Tryz.ntmps49
    go_wp2_with fail
    go_ret
    exact ⟨false, rfl, (fun h => by cases h), fun P Q l R => absurd (R.top.le_len l.abs_lt) (Nat.not_le.2 ht'.out), (Below.refl _ _).alloc (Nat.le_refl _) _⟩
  have hd : decide ((32 : Int) < (an : Int)) = false := by rw [decide_eq_false_iff_not]; omega
  have ht' := Lib.hid (Nat.le_of_not_lt ht)
  clear ht
  by_cases hu : 32 < am
  · have hd2 : decide ((32 : Int) < (am : Int)) = true := by rw [decide_eq_true_iff]; omega
    have hu' := Lib.hid hu
    clear hu
    go_enter Tryz.func49, Tryz.ntmps49
    go_wp2_with fail
    go_ret
    exact ⟨false, rfl, (fun h => by cases h), fun P Q l R => absurd (R.bot.le_len l.bot_lt) (Nat.not_le.2 hu'.out), (Below.refl _ _).alloc (Nat.le_refl _) _⟩
  have hd2 : decide ((32 : Int) < (am : Int)) = false := by rw [decide_eq_false_iff_not]; omega
  have hu' := Lib.hid (Nat.le_of_not_lt hu)
  clear hu
  go_enter Tryz.func49, Tryz.ntmps49
  go_wp2_with fail
  refine gen_wp (fun w' => Below w.heap.size w w' ∧ Box3 w' w.heap.size (.bool ab) (.slice ap an ac) (.slice aq am ae))
    ⟨((Below.refl _ _).alloc (Nat.le_refl _) _), (Box3.new _ _ _ _ rfl)⟩ ?_
  rintro u0 ⟨bb, x0⟩
  obtain ⟨p, hp⟩ : ∃ p, Hid (sgn ab (val f an) = p) := ⟨_, Lib.hid rfl⟩
  obtain ⟨q, hq⟩ : ∃ q, Hid (sgn false (val h am) = q) := ⟨_, Lib.hid rfl⟩
  have hp32 : Hid (p.natAbs < pw 32) := Lib.hid (by rw [← hp.out]; exact arg_small A'.out ht'.out)
  have hq32 : Hid (q.natAbs < pw 32) := Lib.hid (by rw [← hq.out]; exact arg_small B'.out hu'.out)
  have A : Whole u0 ab ap an ac p := ⟨f, A'.out.below bb, hp.out⟩
  have B : Whole u0 false aq am ae q := ⟨h, B'.out.below bb, hq.out⟩
  go_cut [3, 4] from 23 to 30 (fun s t wx => ∃ Y gb gp gn gc gq gm ge, s = .pointer (some ⟨Y, 0, none⟩) ∧ t = .int .i64 (mkE p q) ∧ Box3 wx Y (.bool gb) (.slice gp gn gc) (.slice gq gm ge) ∧ Box3 wx w.heap.size (.bool ab) (.slice ap an ac) (.slice aq am ae) ∧ Rt wx gb gp gn gc gq gm ge (mkT p q) (mkB p q) ∧ Below w.heap.size w wx)
  case first =>
    have lx0 := x0.lt
    have bs := bb.size
    have sa0 := True.intro
    go_region_held3 (fun w' => w'.cell? ⟨w.heap.size, 0, none⟩ = some (.bool ab) ∧ w'.cell? ⟨w.heap.size, 1, none⟩ = some (.slice ap an ac) ∧ w'.cell? ⟨w.heap.size, 2, none⟩ = some (.slice aq am ae))
      (first | with_reducible exact ⟨(x0.drew).c0, (x0.drew).c1, (x0.drew).c2⟩ | with_reducible exact ⟨((x0.alloc _).drew).c0, ((x0.alloc _).drew).c1, ((x0.alloc _).drew).c2⟩ | with_reducible exact ⟨x0.c0, x0.c1, x0.c2⟩ | with_reducible exact ⟨(x0.alloc _).c0, (x0.alloc _).c1, (x0.alloc _).c2⟩ | with_reducible exact ⟨(x0.other3 (by omega) _ _ _).c0, (x0.other3 (by omega) _ _ _).c1, (x0.other3 (by omega) _ _ _).c2⟩ | go_keep)
      (first
      | (go_at_call 64; clear sa0; refine (rTop_any ab ap aq an ac am ae p _ ?_).mono ?_; (first | with_reducible exact (A.drew) | with_reducible exact ((A.alloc _).drew)); rintro e u1 ⟨eb, eo, en, ec, rfl, h1, hb⟩; have hc : Below u0.heap.size u0 u1 := (by first | exact (Below.refl _ _).drew.trans hb | exact ((Below.refl _ _).alloc (by first | exact Nat.le_refl _ | (simp; done) | (simp; omega)) _).drew.trans (hb.mono (by first | (simp; done) | (simp; omega)))); have hz0 := hc.size; have x0 := x0.later hc; have A := A.below hc; have B := B.below hc; have bb := below_then bb (Nat.le_refl _) hc; (first | (with_reducible have m10 := made13' hb) | skip); (try have k10 := m10.lt); clear hb hc; have sa1 := True.intro)
      | (go_at_call 65; clear sa1; refine (rBot_any ab ap aq an ac am ae q _ ?_).mono ?_; (first | with_reducible exact B | with_reducible exact (B.alloc _)); rintro e u2 ⟨fb, fo, fn, fc, rfl, h2, hb⟩; have hc : Below u1.heap.size u1 u2 := (by first | with_reducible exact hb | exact ((Below.refl _ _).alloc (by first | exact Nat.le_refl _ | (simp; done) | (simp; omega)) _).trans (hb.mono (by first | (simp; done) | (simp; omega)))); have hz1 := hc.size; have x0 := x0.later hc; have A := A.below hc; have B := B.below hc; have h1 := h1.below hc; have bb := below_then bb (Nat.le_refl _) hc; (try have m10 := m10.later hc); (first | (with_reducible have m20 := made13 hb) | skip); (try have k10 := m10.lt); (try have k20 := m20.lt); clear hb hc; have sa2 := True.intro)
      | (go_at_call 63; clear sa2; refine (rMake_any eb fb eo fo en ec fn fc p q _ ?_ ?_ 32 (by omega) hp32.out hq32.out).mono ?_; (first | with_reducible exact (h1).whole32 hp32.out | with_reducible exact ((h1.alloc _)).whole32 hp32.out); (first | with_reducible exact (h2).whole32 hq32.out | with_reducible exact ((h2.alloc _)).whole32 hq32.out); rintro e u3 ⟨gb, gp, gn, gc, gq, gm, ge, rfl, G, hb⟩; have hc : Below u2.heap.size u2 u3 := (by first | with_reducible exact hb | exact ((Below.refl _ _).alloc (by first | exact Nat.le_refl _ | (simp; done) | (simp; omega)) _).trans (hb.mono (by first | (simp; done) | (simp; omega)))); have hz2 := hc.size; have x0 := x0.later hc; have A := A.below hc; have B := B.below hc; have h1 := h1.below hc; have h2 := h2.below hc; have bb := below_then bb (Nat.le_refl _) hc; (try have m10 := m10.later hc); (try have m20 := m20.later hc); (first | (with_reducible have m30 := made13 hb) | skip); (try have k10 := m10.lt); (try have k20 := m20.lt); (try have k30 := m30.lt); (try (have f100 := m10.c0; have f101 := m10.c1; have f102 := m10.fr 0; have f103 := m10.fr 1; have f104 := m10.c2; have f105 := m10.fr 2)); (try (have f200 := m20.c0; have f201 := m20.c1; have f202 := m20.fr 0; have f203 := m20.fr 1; have f204 := m20.c2; have f205 := m20.fr 2)); (try (have f300 := m30.c0; have f301 := m30.c1; have f302 := m30.fr 0; have f303 := m30.fr 1; have f304 := m30.c2; have f305 := m30.fr 2)); clear hb hc; have sa3 := True.intro))
    · go_wp2_with fail; go_meet; exact ⟨_, gb, gp, gn, gc, gq, gm, ge, rfl, rfl, (Box3.new _ _ _ _ (by first | (simp; done) | rfl)), (x0.alloc _), (G.alloc _), (Below.alloc bb (by first | omega | (simp; omega) | (simp; done)) _)⟩
    · go_wp2_with fail; go_meet; exact ⟨_, gb, gp, gn, gc, gq, gm, ge, rfl, rfl, (m30.set _ _ _), (x0.other3 (by omega) _ _ _), (G.box3 m30 _ _ _), (below_set3 bb (by omega) _ _ _)⟩
    · go_wp2_with fail; go_meet; exact ⟨_, gb, gp, gn, gc, gq, gm, ge, rfl, rfl, (m20.set _ _ _), (x0.other3 (by omega) _ _ _), (G.box3 m20 _ _ _), (below_set3 bb (by omega) _ _ _)⟩
    · go_wp2_with fail; go_meet; exact ⟨_, gb, gp, gn, gc, gq, gm, ge, rfl, rfl, (m10.set _ _ _), (x0.other3 (by omega) _ _ _), (G.box3 m10 _ _ _), (below_set3 bb (by omega) _ _ _)⟩
  case rest =>
    obtain ⟨Y, gb, gp, gn, gc, gq, gm, ge, rfl, rfl, y, x0, G, bb⟩ := hcut
    have yes : Hid (∀ P Q, Low P Q → Rt w ab ap an ac aq am ae P Q → p = P ∧ q = Q) := Lib.hid (fun P Q l R => ⟨hp.out.symm.trans (R.top.val_is A'.out), hq.out.symm.trans (R.bot.val_is B'.out)⟩)
    obtain ⟨E, hE⟩ : ∃ E, Hid (mkE p q = E) := ⟨_, Lib.hid rfl⟩
    rw [hE.out]
    by_cases h0 : E = 0
    · subst h0
      have p0 := y.c0; have p1 := y.c1; have p2 := y.c2; have p3 := x0.c0; have p4 := x0.c1; have p5 := x0.c2
      replace bb := Lib.hid bb
      obtain ⟨g, g1, g2, g3, g4, g5⟩ := G.top.ex
      obtain ⟨k, k1, k2, k3, k4, k5⟩ := G.bot.ex
      replace g3 := Lib.hid g3; replace k3 := Lib.hid k3; replace g4 := Lib.hid g4; replace k4 := Lib.hid k4; replace g5 := Lib.hid g5; clear k5
      have A1 := Lib.hid (A'.out.below bb.out); have B1 := Lib.hid (B'.out.below bb.out)
      have hn : an ≤ 9223372036854775807 := by have := A'.out.len; have := A'.out.cap; omega
      have hm : am ≤ 9223372036854775807 := by have := B'.out.len; have := B'.out.cap; omega
      have hn' := Lib.hid hn; have hm' := Lib.hid hm
      clear y x0 G hn hm A B
      go_wp2_with fail
      refine (same4B_any ab gb ap aq gp gq an ac am ae gn gc gm ge f h g k _ hn'.out hm'.out A1.out.sl B1.out.sl g3.out k3.out).mono ?_
      rintro e w2 ⟨r, rfl, hr, hb⟩
      have bb2 := Lib.hid (below_then bb.out (Nat.le_refl _) hb)
      replace hr := Lib.hid hr
      clear hb p0 p1 p2 p3 p4 p5
      go_wp2_with fail
      go_ret
      refine ⟨r, rfl, ?_, ?_, bb2.out⟩
      · intro e
        obtain ⟨rfl, ⟨rfl, h2⟩, rfl, h4⟩ := hr.out.1 e
        exact ⟨mkT p q, mkB p q, mk_low hE.out, ⟨g, A'.out.len, A'.out.cap, A'.out.sl.congr h2, g4.out, g5.out⟩, ⟨k, B'.out.len, B'.out.cap, B'.out.sl.congr h4, k4.out, by simp⟩⟩
      · intro P Q l R
        obtain ⟨e1, e2⟩ := yes.out P Q l R
        subst e1 e2
        obtain ⟨_, e3, e4⟩ := mk_self l
        have cf := R.top.canon A'.out; have ch := R.bot.canon B'.out
        have g4 := g4.out; have k4 := k4.out; have g5 := g5.out
        rw [e3] at g4 g5; rw [e4] at k4
        exact hr.out.2 ⟨R.top.neg.trans g5.symm, ⟨cf.len g4, cf.eq g4⟩, ch.len k4, ch.eq k4⟩
    · have h0' := Lib.hid h0
      clear y x0 G A B
      go_wp2_with fail
      go_ret
      refine ⟨false, rfl, (fun h => by cases h), ?_, bb⟩
      intro P Q l R
      obtain ⟨e1, e2⟩ := yes.out P Q l R
      subst e1 e2
      exact absurd (hE.out.symm.trans (mk_self l).1) h0'.out

end Go.Proofs.YtmkjebembicljaaGreat

namespace Go.Proofs.YtmkjebembicljaaGreat
open Go.RowKit Num

attribute [local go_sem ↓] Go.wp_at_zero Go.wp_at_succ

theorem sum_64 {x y : Int} (hx : x.natAbs < pw 64) (hy : y.natAbs < pw 64) : (x + y).natAbs < pw 65 := add_abs hx hy

end Go.Proofs.YtmkjebembicljaaGreat

namespace Go.Proofs.YtmkjebembicljaaGreat
open Go.RowKit Num

attribute [local go_sem ↓] Go.wp_at_zero Go.wp_at_succ

/-- A quotient, rounded down, and a rest come back. -/
def FDivPost (x y : Int) (w : World) (e : Ending) (w' : World) : Prop :=
  ∃ b ao n nc c bo m mc, e = .returned (.tuple #[.agg #[.bool b, .slice ao n nc], .agg #[.bool c, .slice bo m mc], .bool true]) ∧ Right w' b ao n nc (x.fdiv y) ∧ Right w' c bo m mc (x.fmod y) ∧ Below w.heap.size w w'

theorem IDivPost.nz {x y : Int} {w w' : World} {e : Ending} (hy : y ≠ 0) (h : IDivPost x y w e w') : FDivPost x y w e w' := by
  obtain ⟨hb, ⟨h0, _⟩ | ⟨_, b, ao, n, nc, c, bo, m, mc, rfl, h1, h2⟩⟩ := h
  · exact absurd h0 hy
  · exact ⟨b, ao, n, nc, c, bo, m, mc, rfl, h1, h2, hb⟩

/-- What is left of a number by another one: the top, the bottom, the error. -/
abbrev modF (P : Int) (Q : Nat) (R : Int) (S : Nat) : Int := (mkT (R * Q) (S * P)).fdiv (mkB (R * Q) (S * P))

abbrev modT (P : Int) (Q : Nat) (R : Int) (S : Nat) : Int := mkT (P * modF P Q R S) Q

abbrev modB (P : Int) (Q : Nat) (R : Int) (S : Nat) : Nat := mkB (P * modF P Q R S) Q

def modRes (P : Int) (Q : Nat) (R : Int) (S : Nat) : Int × Nat × Int :=
  if P = 0 then (R, S, 0) else if mkE (R * Q) (S * P) ≠ 0 then (0, 0, mkE (R * Q) (S * P)) else
  if mkE (P * modF P Q R S) Q ≠ 0 then (0, 0, mkE (P * modF P Q R S) Q) else
  (mkT (R * modB P Q R S + -modT P Q R S * S) (S * modB P Q R S), mkB (R * modB P Q R S + -modT P Q R S * S) (S * modB P Q R S), mkE (R * modB P Q R S + -modT P Q R S * S) (S * modB P Q R S))

def ModPost (P : Int) (Q : Nat) (R : Int) (S : Nat) := ResPost (modRes P Q R S).1 (modRes P Q R S).2.1 (modRes P Q R S).2.2

theorem mod_zero {P R : Int} {Q S : Nat} {w w' : World} {e : Ending} (h : P = 0) (k : ResPost R S 0 w e w') : ModPost P Q R S w e w' := by
  unfold ModPost modRes
  rw [if_pos h]; exact k

theorem mod_one {P R : Int} {Q S : Nat} {w w' : World} {e : Ending} {E : Int} (h : P ≠ 0) (h1 : mkE (R * Q) (S * P) = E) (hE : E ≠ 0) (k : ResPost 0 0 E w e w') : ModPost P Q R S w e w' := by
  unfold ModPost modRes
  rw [if_neg h, if_pos (by rw [h1]; exact hE), h1]; exact k

theorem mod_two {P R : Int} {Q S : Nat} {w w' : World} {e : Ending} {E : Int} (h : P ≠ 0) (h1 : mkE (R * Q) (S * P) = 0) (h2 : mkE (P * modF P Q R S) Q = E) (hE : E ≠ 0) (k : ResPost 0 0 E w e w') : ModPost P Q R S w e w' := by
  unfold ModPost modRes
  rw [if_neg h, if_neg (by rw [h1]; decide), if_pos (by rw [h2]; exact hE), h2]; exact k

theorem mod_ok {P R : Int} {Q S : Nat} {w w' : World} {e : Ending} (h : P ≠ 0) (h1 : mkE (R * Q) (S * P) = 0) (h2 : mkE (P * modF P Q R S) Q = 0) (k : MakePost (R * modB P Q R S + -modT P Q R S * S) (S * modB P Q R S) w e w') : ModPost P Q R S w e w' := by
  unfold ModPost modRes
  rw [if_neg h, if_neg (by rw [h1]; decide), if_neg (by rw [h2]; decide)]; exact k

theorem make_zero {p q : Int} {w w' : World} {E : Ending} (h : mkE p q = 0) (k : MakePost p q w E w') : ResPost (mkT p q) (mkB p q) 0 w E w' := by
  have k : ResPost (mkT p q) (mkB p q) (mkE p q) w E w' := k
  rwa [h] at k

theorem make_nz {p q e : Int} {w w' : World} {E : Ending} (h : mkE p q = e) (he : e ≠ 0) (k : MakePost p q w E w') : ResPost 0 0 e w E w' := by
  subst h
  have k : ResPost (mkT p q) (mkB p q) (mkE p q) w E w' := k
  rwa [(mk_bad he).1, (mk_bad he).2] at k

end Go.Proofs.YtmkjebembicljaaGreat
