/-
  Powers: what a power comes to, square by square, and whole.Pow.
-/
import Derived.Test.YtnnipciifjpooaaWc
import Derived.Test.YtnnipciifjpooaaWa
import Derived.Test.YtnnipciifjpooaaRc
namespace Go.Proofs.Ytnnipciifjpooaa
open Go.RowKit Num

attribute [local go_sem ↓] Go.wp_at_zero Go.wp_at_succ

/-- The power p times s to the n, if no square and no product on the way has more than 32 limbs. -/
def powR (n : Nat) (p s : Int) : Option Int :=
  if _h : n = 0 then some p
  else if pw 32 ≤ s.natAbs then none
  else
    let q := if n % 2 = 1 then p * s else p
    if pw 32 ≤ q.natAbs then none else powR (n / 2) q (s * s)
termination_by n
decreasing_by omega

theorem powR_zero (p s : Int) : powR 0 p s = some p := by rw [powR]; simp
theorem powR_great {n : Nat} {p s : Int} (h0 : n ≠ 0) (hs : pw 32 ≤ s.natAbs) : powR n p s = none := by rw [powR]; simp [h0, hs]
theorem powR_odd_great {n : Nat} {p s : Int} (h0 : n ≠ 0) (h1 : n % 2 = 1) (hq : pw 32 ≤ (p * s).natAbs) : powR n p s = none := by rw [powR]; simp [h0, h1, hq]
theorem powR_odd {n : Nat} {p s : Int} (h0 : n ≠ 0) (h1 : n % 2 = 1) (hs : s.natAbs < pw 32) (hq : (p * s).natAbs < pw 32) : powR n p s = powR (n / 2) (p * s) (s * s) := by
  rw [powR]; simp [h0, h1, Nat.not_le.2 hs, Nat.not_le.2 hq]
theorem powR_even_great {n : Nat} {p s : Int} (h0 : n ≠ 0) (h1 : ¬ n % 2 = 1) (hq : pw 32 ≤ p.natAbs) : powR n p s = none := by rw [powR]; simp [h0, h1, hq]
theorem powR_even {n : Nat} {p s : Int} (h0 : n ≠ 0) (h1 : ¬ n % 2 = 1) (hs : s.natAbs < pw 32) (hq : p.natAbs < pw 32) : powR n p s = powR (n / 2) p (s * s) := by
  rw [powR]; simp [h0, h1, Nat.not_le.2 hs, Nat.not_le.2 hq]

theorem Right.len_lt {w : World} {b : Bool} {ao : Option Addr} {n nc : Nat} {x : Int} (h : Right w b ao n nc x) (hn : n ≤ 32) : x.natAbs < pw 32 := by
  obtain ⟨f, _, _, _, cf, _⟩ := h.ex
  exact Nat.lt_of_lt_of_le cf.lt_pw (pw_le hn)
theorem Right.len_ge {w : World} {b : Bool} {ao : Option Addr} {n nc : Nat} {x : Int} (h : Right w b ao n nc x) (hn : 32 < n) : pw 32 ≤ x.natAbs := by
  obtain ⟨f, _, _, _, cf, _⟩ := h.ex
  apply Nat.le_of_not_lt
  intro hl
  have := cf.len_le hl
  omega
theorem Right.le_len {w : World} {b : Bool} {ao : Option Addr} {n nc : Nat} {x : Int} (h : Right w b ao n nc x) (hx : x.natAbs < pw 32) : n ≤ 32 := by
  obtain ⟨f, _, _, _, cf, _⟩ := h.ex
  exact cf.len_le hx

def powE (k x : Int) : Int := if k < 0 then 3 else if (powR k.toNat 1 x).isSome then 0 else 7
def powV (k x : Int) : Int := if k < 0 then 0 else (powR k.toNat 1 x).getD 0
/-- A power and 0, or 0 and an error. -/
def PowPost (k x : Int) (w : World) (e : Ending) (w' : World) : Prop :=
  ∃ b ao n nc, e = .returned (.tuple #[.agg #[.bool b, .slice ao n nc], .int .i64 (powE k x)]) ∧ Right w' b ao n nc (powV k x) ∧ Below w.heap.size w w'
theorem zero_right (w : World) : Right w false none 0 0 0 := ⟨fun _ => 0, Nat.le_refl _, by omega, .inl rfl, canon_zero _, rfl⟩
theorem PowPost.some {k x v : Int} {w w' : World} {b : Bool} {ao : Option Addr} {n nc : Nat} {m : Nat} (hk : k = (m : Int)) (hv : powR m 1 x = some v) (hR : Right w' b ao n nc v) (hb : Below w.heap.size w w') :
    PowPost k x w (.returned (.tuple #[.agg #[.bool b, .slice ao n nc], .int .i64 0])) w' := by
  subst hk
  have h0 : ¬ ((m : Int) < 0) := by omega
  refine ⟨b, ao, n, nc, ?_, ?_, hb⟩
  · simp [powE, h0, hv]
  · simpa [powV, h0, hv] using hR
theorem PowPost.none {k x : Int} {w w' : World} {m : Nat} (hk : k = (m : Int)) (hv : powR m 1 x = none) (hb : Below w.heap.size w w') :
    PowPost k x w (.returned (.tuple #[.agg #[.bool false, .slice none 0 0], .int .i64 7])) w' := by
  subst hk
  have h0 : ¬ ((m : Int) < 0) := by omega
  refine ⟨false, Option.none, 0, 0, ?_, ?_, hb⟩
  · simp [powE, h0, hv]
  · simpa [powV, h0, hv] using zero_right w'
theorem mul_self_abs {x : Int} (hx : x.natAbs < pw 32) : (x * x).natAbs < pw 64 := mul_abs hx hx

set_option maxHeartbeats 8000000 in
theorem wPow_any (b : Bool) (ao : Option Addr) (n nc : Nat) (x k : Int) (w : World) (A : Whole w b ao n nc x) (hx : x.natAbs < pw 64) (k0 : -9223372036854775808 ≤ k) (k1 : k ≤ 9223372036854775807) :
    Calls Try.prog 63 #[.agg #[.bool b, .slice ao n nc], .int .i64 k] w (PowPost k x w) := by
  have A' := Lib.hid A; have hx' := Lib.hid hx
  clear A hx
  by_cases hneg : k < 0
  · have p1 : Hid (powE k x = 3) := Lib.hid (by simp [powE, hneg]); have p2 : Hid (powV k x = 0) := Lib.hid (by simp [powV, hneg])
    go_enter Try.func63, Try.ntmps63
    go_wp2_with fail
    refine bodyPost_ret (v := .tuple #[.agg #[.bool false, .slice none 0 0], .int .i64 3]) (by simp [results, Try.results63, go_sem]) rfl ?_
    refine ⟨false, none, 0, 0, ?_, ?_, ((Below.refl _ w).alloc (Nat.le_refl _) _).alloc (by simp) _⟩
    · rw [p1.out]
    · rw [p2.out]; exact zero_right _
  obtain ⟨m, rfl⟩ := Int.eq_ofNat_of_zero_le (Int.not_lt.1 hneg)
  go_enter Try.func63, Try.ntmps63
  go_upto_region 3 with fail
  refine gen_wp (fun w' => Below w.heap.size w w' ∧ Box w' w.heap.size (.bool b) (.slice ao n nc) ∧ Box w' (w.heap.size + 1) (.bool false) (.slice none 0 0))
    ⟨(((Below.refl _ w).alloc (Nat.le_refl _) _).alloc (by first | (simp; done) | (simp; omega)) _), ((Box.new _ _ _ rfl).alloc _), (Box.new _ _ _ (by first | (simp; done) | (simp; omega)))⟩ ?_
  rintro w0 ⟨hb0, x0, x1⟩
  go_cut [6, 7] from 11 to 13 (fun s t wx => ∃ P Q pb po pn pc sb so sn sc, s = .pointer (some ⟨P, 0, none⟩) ∧ t = .pointer (some ⟨Q, 0, none⟩) ∧ Box wx P (.bool pb) (.slice po pn pc) ∧ Box wx Q (.bool sb) (.slice so sn sc) ∧ Box wx (w.heap.size + 1) (.bool false) (.slice none 0 0) ∧
    w.heap.size + 1 < P ∧ w.heap.size + 1 < Q ∧ P ≠ Q ∧ Right wx pb po pn pc 1 ∧ Right wx sb so sn sc x ∧ Below w.heap.size w wx)
  case first =>
    have l0 := x0.lt; have l1 := x1.lt; have gs0 := hb0.size
    have gb0 := hb0; have A0 := A'.out.below hb0
    go_region_held3 (fun w' => w'.cell? ⟨w.heap.size, 0, none⟩ = some (.bool b) ∧ w'.cell? ⟨w.heap.size, 1, none⟩ = some (.slice ao n nc))
      (first | with_reducible exact ⟨x0.drew.c0, x0.drew.c1⟩ | with_reducible exact ⟨(x0.alloc _).drew.c0, (x0.alloc _).drew.c1⟩ | with_reducible exact ⟨((x0.alloc _).alloc _).drew.c0, ((x0.alloc _).alloc _).drew.c1⟩ | with_reducible exact ⟨y0.c0, y0.c1⟩ | with_reducible exact ⟨(y0.alloc _).c0, (y0.alloc _).c1⟩ | with_reducible exact ⟨((y0.alloc _).alloc _).c0, ((y0.alloc _).alloc _).c1⟩ | with_reducible exact ⟨z0.c0, z0.c1⟩ | with_reducible exact ⟨(z0.alloc _).c0, (z0.alloc _).c1⟩ | with_reducible exact ⟨((z0.alloc _).alloc _).c0, ((z0.alloc _).alloc _).c1⟩ | with_reducible exact ⟨(z0.other (by omega) _ _).c0, (z0.other (by omega) _ _).c1⟩ | with_reducible exact ⟨((z0.other (by omega) _ _).alloc _).c0, ((z0.other (by omega) _ _).alloc _).c1⟩ | with_reducible exact ⟨((z0.other (by omega) _ _).other (by omega) _ _).c0, ((z0.other (by omega) _ _).other (by omega) _ _).c1⟩ | go_keep)
      (first
      | (go_at_call 71; refine (wOf_any 1 _ (by decide) (by decide)).mono ?_; rintro e w1 ⟨pb, po, pn, pc, rfl, hR1, hb1⟩; have hc1 : Below w0.heap.size w0 w1 := (by (first | exact (Below.refl _ _).drew.trans hb1 | exact ((Below.refl _ _).alloc (by first | exact Nat.le_refl _ | (simp; done) | (simp; omega)) _).drew.trans (hb1.mono (by first | (simp; done) | (simp; omega))) | exact (((Below.refl _ _).alloc (by first | exact Nat.le_refl _ | (simp; done) | (simp; omega)) _).alloc (by first | exact Nat.le_refl _ | (simp; done) | (simp; omega)) _).drew.trans (hb1.mono (by first | (simp; done) | (simp; omega))))); have hz1 := hc1.size; have y0 := x0.later hc1; have ly0 := y0.lt; have y1 := x1.later hc1; have ly1 := y1.lt; have A1 := A0.below hc1; have gb1 := below_then gb0 (Nat.le_refl _) hc1; have gs1 := gb1.size; (first | (with_reducible have mm := made2' hb1; obtain ⟨m10, m11⟩ := mm) | (with_reducible have m10 := made1' hb1) | skip); (try have k10 := m10.lt); (try have k11 := m11.lt))
      | (go_at_call 62; refine (wNorm_any b ao n nc x _ ?_).mono ?_; (first | with_reducible exact A1 | with_reducible exact (A1.alloc _) | with_reducible exact ((A1.alloc _).alloc _)); rintro e w2 ⟨sb, so, sn, sc, rfl, hR2, hb2⟩; have hc2 : Below w1.heap.size w1 w2 := (by (first | with_reducible exact hb2 | exact ((Below.refl _ _).alloc (by first | exact Nat.le_refl _ | (simp; done) | (simp; omega)) _).trans (hb2.mono (by first | (simp; done) | (simp; omega))) | exact (((Below.refl _ _).alloc (by first | exact Nat.le_refl _ | (simp; done) | (simp; omega)) _).alloc (by first | exact Nat.le_refl _ | (simp; done) | (simp; omega)) _).trans (hb2.mono (by first | (simp; done) | (simp; omega))))); have hz2 := hc2.size; have z0 := y0.later hc2; have lz0 := z0.lt; have z1 := y1.later hc2; have lz1 := z1.lt; have hR1 := hR1.below hc2; have gb2 := below_then gb1 (Nat.le_refl _) hc2; have gs2 := gb2.size; (try have m10 := m10.later hc2); (try have m11 := m11.later hc2); (first | (with_reducible have mm := made2 hb2; obtain ⟨m20, m21⟩ := mm) | (with_reducible have m20 := made1 hb2) | skip); (try have k10 := m10.lt); (try have k11 := m11.lt); (try have k20 := m20.lt); (try have k21 := m21.lt); (try (have f100 := m10.c0; have f101 := m10.c1; have f102 := m10.fr 0; have f103 := m10.fr 1)); (try (have f110 := m11.c0; have f111 := m11.c1; have f112 := m11.fr 0; have f113 := m11.fr 1)); (try (have f200 := m20.c0; have f201 := m20.c1; have f202 := m20.fr 0; have f203 := m20.fr 1)); (try (have f210 := m21.c0; have f211 := m21.c1; have f212 := m21.fr 0; have f213 := m21.fr 1))))
    · go_wp2_with fail; go_meet; exact ⟨_, _, _, _, _, _, _, _, _, _, rfl, rfl, ((Box.new _ _ _ (by first | rfl | (simp; done))).alloc _), (Box.new _ _ _ (by first | rfl | (simp; done))), ((z1.alloc _).alloc _), by first | omega | (simp; omega), by first | omega | (simp; omega), by first | omega | (simp; omega), ((hR1.alloc _).alloc _), ((hR2.alloc _).alloc _), (Below.alloc (Below.alloc gb2 (by first | omega | (simp; omega) | (simp; done)) _) (by first | omega | (simp; omega) | (simp; done)) _)⟩
    · go_wp2_with fail; go_meet; exact ⟨_, _, _, _, _, _, _, _, _, _, rfl, rfl, (Box.new _ _ _ (by first | rfl | (simp; done))), ((Box.new _ _ _ (by first | rfl | (simp; done))).alloc _), ((z1.alloc _).alloc _), by first | omega | (simp; omega), by first | omega | (simp; omega), by first | omega | (simp; omega), ((hR1.alloc _).alloc _), ((hR2.alloc _).alloc _), (Below.alloc (Below.alloc gb2 (by first | omega | (simp; omega) | (simp; done)) _) (by first | omega | (simp; omega) | (simp; done)) _)⟩
    · go_wp2_with fail; go_meet; exact ⟨_, _, _, _, _, _, _, _, _, _, rfl, rfl, ((m20.set _ _).alloc _), (Box.new _ _ _ (by first | rfl | (simp; done))), ((z1.other (by omega) _ _).alloc _), by first | omega | (simp; omega), by first | omega | (simp; omega), by first | omega | (simp; omega), ((hR1.box m20 _ _).alloc _), ((hR2.box m20 _ _).alloc _), (Below.alloc (below_set gb2 (by omega) _ _) (by first | omega | (simp; omega) | (simp; done)) _)⟩
    · go_wp2_with fail; go_meet; exact ⟨_, _, _, _, _, _, _, _, _, _, rfl, rfl, ((m20.set _ _).other (by omega) _ _), ((m21.other (by omega) _ _).set _ _), ((z1.other (by omega) _ _).other (by omega) _ _), by first | omega | (simp; omega), by first | omega | (simp; omega), by first | omega | (simp; omega), ((hR1.box m20 _ _).box (m21.other (by omega) _ _) _ _), ((hR2.box m20 _ _).box (m21.other (by omega) _ _) _ _), (below_set (below_set gb2 (by omega) _ _) (by omega) _ _)⟩
    · go_wp2_with fail; go_meet; exact ⟨_, _, _, _, _, _, _, _, _, _, rfl, rfl, (Box.new _ _ _ (by first | rfl | (simp; done))), ((m20.set _ _).alloc _), ((z1.other (by omega) _ _).alloc _), by first | omega | (simp; omega), by first | omega | (simp; omega), by first | omega | (simp; omega), ((hR1.box m20 _ _).alloc _), ((hR2.box m20 _ _).alloc _), (Below.alloc (below_set gb2 (by omega) _ _) (by first | omega | (simp; omega) | (simp; done)) _)⟩
    · go_wp2_with fail; go_meet; exact ⟨_, _, _, _, _, _, _, _, _, _, rfl, rfl, ((m21.set _ _).other (by omega) _ _), ((m20.other (by omega) _ _).set _ _), ((z1.other (by omega) _ _).other (by omega) _ _), by first | omega | (simp; omega), by first | omega | (simp; omega), by first | omega | (simp; omega), ((hR1.box m21 _ _).box (m20.other (by omega) _ _) _ _), ((hR2.box m21 _ _).box (m20.other (by omega) _ _) _ _), (below_set (below_set gb2 (by omega) _ _) (by omega) _ _)⟩
    · go_wp2_with fail; go_meet; exact ⟨_, _, _, _, _, _, _, _, _, _, rfl, rfl, ((m10.set _ _).alloc _), (Box.new _ _ _ (by first | rfl | (simp; done))), ((z1.other (by omega) _ _).alloc _), by first | omega | (simp; omega), by first | omega | (simp; omega), by first | omega | (simp; omega), ((hR1.box m10 _ _).alloc _), ((hR2.box m10 _ _).alloc _), (Below.alloc (below_set gb2 (by omega) _ _) (by first | omega | (simp; omega) | (simp; done)) _)⟩
    · go_wp2_with fail; go_meet; exact ⟨_, _, _, _, _, _, _, _, _, _, rfl, rfl, ((m10.set _ _).other (by omega) _ _), ((m20.other (by omega) _ _).set _ _), ((z1.other (by omega) _ _).other (by omega) _ _), by first | omega | (simp; omega), by first | omega | (simp; omega), by first | omega | (simp; omega), ((hR1.box m10 _ _).box (m20.other (by omega) _ _) _ _), ((hR2.box m10 _ _).box (m20.other (by omega) _ _) _ _), (below_set (below_set gb2 (by omega) _ _) (by omega) _ _)⟩
    · go_wp2_with fail; go_meet; exact ⟨_, _, _, _, _, _, _, _, _, _, rfl, rfl, ((m10.set _ _).other (by omega) _ _), ((m11.other (by omega) _ _).set _ _), ((z1.other (by omega) _ _).other (by omega) _ _), by first | omega | (simp; omega), by first | omega | (simp; omega), by first | omega | (simp; omega), ((hR1.box m10 _ _).box (m11.other (by omega) _ _) _ _), ((hR2.box m10 _ _).box (m11.other (by omega) _ _) _ _), (below_set (below_set gb2 (by omega) _ _) (by omega) _ _)⟩
    · go_wp2_with fail; go_meet; exact ⟨_, _, _, _, _, _, _, _, _, _, rfl, rfl, (Box.new _ _ _ (by first | rfl | (simp; done))), ((m10.set _ _).alloc _), ((z1.other (by omega) _ _).alloc _), by first | omega | (simp; omega), by first | omega | (simp; omega), by first | omega | (simp; omega), ((hR1.box m10 _ _).alloc _), ((hR2.box m10 _ _).alloc _), (Below.alloc (below_set gb2 (by omega) _ _) (by first | omega | (simp; omega) | (simp; done)) _)⟩
    · go_wp2_with fail; go_meet; exact ⟨_, _, _, _, _, _, _, _, _, _, rfl, rfl, ((m20.set _ _).other (by omega) _ _), ((m10.other (by omega) _ _).set _ _), ((z1.other (by omega) _ _).other (by omega) _ _), by first | omega | (simp; omega), by first | omega | (simp; omega), by first | omega | (simp; omega), ((hR1.box m20 _ _).box (m10.other (by omega) _ _) _ _), ((hR2.box m20 _ _).box (m10.other (by omega) _ _) _ _), (below_set (below_set gb2 (by omega) _ _) (by omega) _ _)⟩
    · go_wp2_with fail; go_meet; exact ⟨_, _, _, _, _, _, _, _, _, _, rfl, rfl, ((m11.set _ _).other (by omega) _ _), ((m10.other (by omega) _ _).set _ _), ((z1.other (by omega) _ _).other (by omega) _ _), by first | omega | (simp; omega), by first | omega | (simp; omega), by first | omega | (simp; omega), ((hR1.box m11 _ _).box (m10.other (by omega) _ _) _ _), ((hR2.box m11 _ _).box (m10.other (by omega) _ _) _ _), (below_set (below_set gb2 (by omega) _ _) (by omega) _ _)⟩
  case rest =>
    obtain ⟨P, Q, pb, po, pn, pc, sb, so, sn, sc, rfl, rfl, bp, bs, b4, gP, gQ, hPQ, hP, hS, bb⟩ := hcut
    have n1 : w.heap.size + 1 ≠ P := by omega
    have n2 : w.heap.size + 1 ≠ Q := by omega
    have gP : w.heap.size ≤ P := by omega
    have gQ : w.heap.size ≤ Q := by omega
    clear x0 x1 hb0
    have one32 : Hid ((1 : Int).natAbs < pw 32) := Lib.hid (by have := pw_le (n := 1) (m := 32) (by omega); have e : pw 1 = 4294967296 := rfl; omega)
    have hm' := Lib.hid (show m ≤ 9223372036854775807 by omega)
    go_wp2_with fail
    go_loopw [1] (fun v wr => ∃ (m' : Nat) (pb : Bool) (po : Option Addr) (pn pc : Nat) (sb : Bool) (so : Option Addr) (sn sc : Nat) (p s : Int), v = .int .i64 m' ∧ m' ≤ 9223372036854775807 ∧ Box wr P (.bool pb) (.slice po pn pc) ∧ Box wr Q (.bool sb) (.slice so sn sc) ∧ Box wr (w.heap.size + 1) (.bool false) (.slice none 0 0) ∧
        Right wr pb po pn pc p ∧ Right wr sb so sn sc s ∧ Below w.heap.size w wr ∧ s.natAbs < pw 64 ∧ p.natAbs < pw 32 ∧ powR m' p s = powR m 1 x) (fun v _ => (intOf v).toNat)
    case atStart => exact ⟨m, _, _, _, _, _, _, _, _, 1, x, rfl, hm'.out, bp, bs, b4, hP, hS, bb, hx'.out, one32.out, rfl⟩
    case round =>
      clear bp bs b4 hP hS bb
      obtain ⟨m', pb, po, pn, pc, sb, so, sn, sc, p, s, rfl, hmb, bp, bs, b4, hP, hS, bb, hs, hp, hrel⟩ := hrel
      have pn32 := Lib.hid (hP.le_len hp)
      have bp := Lib.hid bp; have bs := Lib.hid bs; have b4 := Lib.hid b4; have hP := Lib.hid hP; have hS := Lib.hid hS; have bb := Lib.hid bb; have hs64 := Lib.hid hs; have hp32 := Lib.hid hp; have hrl := Lib.hid hrel
      clear hs hp hrel
      by_cases h0 : m' = 0
      · subst h0
        have hv : Hid (powR m 1 x = some p) := Lib.hid (by rw [← hrl.out, powR_zero])
        have c0 := bp.out.c0; have c1 := bp.out.c1
        have z9 := b4.out.set (.bool pb) (.slice po pn pc)
        have q1 := b4.out.c0; have q2 := b4.out.c1; have q3 := b4.out.fr 0; have q4 := b4.out.fr 1
        have e0 := z9.c0; have e1 := z9.c1
        clear z9
        go_wp2_with fail
        refine bodyPost_ret (v := .tuple #[.agg #[.bool pb, .slice po pn pc], .int .i64 0]) (by simp [results, Try.results63, go_sem, e0, e1]) rfl ?_
        exact PowPost.some rfl hv.out (hP.out.box b4.out _ _) (below_set bb.out (Nat.le_succ _) _ _)
      · have hm0 : 0 < m' := Nat.pos_of_ne_zero h0
        have c0 := bp.out.c0; have c1 := bp.out.c1; have c2 := bs.out.c0; have c3 := bs.out.c1
        by_cases h32 : 32 < sn
        · have hv : Hid (powR m 1 x = none) := Lib.hid (by rw [← hrl.out]; exact powR_great h0 (hS.out.len_ge h32))
          have h32i : decide ((32 : Int) < (sn : Int)) = true := decide_eq_true (by omega)
          have z9 := b4.out.set (.bool false) (.slice none 0 0)
          have q1 := b4.out.c0; have q2 := b4.out.c1; have q3 := b4.out.fr 0; have q4 := b4.out.fr 1
          have e0 := z9.c0; have e1 := z9.c1
          have hbl := Lib.hid (below_set bb.out (Nat.le_succ _) (.bool false) (.slice none 0 0))
          clear z9
          go_wp2_with fail
          refine bodyPost_ret (v := .tuple #[.agg #[.bool false, .slice none 0 0], .int .i64 7]) (by simp [results, Try.results63, go_sem, e0, e1]) rfl ?_
          exact PowPost.none rfl hv.out hbl.out
        · have hsl := Lib.hid (hS.out.len_lt (Nat.le_of_not_lt h32))
          have h32i : decide ((32 : Int) < (sn : Int)) = false := decide_eq_false (by omega)
          by_cases hodd : m' % 2 = 1
          · have hoi : (m' : Int) % 2 = 1 := by omega
            go_wp2_with fail
            refine (wMul_any pb sb po so pn pc sn sc p s _ (hP.out.whole hp32.out (by omega)) (hS.out.whole hs64.out (by omega))).mono ?_
            rintro e w3 ⟨tb, to_, tn, tc, rfl, hT, hb⟩
            have y6 := bp.out.later hb; have y7 := bs.out.later hb; have y4 := b4.out.later hb; have bb3 := below_then bb.out (Nat.le_refl _) hb
            have q1 := y6.c0; have q2 := y6.c1; have q3 := y6.fr 0; have q4 := y6.fr 1
            have z6 := y6.set (.bool tb) (.slice to_ tn tc); have z7 := y7.other (Ne.symm hPQ) (.bool tb) (.slice to_ tn tc); have z4 := y4.other n1 (.bool tb) (.slice to_ tn tc)
            have bb := Lib.hid (below_set bb3 gP (.bool tb) (.slice to_ tn tc))
            have hP := Lib.hid (hT.box y6 (.bool tb) (.slice to_ tn tc)); have hS := Lib.hid ((hS.out.below hb).box y6 (.bool tb) (.slice to_ tn tc))
            have bp := Lib.hid z6; have bs := Lib.hid z7; have b4 := Lib.hid z4
            clear c0 c1 c2 c3
            have c0 := z6.c0; have c1 := z6.c1; have c2 := z7.c0; have c3 := z7.c1
            clear hb y6 y7 y4 bb3 hT z6 z7 z4
            by_cases ht : 32 < tn
            · have hv : Hid (powR m 1 x = none) := Lib.hid (by rw [← hrl.out]; exact powR_odd_great h0 hodd (hP.out.len_ge ht))
              have hti : decide ((32 : Int) < (tn : Int)) = true := decide_eq_true (by omega)
              have z9 := b4.out.set (.bool false) (.slice none 0 0)
              have r1 := b4.out.c0; have r2 := b4.out.c1; have r3 := b4.out.fr 0; have r4 := b4.out.fr 1
              have e0 := z9.c0; have e1 := z9.c1
              have hbl := Lib.hid (below_set bb.out (Nat.le_succ _) (.bool false) (.slice none 0 0))
              clear z9
              go_wp2_with fail
              refine bodyPost_ret (v := .tuple #[.agg #[.bool false, .slice none 0 0], .int .i64 7]) (by simp [results, Try.results63, go_sem, e0, e1]) rfl ?_
              exact PowPost.none rfl hv.out hbl.out
            · have htl := Lib.hid (hP.out.len_lt (Nat.le_of_not_lt ht))
              have hti : decide ((32 : Int) < (tn : Int)) = false := decide_eq_false (by omega)
              go_wp2_with fail
              refine gen_calls (fun w' => Box w' P (.bool tb) (.slice to_ tn tc) ∧ Box w' Q (.bool sb) (.slice so sn sc) ∧ Box w' (w.heap.size + 1) (.bool false) (.slice none 0 0) ∧ Right w' tb to_ tn tc (p * s) ∧ Right w' sb so sn sc s ∧ Below w.heap.size w w') ⟨bp.out, bs.out, b4.out, hP.out, hS.out, bb.out⟩ ?_
              clear bp bs b4 hP hS bb q1 q2 q3 q4 c0 c1 c2 c3
              rintro w4 ⟨bp, bs, b4, hP, hS, bb⟩
              have bp := Lib.hid bp; have bs := Lib.hid bs; have b4 := Lib.hid b4; have hP := Lib.hid hP; have hS := Lib.hid hS; have bb := Lib.hid bb
              refine (wMul_any sb sb so so sn sc sn sc s s _ (hS.out.whole hs64.out (by omega)) (hS.out.whole hs64.out (by omega))).mono ?_
              rintro e w5 ⟨rb, ro, rn, rc, rfl, hU, hb⟩
              have v6 := Lib.hid (bp.out.later hb); have v7 := Lib.hid (bs.out.later hb); have v4 := Lib.hid (b4.out.later hb); have bb := Lib.hid (below_then bb.out (Nat.le_refl _) hb); have hP := Lib.hid (hP.out.below hb)
              have hU := Lib.hid hU
              have q1 := v7.out.c0; have q2 := v7.out.c1; have q3 := v7.out.fr 0; have q4 := v7.out.fr 1
              clear hb
              go_wp2_with fail
              go_roundw
              case rel => exact ⟨m' / 2, _, _, _, _, _, _, _, _, p * s, s * s, int_eq (by omega), by omega, v6.out.other hPQ _ _, v7.out.set _ _, v4.out.other n2 _ _, hP.out.box v7.out _ _, hU.out.box v7.out _ _, below_set bb.out gQ _ _, mul_self_abs hsl.out, htl.out, by rw [← powR_odd h0 hodd hsl.out htl.out]; exact hrl.out⟩
              case measure => simp [intOf]; omega
          · have hoi : ¬ ((m' : Int) % 2 = 1) := by omega
            have hpi : decide ((32 : Int) < (pn : Int)) = false := decide_eq_false (by have := pn32.out; omega)
            go_wp2_with fail
            refine (wMul_any sb sb so so sn sc sn sc s s _ (hS.out.whole hs64.out (by omega)) (hS.out.whole hs64.out (by omega))).mono ?_
            rintro e w5 ⟨rb, ro, rn, rc, rfl, hU, hb⟩
            have v6 := Lib.hid (bp.out.later hb); have v7 := Lib.hid (bs.out.later hb); have v4 := Lib.hid (b4.out.later hb); have bb := Lib.hid (below_then bb.out (Nat.le_refl _) hb); have hP := Lib.hid (hP.out.below hb)
            have hU := Lib.hid hU
            have q1 := v7.out.c0; have q2 := v7.out.c1; have q3 := v7.out.fr 0; have q4 := v7.out.fr 1
            clear hb c0 c1 c2 c3
            go_wp2_with fail
            go_roundw
            case rel => exact ⟨m' / 2, _, _, _, _, _, _, _, _, p, s * s, int_eq (by omega), by omega, v6.out.other hPQ _ _, v7.out.set _ _, v4.out.other n2 _ _, hP.out.box v7.out _ _, hU.out.box v7.out _ _, below_set bb.out gQ _ _, mul_self_abs hsl.out, hp32.out, by rw [← powR_even h0 hodd hsl.out hp32.out]; exact hrl.out⟩
            case measure => simp [intOf]; omega

end Go.Proofs.Ytnnipciifjpooaa
