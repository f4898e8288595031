/-
  scrimref02.Same and Norm, scrimlaw02.few and awake.
  scrimlaw02.awake: chapter 2's examples hold.
  whole.Sign, whole.Cmp, whole.Of.
  Rational numbers: what Make tells of two whole ones (mkE the error, mkT the top with its sign, mkB the bottom), numbers in lowest terms ('Low'), facts on these; blocks of three cells ('Box3'); a number as a call hands it back ('Rt': its top and its bottom without noughts on top; 'ResPost': with an error; 'RatPost': without).
  scrimref03.Norm, Same, Neg, Sign; scrimlaw03.Mine, Theirs, few, same.
  Plain facts on the document's answers: numbers doubled, their bits, products and quotients bit by bit, the steps of a greatest divisor.
  scrimref02.longer, limb, Cmp, Add, Sub, twice and Bit: the document's answers, as they are reckoned.
  nat.Sub: the difference, or none.
  scrimref02.Sub, twice and Bit.
  scrimref02.Mul, DivMod and Gcd.
  scrimref03.Add, Sub, Cmp, Mul.
  nat.Add: the sum.
-/
import Derived.Test.YtaepelipkkmeaaaGreatMgtA
import Derived.WalkKit
import Derived.Deep.LoopGhost
import Derived.Lib.Small
import Derived.Lib.Walk
import Derived.Lib.BitFns
import Derived.Deep.QuietTactic
import Derived.BigQuiet
import Derived.WalkSpells
import Derived.WalkLawsBesides
import Derived.Lib.Hide
import Derived.Deep.RegionWith
import Derived.Laws.CopyOwn
import Derived.Deep.RegionHeld3
import Derived.Deep.DrawnRows
import Derived.Deep.CutRange
set_option maxRecDepth 20000
set_option maxHeartbeats 16000000
namespace Go.Proofs.YtaepelipkkmeaaaGreat
open Go.RowKit Num
theorem owns_slice {w : World} {base n : Nat} {t : TypeId} {v : Value} {f : Nat → Nat} (h : w.ownsRow base t 1 v n (limbCells f n)) :
  ∃ ao cap, v = .slice ao n cap ∧ n ≤ cap ∧ cap ≤ 9223372036854775807 ∧ Sl w ao n f := by
 rcases h.2 with ⟨rfl, rfl⟩ | ⟨g, cap, cur, hv, hb, hg, hnc, hcm, hcs, ht⟩
 ·exact ⟨none, 0, rfl, Nat.le_refl _, by omega, .inl rfl⟩
 ·subst hv
  refine ⟨_, cap, rfl, hnc, by unfold maxLen at hcm; omega, ?_⟩
  by_cases h0 : n = 0
  ·exact .inl h0
  ·refine .inr ⟨g, 0, rfl, fun j hj => ?_⟩
   rw [Nat.zero_add, h.cellAt j (by omega), limbCells_get f n j hj]
theorem refNorm_any (ao : Option Addr) (n nc : Nat) (f : Nat → Nat) (w : World) (A : Arg w ao n nc f) :
  Calls Tryz.prog 140 #[.slice ao n nc] w (NumPost (val f n) w) := by
 obtain ⟨i32, hi, hz0, hz1, hz2⟩ := info_parts info32
 obtain ⟨hn, hnc, hnb, hf, lf⟩ := A
 have lf' := Lib.hid lf
 clear lf
 rcases hf with rfl | ⟨b, off, rfl, hc⟩
 ·go_enter Tryz.func140, Tryz.ntmps140
  go_wp2_with fail
  go_loop [3] (fun i => i = .int .i64 0) (fun i => (intOf i).toNat)
  case atStart => exact rfl
  case round =>
   obtain rfl := hrel
   go_wp2_with (at_builtin; refine wpList_append_empty rfl (.tmp 19) (.tmp 22) 22 rfl 104 i32 Tryz.underlying22 hi _ _ rfl rfl ?_)
   all_goals
    go_ret
    exact ⟨none, 0, 0, f, rfl, Nat.le_refl _, by omega, .inl rfl, canon_zero f, Below.refl _ _⟩
 ·go_enter Tryz.func140, Tryz.ntmps140
  go_wp2_with fail
  go_loop [3] (fun i => ∃ k : Nat, k ≤ n ∧ i = .int .i64 k ∧ val f k = val f n) (fun i => (intOf i).toNat)
  case atStart => exact ⟨n, Nat.le_refl _, rfl, rfl⟩
  case round =>
   obtain ⟨k, hk, rfl, hv0⟩ := hrel
   have hv := Lib.hid hv0; clear hv0
   by_cases h0 : k = 0
   ·subst h0
    go_wp2_with (at_builtin; refine wpList_append_empty rfl (.tmp 19) (.tmp 22) 22 rfl 104 i32 Tryz.underlying22 hi _ _ rfl rfl ?_)
    go_ret
    exact ⟨none, 0, 0, f, rfl, Nat.le_refl _, by omega, .inl rfl, by rw [← hv.out]; exact canon_zero f, Below.refl _ _⟩
   ·have hpos : 0 < k := by omega
    have hcell := hc (k - 1) (by omega)
    have hc' := Lib.hid hc
    clear hc
    by_cases hz : f (k - 1) = 0
    ·have hzi : ((f (k - 1) : Int) == 0) = true := by simp [hz]
     have hz' := Lib.hid hz; clear hz
     go_wp2_with fail
     go_round
     case rel =>
      have hk1 : k = k - 1 + 1 := by omega
      have e := val_nought hz'.out
      rw [← hk1] at e
      exact ⟨k - 1, by omega, int_eq (by omega), e.symm.trans hv.out⟩
     case measure => simp [intOf]; omega
    ·have hzi : ((f (k - 1) : Int) == 0) = false := by simp [hz]
     have hone := limbCells_one f k
     have hlen := limbCells_length f k
     have hat := limbCells_at (w := w) (b := b) (off := off) (n := k) (f := f) (fun j hj => hc'.out j (by omega))
     obtain ⟨cs, hcs⟩ : ∃ cs, cs = limbCells f k := ⟨_, rfl⟩
     rw [← hcs] at hone hlen hat
     have hcs' := Lib.hid hcs; have hlen' := Lib.hid hlen
     clear hcs hlen
     go_wp2_with (at_builtin; refine wpList_append_own _ rfl (.tmp 19) (.tmp 22) 22 rfl w.heap.size 104 i32 (.int .u32 0) 1 4 Tryz.underlying22 hi hz0 hz1 hz2 rfl (by decide) _ _ _ rfl (World.ownsRow_nil _ _ _ _) ⟨b, off, none⟩ k nc cs rfl (by rw [hlen'.out]; omega) hat hone (by unfold maxLen; omega) (by omega) (Nat.le_refl _) ?_)
     intro v' w1 hown hgr hnil
     rw [hcs'.out] at hown
     obtain ⟨ao', cap', rfl, g1, g2, g3⟩ := owns_slice hown
     have g3' := Lib.hid g3
     have hb := Lib.hid ((Below.refl w.heap.size w).grown hgr (Nat.le_refl _) (fun _ h => by cases h))
     clear hown hgr hnil g3
     go_wp2_with fail
     go_ret
     exact ⟨ao', k, cap', f, rfl, g1, g2, g3'.out, ⟨lf'.out.mono hk, .inr hz, hv.out⟩, hb.out⟩
end Go.Proofs.YtaepelipkkmeaaaGreat
namespace Go.Proofs.YtaepelipkkmeaaaGreat
open Go.RowKit Num
theorem sl_new1 (w : World) (t : TypeId) (v : Int) (x : Nat) (h : v = x) : Sl (w.alloc (.cells #[.int .u32 v] t)) (some ⟨w.heap.size, 0, none⟩) 1 (fun _ => x) := by
 subst h
 refine .inr ⟨w.heap.size, 0, rfl, fun j hj => ?_⟩
 obtain rfl : j = 0 := by omega
 rw [Nat.zero_add, World.cell?_alloc_new]
 rfl
theorem sl_new2 (w : World) (t : TypeId) (u v : Int) (x y : Nat) (hu : u = x) (hv : v = y) : Sl (w.alloc (.cells #[.int .u32 u, .int .u32 v] t)) (some ⟨w.heap.size, 0, none⟩) 2 (put (fun _ => x) 1 y) := by
 subst hu hv
 refine .inr ⟨w.heap.size, 0, rfl, fun j hj => ?_⟩
 rw [Nat.zero_add, World.cell?_alloc_new]
 have : j = 0 ∨ j = 1 := by omega
 rcases this with rfl | rfl <;> rfl
end Go.Proofs.YtaepelipkkmeaaaGreat
namespace Go.Proofs.YtaepelipkkmeaaaGreat
open Go.RowKit Num
attribute [local go_sem ↓] Go.wp_at_zero Go.wp_at_succ
def Says (v : Value) (w : World) (e : Ending) (w' : World) : Prop := e = .returned v ∧ Below w.heap.size w w'
theorem below_drawn {w w' : World} (h : ∃ q, w' = w.drewN q) : Below w.heap.size w w' := by
 obtain ⟨q, rfl⟩ := h
 exact below_drewN (Below.refl _ _) q
theorem sign_sgn (b : Bool) (v : Nat) : (sgn b v).sign = if b then -cmpI v 0 else cmpI v 0 := by
 cases b
 ·by_cases h : v = 0
  ·subst h; simp [sgn, cmpI]
  ·have h1 : (0 : Int) < (v : Int) := by omega
   simp only [sgn_false, Int.sign_eq_one_of_pos h1, cmpI_gt h1]; simp
 ·by_cases h : v = 0
  ·subst h; simp [sgn, cmpI]
  ·have h1 : (0 : Int) < (v : Int) := by omega
   simp only [sgn_true, Int.sign_neg, Int.sign_eq_one_of_pos h1, cmpI_gt h1]; simp
set_option maxHeartbeats 1000000 in
theorem wSign_any (b : Bool) (ao : Option Addr) (n nc : Nat) (x : Int) (w : World) (A : Whole w b ao n nc x) :
    Calls Tryz.prog 110 #[.agg #[.bool b, .slice ao n nc]] w (Says (.int .i64 x.sign) w) := by
  obtain ⟨f, A, hx⟩ := A.ex
  have A' := Lib.hid A
  have hs : x.sign = if b then -cmpI (val f n) 0 else cmpI (val f n) 0 := by rw [← hx]; exact sign_sgn b _
  rw [hs]
  clear A hx hs
  cases b
  all_goals
   go_enter Tryz.func110, Tryz.ntmps110
   go_wp2_with fail
   refine gen_calls (fun w' => Below w.heap.size w w' ∧ Box w' w.heap.size _ (.slice ao n nc)) ⟨(Below.refl _ w).alloc (Nat.le_refl _) _, Box.new _ _ _ rfl⟩ ?_
   rintro w0 ⟨hb0, x0⟩
   refine (cmp_any ao none n nc 0 0 f (fun _ => 0) _ (A'.out.below hb0) ⟨Nat.le_refl _, by omega, by omega, .inl rfl, fun _ h => by omega⟩).mono ?_
   rintro e w1 ⟨rfl, hd⟩
   have hb := below_drawn hd
   have y0 := x0.later hb
   have hb1 := Lib.hid (below_then hb0 (Nat.le_refl _) hb)
   have p0 := y0.c0
   clear hd hb hb0 x0
   have hv : cmpI (val f n : Nat) (val (fun _ => 0) 0 : Nat) = cmpI (val f n) 0 := rfl
   rw [hv]
   have hc : cmpI (val f n) 0 = 0 ∨ cmpI (val f n) 0 = 1 := by
     by_cases h : val f n = 0
     · exact .inl (cmpI_eq (by omega))
     · exact .inr (cmpI_gt (by omega))
   clear hv
   rcases hc with hc | hc <;> have hc' := Lib.hid hc <;> rw [hc] <;> clear hc
   all_goals
     go_wp2_with fail
     go_ret
     refine ⟨ret_num ?_, hb1.out⟩
     simp [hc'.out]
theorem wrap_back (v : Nat) (h : v ≤ 9223372036854775808) : IntKind.u64.wrap (-IntKind.u64.wrap (-(v : Int))) = (v : Int) := by
 simp [IntKind.wrap, IntKind.bits, IntKind.signed]
 omega
theorem sl_two {w : World} {B : Nat} {u v : Int} {x y : Nat} (t : TypeId) (h : B = w.heap.size) (hu : u = x) (hv : v = y) : Sl (w.alloc (.cells #[.int .u32 u, .int .u32 v] t)) (some ⟨B, 0, none⟩) 2 (put (fun _ => x) 1 y) := by
 subst h
 exact sl_new2 w t u v x y hu hv
theorem lim_two {x y : Nat} (hx : x < 4294967296) (hy : y < 4294967296) : Lim (put (fun _ => x) 1 y) 2 := put_lim (fun _ _ => hx) hy
theorem val_pair (x y : Nat) : val (put (fun _ => x) 1 y) 2 = x + 4294967296 * y := by
 rw [val_succ, val_succ, val_zero, put_at, put_ne (by decide)]
 simp [pw]
 omega
theorem wOf_any (n : Int) (w : World) (h0 : -9223372036854775808 ≤ n) (h1 : n ≤ 9223372036854775807) :
  Calls Tryz.prog 109 #[.int .i64 n] w (IntPost n w) := by
 by_cases hn : n < 0
 ·obtain ⟨v, hv⟩ : ∃ v : Nat, n = -(v : Int) := ⟨n.natAbs, by omega⟩
  subst hv
  have hw := wrap_back v (by omega)
  have hp : 0 < v := by omega
  go_enter Tryz.func109, Tryz.ntmps109
  go_wp2_with fail
  refine gen_calls (fun w' => Below w.heap.size w w' ∧ Box w' w.heap.size (.bool false) (.slice none 0 0) ∧ Sl w' (some ⟨w.heap.size + 1, 0, none⟩) 2 (put (fun _ => v % 4294967296) 1 (v / 4294967296)))
   ⟨((Below.refl _ w).alloc (Nat.le_refl _) _).alloc (by simp) _, (Box.new _ _ _ rfl).alloc _, sl_two _ (by simp) (by omega) (by omega)⟩ ?_
  rintro w0 ⟨hb0, x0, hs⟩
  refine (norm_any (some ⟨w.heap.size + 1, 0, none⟩) 2 2 _ _ ⟨Nat.le_refl _, by omega, by omega, hs, lim_two (by omega) (by omega)⟩).mono ?_
  rw [val_pair, Nat.mod_add_div]
  rintro e w1 ⟨co, cn, cc, c, rfl, g1, g2, g3, g4, hb⟩
  have y0 := x0.later hb
  have hb1 := Lib.hid (below_then hb0 (Nat.le_refl _) hb)
  have g3' := Lib.hid g3; have g4' := Lib.hid g4
  clear g3 g4 hb hs x0 hb0
  go_wp2_with fail
  refine (signed_any true co _ cn cc c _ g1 g2 g3'.out g4'.out).mono ?_
  rintro e w3 ⟨sb, so, sn, sc, rfl, hR, hb4⟩
  have z2 := y0.later hb4
  have q1 := z2.c0; have q2 := z2.c1; have q3 := z2.fr 0; have q4 := z2.fr 1
  have hb2 := below_then hb1.out (Nat.le_refl _) hb4
  have z3 := z2.set (.bool sb) (.slice so sn sc)
  have e0 := z3.c0; have e1 := z3.c1
  have hR' := Lib.hid hR; have z2' := Lib.hid z2; have hb2' := Lib.hid hb2
  clear hR z2 hb2 hb4 y0
  go_wp2_with fail
  refine bodyPost_ret (v := .agg #[.bool sb, .slice so sn sc]) (by simp [results, Tryz.results109, go_sem, e0, e1]) rfl ?_
  exact IntPost.stored hR'.out z2'.out hb2'.out (by omega)
 ·obtain ⟨v, hv⟩ : ∃ v : Nat, n = (v : Int) := ⟨n.natAbs, by omega⟩
  subst hv
  go_enter Tryz.func109, Tryz.ntmps109
  go_wp2_with fail
  refine gen_calls (fun w' => Below w.heap.size w w' ∧ Box w' w.heap.size (.bool false) (.slice none 0 0) ∧ Sl w' (some ⟨w.heap.size + 1, 0, none⟩) 2 (put (fun _ => v % 4294967296) 1 (v / 4294967296)))
   ⟨((Below.refl _ w).alloc (Nat.le_refl _) _).alloc (by simp) _, (Box.new _ _ _ rfl).alloc _, sl_two _ (by simp) (by omega) (by omega)⟩ ?_
  rintro w0 ⟨hb0, x0, hs⟩
  refine (norm_any (some ⟨w.heap.size + 1, 0, none⟩) 2 2 _ _ ⟨Nat.le_refl _, by omega, by omega, hs, lim_two (by omega) (by omega)⟩).mono ?_
  rw [val_pair, Nat.mod_add_div]
  rintro e w1 ⟨co, cn, cc, c, rfl, g1, g2, g3, g4, hb⟩
  have y0 := x0.later hb
  have hb1 := Lib.hid (below_then hb0 (Nat.le_refl _) hb)
  have g3' := Lib.hid g3; have g4' := Lib.hid g4
  clear g3 g4 hb hs x0 hb0
  go_wp2_with fail
  refine (signed_any false co _ cn cc c _ g1 g2 g3'.out g4'.out).mono ?_
  rintro e w3 ⟨sb, so, sn, sc, rfl, hR, hb4⟩
  have z2 := y0.later hb4
  have q1 := z2.c0; have q2 := z2.c1; have q3 := z2.fr 0; have q4 := z2.fr 1
  have hb2 := below_then hb1.out (Nat.le_refl _) hb4
  have z3 := z2.set (.bool sb) (.slice so sn sc)
  have e0 := z3.c0; have e1 := z3.c1
  have hR' := Lib.hid hR; have z2' := Lib.hid z2; have hb2' := Lib.hid hb2
  clear hR z2 hb2 hb4 y0
  go_wp2_with fail
  refine bodyPost_ret (v := .agg #[.bool sb, .slice so sn sc]) (by simp [results, Tryz.results109, go_sem, e0, e1]) rfl ?_
  exact IntPost.stored hR'.out z2'.out hb2'.out (by omega)
end Go.Proofs.YtaepelipkkmeaaaGreat
namespace Go.Proofs.YtaepelipkkmeaaaGreat
open Go.RowKit Num
def Low (P : Int) (Q : Nat) : Prop := Q ≠ 0 ∧ Nat.gcd P.natAbs Q = 1 ∧ P.natAbs < pw 32 ∧ Q < pw 32
def mkG (p q : Int) : Nat := Nat.gcd p.natAbs q.natAbs
def mkE (p q : Int) : Int := if q = 0 then 3 else if p.natAbs / mkG p q < pw 32 ∧ q.natAbs / mkG p q < pw 32 then 0 else 7
def mkT (p q : Int) : Int := if mkE p q = 0 then sgn (decide (p.sign * q.sign < 0)) (p.natAbs / mkG p q) else 0
def mkB (p q : Int) : Nat := if mkE p q = 0 then q.natAbs / mkG p q else 0
theorem mkG_pos {p q : Int} (hq : q ≠ 0) : 0 < mkG p q := Nat.gcd_pos_of_pos_right _ (by omega)
theorem mkE_ok {p q : Int} : mkE p q = 0 ↔ q ≠ 0 ∧ p.natAbs / mkG p q < pw 32 ∧ q.natAbs / mkG p q < pw 32 := by
 unfold mkE
 by_cases h : q = 0
 ·simp [h]
 ·by_cases k : p.natAbs / mkG p q < pw 32 ∧ q.natAbs / mkG p q < pw 32
  ·simp only [h, k, if_false, if_true, ne_eq, not_false_eq_true, and_self]
  ·simp only [h, k, if_false, ne_eq, not_false_eq_true, true_and, iff_false]
   decide
theorem mk_bad {p q : Int} (h : mkE p q ≠ 0) : mkT p q = 0 ∧ mkB p q = 0 := by simp [mkT, mkB, h]
theorem mk_three {p q : Int} : mkE p q = 3 ↔ q = 0 := by
 unfold mkE
 by_cases h : q = 0
 ·simp [h]
 ·simp only [h, if_false, iff_false]; split <;> decide
theorem mkT_ok {p q : Int} (h : mkE p q = 0) : mkT p q = sgn (decide (p.sign * q.sign < 0)) (p.natAbs / mkG p q) := by simp [mkT, h]
theorem mkB_ok {p q : Int} (h : mkE p q = 0) : mkB p q = q.natAbs / mkG p q := by simp [mkB, h]
theorem mkT_abs {p q : Int} (h : mkE p q = 0) : (mkT p q).natAbs = p.natAbs / mkG p q := by rw [mkT_ok h, sgn_abs]
theorem mkT_lt (p q : Int) : (mkT p q).natAbs < pw 32 := by
 by_cases h : mkE p q = 0
 ·rw [mkT_abs h]; exact (mkE_ok.1 h).2.1
 ·rw [(mk_bad h).1]; exact pw_pos _
theorem mkB_lt (p q : Int) : mkB p q < pw 32 := by
 by_cases h : mkE p q = 0
 ·rw [mkB_ok h]; exact (mkE_ok.1 h).2.2
 ·rw [(mk_bad h).2]; exact pw_pos _
theorem mk_low {p q : Int} (h : mkE p q = 0) : Low (mkT p q) (mkB p q) := by
 obtain ⟨hq, h1, h2⟩ := mkE_ok.1 h
 have hg := mkG_pos (p := p) hq
 refine ⟨?_, ?_, mkT_lt _ _, mkB_lt _ _⟩
 ·rw [mkB_ok h]
  have : mkG p q ≤ q.natAbs := Nat.gcd_le_right _ (by omega)
  have := Nat.div_pos this hg
  omega
 ·rw [mkT_abs h, mkB_ok h]
  rw [mkG, Nat.gcd_div (Nat.gcd_dvd_left _ _) (Nat.gcd_dvd_right _ _)]; exact Nat.div_self hg
theorem abs_sign (x : Int) : (x.natAbs : Int) * x.sign = x := by rw [Int.mul_comm]; exact Int.sign_mul_natAbs x
theorem sgn_sign {x : Int} {v : Nat} (h' : x = 0 → v = 0) : sgn (decide (x < 0)) v = x.sign * v := by
 rcases Int.lt_trichotomy x 0 with hx | hx | hx
 ·rw [Int.sign_eq_neg_one_of_neg hx]; simp [hx, sgn]
 ·rw [hx, h' hx]; simp [sgn]
 ·rw [Int.sign_eq_one_of_pos hx]; simp [sgn, Int.not_lt.2 (Int.le_of_lt hx)]
theorem mk_cross {p q : Int} (h : mkE p q = 0) : mkT p q * q = p * mkB p q := by
 obtain ⟨hq, _, _⟩ := mkE_ok.1 h
 have hg := mkG_pos (p := p) hq
 have e1 : mkG p q * (p.natAbs / mkG p q) = p.natAbs := Nat.mul_div_cancel' (Nat.gcd_dvd_left _ _)
 have e2 : mkG p q * (q.natAbs / mkG p q) = q.natAbs := Nat.mul_div_cancel' (Nat.gcd_dvd_right _ _)
 rw [mkT_ok h, mkB_ok h]
 generalize p.natAbs / mkG p q = a at *
 generalize q.natAbs / mkG p q = b at *
 generalize mkG p q = g at *
 have es : (p.sign * q.sign).sign = p.sign * q.sign := by rw [Int.sign_mul, Int.sign_sign, Int.sign_sign]
 have k1 : p.sign * q.sign = 0 → a = 0 := by
  intro h0
  rcases Int.mul_eq_zero.1 h0 with h1 | h1
  ·have : p = 0 := Int.sign_eq_zero_iff_zero.1 h1
   subst this
   rcases Nat.mul_eq_zero.1 (e1.trans rfl) with h2 | h2
   ·omega
   ·exact h2
  ·exact absurd (Int.sign_eq_zero_iff_zero.1 h1) hq
 rw [sgn_sign k1, es]
 have sq : q.sign * q.sign = 1 := by
  rcases Int.lt_or_gt_of_ne hq with h1 | h1
  ·rw [Int.sign_eq_neg_one_of_neg h1]; rfl
  ·rw [Int.sign_eq_one_of_pos h1]; rfl
 have ep := abs_sign p
 have eq := abs_sign q
 have f1 : (g : Int) * a = p.natAbs := by exact_mod_cast e1
 have f2 : (g : Int) * b = q.natAbs := by exact_mod_cast e2
 generalize p.sign = sp at *
 generalize q.sign = sq' at *
 generalize (p.natAbs : Int) = pa at *
 generalize (q.natAbs : Int) = qa at *
 generalize (a : Int) = a at *
 generalize (b : Int) = b at *
 generalize (g : Int) = g at *
 subst f1 f2 ep eq
 grind
theorem low_unique {P P' : Int} {Q Q' : Nat} (a : Low P Q) (b : Low P' Q') (h : P * Q' = P' * Q) : P = P' ∧ Q = Q' := by
 obtain ⟨a0, a1, _, _⟩ := a
 obtain ⟨b0, b1, _, _⟩ := b
 have hn : P.natAbs * Q' = P'.natAbs * Q := by
  have := congrArg Int.natAbs h
  simpa [Int.natAbs_mul] using this
 have d1 : Q ∣ Q' := (Nat.Coprime.symm a1).dvd_of_dvd_mul_left ⟨P'.natAbs, by rw [hn, Nat.mul_comm]⟩
 have d2 : Q' ∣ Q := (Nat.Coprime.symm b1).dvd_of_dvd_mul_left ⟨P.natAbs, by rw [← hn, Nat.mul_comm]⟩
 have e : Q = Q' := Nat.dvd_antisymm d1 d2
 subst e
 exact ⟨Int.eq_of_mul_eq_mul_right (by omega) h, rfl⟩
theorem mk_of_low {p q : Int} {P : Int} {Q : Nat} (a : Low P Q) (hq : q ≠ 0) (e : p * Q = P * q) : mkE p q = 0 ∧ mkT p q = P ∧ mkB p q = Q := by
 have h : mkE p q = 0 := by
  obtain ⟨a0, a1, a2, a3⟩ := a
  have hn : p.natAbs * Q = P.natAbs * q.natAbs := by
   have := congrArg Int.natAbs e
   simpa [Int.natAbs_mul] using this
  have d1 : Q ∣ q.natAbs := (Nat.Coprime.symm a1).dvd_of_dvd_mul_left ⟨p.natAbs, by rw [← hn, Nat.mul_comm]⟩
  obtain ⟨k, hk⟩ := d1
  have hp : p.natAbs = P.natAbs * k := by
   rw [hk, Nat.mul_left_comm, Nat.mul_comm] at hn
   exact Nat.eq_of_mul_eq_mul_left (by omega) hn
  have hk0 : 0 < k := by
   rcases Nat.eq_zero_or_pos k with rfl | h
   ·simp at hk; omega
   ·exact h
  have hg : mkG p q = k := by
   unfold mkG
   rw [hp, hk, Nat.gcd_mul_right, a1, Nat.one_mul]
  refine mkE_ok.2 ⟨hq, ?_, ?_⟩
  ·rw [hg, hp, Nat.mul_div_cancel _ hk0]; exact a2
  ·rw [hg, hk, Nat.mul_div_cancel _ hk0]; exact a3
 have c := mk_cross h
 refine ⟨h, low_unique (mk_low h) a ?_⟩
 refine Int.eq_of_mul_eq_mul_right hq ?_
 rw [Int.mul_right_comm, c, Int.mul_right_comm, e, Int.mul_right_comm]
theorem Low.nz {P : Int} {Q : Nat} (a : Low P Q) : (Q : Int) ≠ 0 := by have := a.1; omega
theorem mk_self {P : Int} {Q : Nat} (a : Low P Q) : mkE P Q = 0 ∧ mkT P Q = P ∧ mkB P Q = Q := mk_of_low a a.nz rfl
theorem low_one {P : Int} (h : P.natAbs < pw 32) : Low P 1 := ⟨by omega, Nat.gcd_one_right _, h, Nat.lt_of_lt_of_le (by decide : 1 < pw 1) (pw_le (by omega))⟩
theorem low_zero {Q : Nat} (a : Low 0 Q) : Q = 1 := by have := a.2.1; simpa using this
theorem Low.neg {P : Int} {Q : Nat} (a : Low P Q) : Low (-P) Q := ⟨a.1, by rw [Int.natAbs_neg]; exact a.2.1, by rw [Int.natAbs_neg]; exact a.2.2.1, a.2.2.2⟩
theorem fdiv_abs (P : Int) {Q : Nat} (hQ : Q ≠ 0) : (P.fdiv Q).natAbs ≤ P.natAbs := by
 have hq : (0 : Int) < (Q : Int) := by omega
 have e := Int.fmod_add_mul_fdiv P Q
 have h1 := Int.fmod_nonneg_of_pos P hq
 have h2 := Int.fmod_lt_of_pos P hq
 generalize P.fdiv Q = f at *
 generalize P.fmod Q = r at *
 have hQ1 : (1 : Int) ≤ (Q : Int) := by omega
 by_cases hf : 0 ≤ f
 ·have : 1 * f ≤ (Q : Int) * f := Int.mul_le_mul_of_nonneg_right hQ1 hf
  omega
 ·have : (Q : Int) * (f + 1) ≤ 1 * (f + 1) := Int.mul_le_mul_of_nonpos_right hQ1 (by omega)
  rw [Int.mul_add] at this
  omega
theorem low_floor {P : Int} {Q : Nat} (a : Low P Q) : Low (P.fdiv Q) 1 := low_one (Nat.lt_of_le_of_lt (fdiv_abs P a.1) a.2.2.1)
structure Box3 (w : World) (B : Nat) (v0 v1 v2 : Value) : Prop where
 c0 : w.cell? ⟨B, 0, none⟩ = some v0
 c1 : w.cell? ⟨B, 1, none⟩ = some v1
 c2 : w.cell? ⟨B, 2, none⟩ = some v2
 fr : ∀ j, w.frozen? ⟨B, j, none⟩ = false
theorem Box3.lt {w : World} {B : Nat} {v0 v1 v2 : Value} (h : Box3 w B v0 v1 v2) : B < w.heap.size := World.block_lt_of_cell? w _ h.c0
theorem Box3.new {w : World} {B : Nat} (v0 v1 v2 : Value) (t : TypeId) (h : B = w.heap.size) : Box3 (w.alloc (.cells #[v0, v1, v2] t)) B v0 v1 v2 := by
 subst h
 exact ⟨by simp, by simp, by simp, fun j => by
  have hh := heap_alloc_new w (.cells #[v0, v1, v2] t)
  simp only [World.frozen?, hh]
  simp⟩
theorem Box3.below {w w' : World} {B C : Nat} {v0 v1 v2 : Value} (h : Box3 w B v0 v1 v2) (hb : Below C w w') (hC : B < C) : Box3 w' B v0 v1 v2 :=
 ⟨(hb.cell hC).trans h.c0, (hb.cell hC).trans h.c1, (hb.cell hC).trans h.c2, fun j => (hb.frozen hC).trans (h.fr j)⟩
theorem Box3.later {w w' : World} {B : Nat} {v0 v1 v2 : Value} (h : Box3 w B v0 v1 v2) (hb : Below w.heap.size w w') : Box3 w' B v0 v1 v2 := h.below hb h.lt
theorem Box3.alloc {w : World} {B : Nat} {v0 v1 v2 : Value} (h : Box3 w B v0 v1 v2) (o : Obj) : Box3 (w.alloc o) B v0 v1 v2 := h.later ((Below.refl _ w).alloc (Nat.le_refl _) o)
theorem Box3.drew {w : World} {B : Nat} {v0 v1 v2 : Value} (h : Box3 w B v0 v1 v2) : Box3 w.drew B v0 v1 v2 := ⟨h.c0, h.c1, h.c2, h.fr⟩
theorem cell_set_ne {w : World} {a b : Addr} {v : Value} (h : a ≠ b) : (w.setCell b v).cell? a = w.cell? a := World.cell?_setCell_other _ _ _ _ (fun e => h e.symm)
theorem Box3.set {w : World} {B : Nat} {v0 v1 v2 : Value} (h : Box3 w B v0 v1 v2) (u0 u1 u2 : Value) : Box3 (((w.setCell ⟨B, 0, none⟩ u0).setCell ⟨B, 1, none⟩ u1).setCell ⟨B, 2, none⟩ u2) B u0 u1 u2 := by
 have ne : ∀ {j k : Nat}, j ≠ k → (⟨B, j, none⟩ : Addr) ≠ ⟨B, k, none⟩ := fun h e => h (by injection e)
 refine ⟨?_, ?_, ?_, fun j => by rw [World.frozen?_setCell, World.frozen?_setCell, World.frozen?_setCell]; exact h.fr j⟩
 ·rw [cell_set_ne (ne (by decide)), cell_set_ne (ne (by decide))]
  exact World.cell?_setCell_same _ _ _ h.c0
 ·rw [cell_set_ne (ne (by decide))]
  refine World.cell?_setCell_same _ _ _ (?_ : _ = some v1)
  rw [cell_set_ne (ne (by decide))]
  exact h.c1
 ·refine World.cell?_setCell_same _ _ _ (?_ : _ = some v2)
  rw [cell_set_ne (ne (by decide)), cell_set_ne (ne (by decide))]
  exact h.c2
theorem Box3.other {w : World} {B C : Nat} {v0 v1 v2 : Value} (h : Box3 w B v0 v1 v2) (hne : B ≠ C) (u0 u1 : Value) : Box3 ((w.setCell ⟨C, 0, none⟩ u0).setCell ⟨C, 1, none⟩ u1) B v0 v1 v2 := by
 have ne : ∀ j k, (⟨B, j, none⟩ : Addr) ≠ ⟨C, k, none⟩ := fun j k e => hne (by injection e)
 refine ⟨?_, ?_, ?_, fun j => by rw [World.frozen?_setCell, World.frozen?_setCell]; exact h.fr j⟩
 ·rw [cell_set_ne (ne _ _), cell_set_ne (ne _ _)]; exact h.c0
 ·rw [cell_set_ne (ne _ _), cell_set_ne (ne _ _)]; exact h.c1
 ·rw [cell_set_ne (ne _ _), cell_set_ne (ne _ _)]; exact h.c2
theorem Box3.other3 {w : World} {B C : Nat} {v0 v1 v2 : Value} (h : Box3 w B v0 v1 v2) (hne : B ≠ C) (u0 u1 u2 : Value) : Box3 (((w.setCell ⟨C, 0, none⟩ u0).setCell ⟨C, 1, none⟩ u1).setCell ⟨C, 2, none⟩ u2) B v0 v1 v2 := by
 have ne : ∀ j k, (⟨B, j, none⟩ : Addr) ≠ ⟨C, k, none⟩ := fun j k e => hne (by injection e)
 refine ⟨?_, ?_, ?_, fun j => by rw [World.frozen?_setCell, World.frozen?_setCell, World.frozen?_setCell]; exact h.fr j⟩
 ·rw [cell_set_ne (ne _ _), cell_set_ne (ne _ _), cell_set_ne (ne _ _)]; exact h.c0
 ·rw [cell_set_ne (ne _ _), cell_set_ne (ne _ _), cell_set_ne (ne _ _)]; exact h.c1
 ·rw [cell_set_ne (ne _ _), cell_set_ne (ne _ _), cell_set_ne (ne _ _)]; exact h.c2
theorem Box.other3 {w : World} {B C : Nat} {v0 v1 : Value} (h : Box w B v0 v1) (hne : B ≠ C) (u0 u1 u2 : Value) : Box (((w.setCell ⟨C, 0, none⟩ u0).setCell ⟨C, 1, none⟩ u1).setCell ⟨C, 2, none⟩ u2) B v0 v1 := by
 have ne : ∀ j k, (⟨B, j, none⟩ : Addr) ≠ ⟨C, k, none⟩ := fun j k e => hne (by injection e)
 refine ⟨?_, ?_, fun j => by rw [World.frozen?_setCell, World.frozen?_setCell, World.frozen?_setCell]; exact h.fr j⟩
 ·rw [cell_set_ne (ne _ _), cell_set_ne (ne _ _), cell_set_ne (ne _ _)]; exact h.c0
 ·rw [cell_set_ne (ne _ _), cell_set_ne (ne _ _), cell_set_ne (ne _ _)]; exact h.c1
theorem below_set3 {w w' : World} {A B : Nat} (h : Below A w w') (hB : A ≤ B) (u0 u1 u2 : Value) : Below A w (((w'.setCell ⟨B, 0, none⟩ u0).setCell ⟨B, 1, none⟩ u1).setCell ⟨B, 2, none⟩ u2) := ((h.setCell (p := ⟨B, 0, none⟩) hB u0).setCell (p := ⟨B, 1, none⟩) hB u1).setCell (p := ⟨B, 2, none⟩) hB u2
theorem Sl.box3 {w : World} {ao : Option Addr} {n B : Nat} {f : Nat → Nat} {c : Bool} {p q : Option Addr} {k l k' l' : Nat} (h : Sl w ao n f) (z : Box3 w B (.bool c) (.slice p k l) (.slice q k' l')) (u0 u1 u2 : Value) : Sl (((w.setCell ⟨B, 0, none⟩ u0).setCell ⟨B, 1, none⟩ u1).setCell ⟨B, 2, none⟩ u2) ao n f := by
 rcases h with rfl | ⟨d, off, rfl, hc⟩
 ·exact .inl rfl
 ·refine .inr ⟨d, off, rfl, fun j hj => ?_⟩
  have e := hc j hj
  rw [cell_set_ne (fun e1 => by rw [e1, z.c2] at e; cases e), cell_set_ne (fun e1 => by rw [e1, z.c1] at e; cases e), cell_set_ne (fun e1 => by rw [e1, z.c0] at e; cases e)]
  exact e
theorem Right.box3 {w : World} {b : Bool} {ao : Option Addr} {n nc B : Nat} {x : Int} {c : Bool} {p q : Option Addr} {k l k' l' : Nat} (h : Right w b ao n nc x) (z : Box3 w B (.bool c) (.slice p k l) (.slice q k' l')) (u0 u1 u2 : Value) : Right (((w.setCell ⟨B, 0, none⟩ u0).setCell ⟨B, 1, none⟩ u1).setCell ⟨B, 2, none⟩ u2) b ao n nc x := by
 obtain ⟨f, h1, h2, h3, h4, h5⟩ := h.ex
 exact ⟨f, h1, h2, h3.box3 z u0 u1 u2, h4, h5⟩
structure Rt (w : World) (b : Bool) (ao : Option Addr) (n nc : Nat) (bo : Option Addr) (m mc : Nat) (P : Int) (Q : Nat) : Prop where
 top : Right w b ao n nc P
 bot : Right w false bo m mc Q
theorem Rt.below {w w' : World} {b : Bool} {ao bo : Option Addr} {n nc m mc Q : Nat} {P : Int} (h : Rt w b ao n nc bo m mc P Q) (hb : Below w.heap.size w w') : Rt w' b ao n nc bo m mc P Q := ⟨h.top.below hb, h.bot.below hb⟩
theorem Rt.box {w : World} {b : Bool} {ao bo : Option Addr} {n nc m mc Q B : Nat} {P : Int} {c : Bool} {p : Option Addr} {k l : Nat} (h : Rt w b ao n nc bo m mc P Q) (z : Box w B (.bool c) (.slice p k l)) (u0 u1 : Value) : Rt ((w.setCell ⟨B, 0, none⟩ u0).setCell ⟨B, 1, none⟩ u1) b ao n nc bo m mc P Q := ⟨h.top.box z u0 u1, h.bot.box z u0 u1⟩
theorem Rt.box3 {w : World} {b : Bool} {ao bo : Option Addr} {n nc m mc Q B : Nat} {P : Int} {c : Bool} {p q : Option Addr} {k l k' l' : Nat} (h : Rt w b ao n nc bo m mc P Q) (z : Box3 w B (.bool c) (.slice p k l) (.slice q k' l')) (u0 u1 u2 : Value) : Rt (((w.setCell ⟨B, 0, none⟩ u0).setCell ⟨B, 1, none⟩ u1).setCell ⟨B, 2, none⟩ u2) b ao n nc bo m mc P Q := ⟨h.top.box3 z u0 u1 u2, h.bot.box3 z u0 u1 u2⟩
theorem Right.whole32 {w : World} {b : Bool} {ao : Option Addr} {n nc : Nat} {x : Int} (h : Right w b ao n nc x) (hx : x.natAbs < pw 32) : Whole w b ao n nc x := h.whole hx (by omega)
theorem Low.abs_lt {P : Int} {Q : Nat} (h : Low P Q) : P.natAbs < pw 32 := h.2.2.1
theorem Low.bot_lt {P : Int} {Q : Nat} (h : Low P Q) : (Q : Int).natAbs < pw 32 := by rw [Int.natAbs_natCast]; exact h.2.2.2
theorem Rt.upper {w : World} {b : Bool} {ao bo : Option Addr} {n nc m mc Q : Nat} {P : Int} (h : Rt w b ao n nc bo m mc P Q) (l : Low P Q) : Whole w b ao n nc P := h.top.whole32 l.abs_lt
theorem Rt.lower {w : World} {b : Bool} {ao bo : Option Addr} {n nc m mc Q : Nat} {P : Int} (h : Rt w b ao n nc bo m mc P Q) (l : Low P Q) : Whole w false bo m mc Q := h.bot.whole32 l.bot_lt
theorem rt_zero (w : World) : Rt w false none 0 0 none 0 0 0 0 := ⟨⟨fun _ => 0, Nat.le_refl _, by omega, .inl rfl, canon_zero _, rfl⟩, ⟨fun _ => 0, Nat.le_refl _, by omega, .inl rfl, canon_zero _, rfl⟩⟩
def ResPost (T : Int) (B : Nat) (E : Int) (w : World) (e : Ending) (w' : World) : Prop :=
 ∃ b ao n nc bo m mc, e = .returned (.tuple #[.agg #[.bool b, .slice ao n nc, .slice bo m mc], .int .i64 E]) ∧ Rt w' b ao n nc bo m mc T B ∧ Below w.heap.size w w'
def RatPost (T : Int) (B : Nat) (w : World) (e : Ending) (w' : World) : Prop :=
 ∃ b ao n nc bo m mc, e = .returned (.agg #[.bool b, .slice ao n nc, .slice bo m mc]) ∧ Rt w' b ao n nc bo m mc T B ∧ Below w.heap.size w w'
abbrev MakePost (p q : Int) := ResPost (mkT p q) (mkB p q) (mkE p q)
theorem ResPost.stored {w w2 : World} {b : Bool} {ao bo : Option Addr} {n nc m mc B Q : Nat} {T E : Int} {c : Bool} {p q : Option Addr} {k l k' l' : Nat} (h : Rt w2 b ao n nc bo m mc T Q) (z : Box3 w2 B (.bool c) (.slice p k l) (.slice q k' l')) (hb : Below w.heap.size w w2) (hB : w.heap.size ≤ B) :
  ResPost T Q E w (.returned (.tuple #[.agg #[.bool b, .slice ao n nc, .slice bo m mc], .int .i64 E])) (((w2.setCell ⟨B, 0, none⟩ (.bool b)).setCell ⟨B, 1, none⟩ (.slice ao n nc)).setCell ⟨B, 2, none⟩ (.slice bo m mc)) :=
 ⟨b, ao, n, nc, bo, m, mc, rfl, h.box3 z _ _ _, below_set3 hb hB _ _ _⟩
theorem RatPost.stored {w w2 : World} {b : Bool} {ao bo : Option Addr} {n nc m mc B Q : Nat} {T : Int} {c : Bool} {p q : Option Addr} {k l k' l' : Nat} (h : Rt w2 b ao n nc bo m mc T Q) (z : Box3 w2 B (.bool c) (.slice p k l) (.slice q k' l')) (hb : Below w.heap.size w w2) (hB : w.heap.size ≤ B) :
  RatPost T Q w (.returned (.agg #[.bool b, .slice ao n nc, .slice bo m mc])) (((w2.setCell ⟨B, 0, none⟩ (.bool b)).setCell ⟨B, 1, none⟩ (.slice ao n nc)).setCell ⟨B, 2, none⟩ (.slice bo m mc)) :=
 ⟨b, ao, n, nc, bo, m, mc, rfl, h.box3 z _ _ _, below_set3 hb hB _ _ _⟩
end Go.Proofs.YtaepelipkkmeaaaGreat
namespace Go.Proofs.YtaepelipkkmeaaaGreat
open Go.RowKit Num
attribute [local go_sem ↓] Go.wp_at_zero Go.wp_at_succ
theorem canon_right {w : World} {b : Bool} {ao : Option Addr} {n nc v : Nat} {f : Nat → Nat} (hn : n ≤ nc) (hc : nc ≤ 9223372036854775807) (hs : Sl w ao n f) (cf : Canon v n f) (h : 0 < n ∨ b = false) : Right w b ao n nc (sgn b v) := by
 refine ⟨f, hn, hc, hs, by rw [sgn_abs]; exact cf, ?_⟩
 rw [sgn_neg]
 rcases h with h | h
 ·have := cf.ne_zero
  have : 0 < v := by omega
  simp [this]
 ·simp [h]
theorem rNorm_any (b : Bool) (ao : Option Addr) (n nc : Nat) (x : Int) (w : World) (A : Whole w b ao n nc x) :
  Calls Tryz.prog 95 #[.agg #[.bool b, .slice ao n nc]] w (IntPost x w) := by
 obtain ⟨f, A, hx⟩ := A.ex
 have A' := Lib.hid A; have hx' := Lib.hid hx
 clear A hx
 go_enter Tryz.func95, Tryz.ntmps95
 go_wp2_with fail
 refine gen_calls (fun w' => Below w.heap.size w w' ∧ Box w' w.heap.size (.bool b) (.slice ao n nc) ∧ Box w' (w.heap.size + 1) (.bool false) (.slice none 0 0))
  ⟨(((Below.refl _ w).alloc (Nat.le_refl _) _).alloc (by simp <;> omega) _), ((Box.new _ _ _ rfl).alloc _), (Box.new _ _ _ (by simp <;> omega))⟩ ?_
 rintro w0 ⟨hb0, x0, x1⟩
 refine (refNorm_any ao n nc f _ (A'.out.below hb0)).mono ?_
 rintro e w1 ⟨co, cn, cc, c, rfl, h1, h2, h3, h4, hb⟩
 have y0 := x0.later hb; have y1 := x1.later hb
 have hb1 := Lib.hid (below_then hb0 (Nat.le_refl _) hb)
 have h3' := Lib.hid h3; have h4' := Lib.hid h4; have y0' := Lib.hid y0; have y1' := Lib.hid y1
 have p0 := y0.c0; have q1 := y1.c0; have q2 := y1.c1; have q3 := y1.fr 0; have q4 := y1.fr 1
 clear h3 h4 x0 x1 hb hb0 y0 y1
 by_cases h0 : cn = 0
 ·subst h0
  have z := y1'.out.set (.bool false) (.slice none 0 0)
  have e0 := z.c0; have e1 := z.c1
  have hz : x = 0 := by
   rw [← hx'.out, h4'.out.ne_zero.1 rfl]; cases b <;> rfl
  have hz' := Lib.hid hz
  clear z hz
  go_wp2_with fail
  refine bodyPost_ret (v := .agg #[.bool false, .slice none 0 0]) (by simp [results, Tryz.results95, go_sem, e0, e1]) rfl ?_
  rw [hz'.out]
  exact IntPost.stored ⟨fun _ => 0, Nat.le_refl _, by omega, .inl rfl, canon_zero _, rfl⟩ y1'.out hb1.out (by omega)
 ·have z := y1'.out.set (.bool b) (.slice co cn cc)
  have e0 := z.c0; have e1 := z.c1
  clear z
  go_wp2_with fail
  refine bodyPost_ret (v := .agg #[.bool b, .slice co cn cc]) (by simp [results, Tryz.results95, go_sem, e0, e1]) rfl ?_
  rw [← hx'.out]
  exact IntPost.stored (canon_right h1 h2 h3'.out h4'.out (.inl (Nat.pos_of_ne_zero h0))) y1'.out hb1.out (by omega)
theorem rNeg_any (b : Bool) (ao : Option Addr) (n nc : Nat) (x : Int) (w : World) (A : Whole w b ao n nc x) :
  Calls Tryz.prog 159 #[.agg #[.bool b, .slice ao n nc]] w (IntPost (-x) w) := by
 have B : Whole w (!b) ao n nc (-x) := by
  obtain ⟨g, B, hy⟩ := A.ex
  exact ⟨g, B, by rw [sgn_not, hy]⟩
 have B' := Lib.hid B
 clear A B
 go_enter Tryz.func159, Tryz.ntmps159
 go_wp2_with fail
 refine gen_calls (fun w' => Below w.heap.size w w' ∧ Box w' w.heap.size (.bool b) (.slice ao n nc) ∧ Box w' (w.heap.size + 1) (.bool false) (.slice none 0 0))
  ⟨(((Below.refl _ w).alloc (Nat.le_refl _) _).alloc (by simp <;> omega) _), ((Box.new _ _ _ rfl).alloc _), (Box.new _ _ _ (by simp <;> omega))⟩ ?_
 rintro w0 ⟨hb0, x0, x1⟩
 refine (rNorm_any (!b) ao n nc (-x) _ (B'.out.below hb0)).mono ?_
 rintro e w1 ⟨sb, so, sn, sc, rfl, hR, hb⟩
 have z2 := x1.later hb
 have q1 := z2.c0; have q2 := z2.c1; have q3 := z2.fr 0; have q4 := z2.fr 1
 have z3 := z2.set (.bool sb) (.slice so sn sc)
 have e0 := z3.c0; have e1 := z3.c1
 have hR' := Lib.hid hR; have z2' := Lib.hid z2; have hb1' := Lib.hid (below_then hb0 (Nat.le_refl _) hb)
 clear hR z2 z3 hb hb0 x0 x1
 go_wp2_with fail
 refine bodyPost_ret (v := .agg #[.bool sb, .slice so sn sc]) (by simp [results, Tryz.results159, go_sem, e0, e1]) rfl ?_
 exact IntPost.stored hR'.out z2'.out hb1'.out (by omega)
theorem rSign_any (b : Bool) (ao : Option Addr) (n nc : Nat) (x : Int) (w : World) (A : Whole w b ao n nc x) :
  Calls Tryz.prog 118 #[.agg #[.bool b, .slice ao n nc]] w (Says (.int .i64 x.sign) w) := by
 have A' := Lib.hid A
 clear A
 go_enter Tryz.func118, Tryz.ntmps118
 go_wp2_with fail
 refine gen_calls (fun w' => Below w.heap.size w w' ∧ Box w' w.heap.size (.bool b) (.slice ao n nc))
  ⟨((Below.refl _ w).alloc (Nat.le_refl _) _), (Box.new _ _ _ rfl)⟩ ?_
 rintro w0 ⟨hb0, x0⟩
 refine (rNorm_any b ao n nc x _ (A'.out.below hb0)).mono ?_
 rintro e w1 ⟨sb, so, sn, sc, rfl, hR, hb⟩
 obtain ⟨f, r1, r2, r3, r4, r5⟩ := hR.ex
 have hb1 := Lib.hid (below_then hb0 (Nat.le_refl _) hb)
 have hz := Lib.hid r4.ne_zero; have hs := Lib.hid r5
 clear hR r1 r2 r3 r4 r5 hb hb0 x0
 by_cases h0 : sn = 0
 ·subst h0
  have e : x = 0 := by have := hz.out; omega
  subst e
  go_wp2_with fail
  go_ret
  exact ⟨rfl, hb1.out.alloc hb1.out.size _⟩
 ·have hx0 : x.natAbs ≠ 0 := fun e => h0 (hz.out.2 e)
  by_cases hn : x < 0
  ·have : sb = true := by rw [hs.out]; simp [hn]
   subst this
   go_wp2_with fail
   go_ret
   exact ⟨ret_num (Int.sign_eq_neg_one_of_neg hn).symm, hb1.out.alloc hb1.out.size _⟩
  ·have : sb = false := by rw [hs.out]; simp [hn]
   subst this
   go_wp2_with fail
   go_ret
   exact ⟨ret_num (Int.sign_eq_one_of_pos (show 0 < x by omega)).symm, hb1.out.alloc hb1.out.size _⟩
end Go.Proofs.YtaepelipkkmeaaaGreat
namespace Go.Proofs.YtaepelipkkmeaaaGreat.Num
theorem twice_step {S A c c' s x P b : Nat} (h : S + c * P = 2 * A + b) (e : s + 4294967296 * c' = 2 * x + c) : S + s * P + c' * (4294967296 * P) = 2 * (A + x * P) + b := by
 have e' := congrArg (· * P) e
 simp only [Nat.add_mul] at e'
 have h1 : c' * (4294967296 * P) = 4294967296 * c' * P := by rw [Nat.mul_left_comm, Nat.mul_assoc]
 have h2 : 2 * (A + x * P) = 2 * A + 2 * x * P := by rw [Nat.mul_add, Nat.mul_assoc]
 omega
theorem twice_end {S A c b n : Nat} (h : S + c * pw (n + 1) = 2 * A + b) (hA : A < pw n) (hb : b ≤ 1) : S = 2 * A + b := by
 have hp := pw_pos n
 rw [pw_succ] at h
 by_cases h0 : c = 0
 ·subst h0; omega
 ·have : 1 * (4294967296 * pw n) ≤ c * (4294967296 * pw n) := Nat.mul_le_mul_right _ (by omega)
  omega
theorem sub_end {S c A B P : Nat} (h : S + B = A + c * P) (hS : S < P) (hBA : B ≤ A) : S = A - B := by
 by_cases h0 : c = 0
 ·subst h0; omega
 ·have : 1 * P ≤ c * P := Nat.mul_le_mul_right _ (by omega)
  omega
theorem pw_two (n : Nat) : pw n = 2 ^ (32 * n) := by
 induction n with
 | zero => rfl
 | succ n ih =>
  rw [pw_succ, ih, show 32 * (n + 1) = 32 * n + 32 by omega, Nat.pow_add, Nat.mul_comm]
def bitAt (f : Nat → Nat) (n i : Nat) : Nat := at0 f n (i / 32) / 2 ^ (i % 32) % 2
theorem bitAt_le (f : Nat → Nat) (n i : Nat) : bitAt f n i ≤ 1 := by unfold bitAt; omega
theorem bit_low {a R s : Nat} (hs : s < 32) : (a + 4294967296 * R) / 2 ^ s % 2 = a / 2 ^ s % 2 := by
 have e : (4294967296 : Nat) = 2 ^ s * (2 * 2 ^ (31 - s)) := by
  have e1 : (2 : Nat) * 2 ^ (31 - s) = 2 ^ (32 - s) := by
   rw [Nat.mul_comm, ← Nat.pow_succ]
   congr 1
   omega
  rw [e1, ← Nat.pow_add]
  have : s + (32 - s) = 32 := by omega
  rw [this]
 have e2 : 4294967296 * R = 2 ^ s * (2 * (2 ^ (31 - s) * R)) := by
  rw [e]
  simp only [Nat.mul_assoc]
 rw [e2, Nat.add_mul_div_left _ _ (Nat.pow_pos (by decide))]
 omega
theorem val_bit {f : Nat → Nat} {n : Nat} (lf : Lim f n) (i : Nat) : val f n / 2 ^ i % 2 = bitAt f n i := by
 unfold bitAt
 have hi : i = 32 * (i / 32) + i % 32 := by omega
 have hp : (2 : Nat) ^ i = pw (i / 32) * 2 ^ (i % 32) := by
  rw [pw_two, ← Nat.pow_add, ← hi]
 rw [hp, ← Nat.div_div_eq_div_mul]
 generalize hm : i / 32 = m
 have hs : i % 32 < 32 := Nat.mod_lt _ (by decide)
 generalize i % 32 = s at hs
 by_cases h : m < n
 ·rw [at0_in h]
  obtain ⟨d, rfl⟩ := Nat.le.dest (show m + 1 ≤ n by omega)
  have e : val f (m + 1 + d) = val f m + pw m * (f m + 4294967296 * val (fun j => f (m + 1 + j)) d) := by
   rw [val_add, val_succ, pw_succ, Nat.mul_add, Nat.mul_comm (f m), ← Nat.add_assoc]
   congr 1
   rw [Nat.mul_left_comm, Nat.mul_assoc, Nat.mul_left_comm]
  rw [e, Nat.add_mul_div_left _ _ (pw_pos m), Nat.div_eq_of_lt (val_lt (lf.mono (by omega))), Nat.zero_add]
  exact bit_low hs
 ·rw [at0_out (by omega)]
  have : val f n < pw m := Nat.lt_of_lt_of_le (val_lt lf) (pw_le (by omega))
  rw [Nat.div_eq_of_lt this]
theorem val_top {f : Nat → Nat} {n : Nat} (lf : Lim f n) (j : Nat) : val f n / 2 ^ j = 2 * (val f n / 2 ^ (j + 1)) + bitAt f n j := by
 rw [← val_bit lf j]
 have e : val f n / 2 ^ (j + 1) = val f n / 2 ^ j / 2 := by rw [Nat.pow_succ, Nat.div_div_eq_div_mul]
 rw [e]
 omega
theorem val_none {f : Nat → Nat} {n : Nat} (lf : Lim f n) : val f n / 2 ^ (32 * n) = 0 := by
 rw [← pw_two]; exact Nat.div_eq_of_lt (val_lt lf)
theorem div_bit {Z Y b : Nat} (hY : 0 < Y) (hb : b ≤ 1) :
  (Y ≤ 2 * (Z % Y) + b → (2 * Z + b) / Y = 2 * (Z / Y) + 1 ∧ (2 * Z + b) % Y = 2 * (Z % Y) + b - Y) ∧
  (2 * (Z % Y) + b < Y → (2 * Z + b) / Y = 2 * (Z / Y) ∧ (2 * Z + b) % Y = 2 * (Z % Y) + b) := by
 have e := Nat.div_add_mod Z Y
 have hr := Nat.mod_lt Z hY
 generalize hq : Z / Y = q at *
 generalize hm : Z % Y = r at *
 constructor
 ·intro h
  have e1 : Y * (2 * q + 1) = 2 * (Y * q) + Y := by rw [Nat.mul_add, Nat.mul_left_comm]; omega
  exact (Nat.div_mod_unique hY).2 ⟨by omega, by omega⟩
 ·intro h
  have e1 : Y * (2 * q) = 2 * (Y * q) := Nat.mul_left_comm _ _ _
  exact (Nat.div_mod_unique hY).2 ⟨by omega, by omega⟩
theorem gcd_step {x y k T : Nat} (hyx : y < x) (hy : 0 < y) (h : x * y * 2 ^ k ≤ T) : x % y < y ∧ y * (x % y) * 2 ^ (k + 1) ≤ T := by
 have hm := Nat.mod_lt x hy
 refine ⟨hm, ?_⟩
 have e := Nat.div_add_mod x y
 have q1 : 1 ≤ x / y := (Nat.le_div_iff_mul_le hy).2 (by omega)
 have q2 : y * 1 ≤ y * (x / y) := Nat.mul_le_mul_left _ q1
 have h2 : 2 * (x % y) ≤ x := by omega
 have h3 : y * (x % y) * 2 ^ (k + 1) = y * (2 * (x % y)) * 2 ^ k := by
  rw [Nat.pow_succ, Nat.mul_comm (2 ^ k) 2, ← Nat.mul_assoc, Nat.mul_assoc y, Nat.mul_comm (x % y) 2]
 rw [h3]
 refine Nat.le_trans (Nat.mul_le_mul_right _ (Nat.mul_le_mul_left _ h2)) ?_
 rw [Nat.mul_comm y x]; exact h
theorem gcd_start {x y n m : Nat} (hx : x ≤ pw n) (hy : y ≤ pw n) (hm : 64 * n + 1 ≤ m) : x * y * 2 ^ 1 ≤ 2 ^ m := by
 have a : x * y ≤ pw n * pw n := Nat.mul_le_mul hx hy
 rw [pw_two, ← Nat.pow_add] at a
 have b : x * y * 2 ^ 1 ≤ 2 ^ (32 * n + 32 * n) * 2 ^ 1 := Nat.mul_le_mul_right _ a
 rw [← Nat.pow_add] at b
 exact Nat.le_trans b (Nat.pow_le_pow_right (by decide) (by omega))
theorem gcd_few {x y k m : Nat} (hyx : y < x) (hy : 0 < y) (h : x * y * 2 ^ k ≤ 2 ^ m) : k ≤ m := by
 have h1 : 1 ≤ x * y := Nat.mul_pos (by omega) hy
 have h2 : 1 * 2 ^ k ≤ x * y * 2 ^ k := Nat.mul_le_mul_right _ h1
 have h3 : 2 ^ k ≤ 2 ^ m := by omega
 exact (Nat.pow_le_pow_iff_right (by decide)).1 h3
end Go.Proofs.YtaepelipkkmeaaaGreat.Num
namespace Go.Proofs.YtaepelipkkmeaaaGreat
open Go.RowKit Num
set_option maxRecDepth 20000
theorem longer_any (ao bo : Option Addr) (n nc m mc : Nat) (w : World) :
  Calls Tryz.prog 167 #[.slice ao n nc, .slice bo m mc] w fun e w' => e = .returned (.int .i64 (max n m : Nat)) ∧ w = w' := by
 by_cases h : m < n
 ·rw [Nat.max_eq_left (by omega)]
  go_enter Tryz.func167, Tryz.ntmps167
  go_wp2_with fail
  go_ret
  exact ⟨rfl, rfl⟩
 ·rw [Nat.max_eq_right (by omega)]
  go_enter Tryz.func167, Tryz.ntmps167
  go_wp2_with fail
  go_ret
  exact ⟨rfl, rfl⟩
theorem refLimb_any (ao : Option Addr) (n cap : Nat) (i : Int) (f : Nat → Nat) (w : World) (h0 : 0 ≤ i) (hs : Sl w ao n f) (lf : Lim f n) :
  Calls Tryz.prog 168 #[.slice ao n cap, .int .i64 i] w fun e w' => e = .returned (.int .u64 (at0 f n i.toNat)) ∧ w = w' := by
 obtain ⟨i, rfl⟩ := Int.eq_ofNat_of_zero_le h0
 rw [Int.toNat_natCast]
 by_cases h : i < n
 ·rw [at0_in h]
  rcases hs with rfl | ⟨b, off, rfl, hc⟩
  ·omega
  ·have hcell := hc i h
   have hl := lf i h
   clear hc
   go_enter Tryz.func168, Tryz.ntmps168
   go_wp2
   go_ret
   exact ⟨rfl, rfl⟩
 ·rw [at0_out (by omega)]
  clear hs
  go_enter Tryz.func168, Tryz.ntmps168
  go_wp2
  go_ret
  exact ⟨rfl, rfl⟩
theorem refCmp_any (ao bo : Option Addr) (n nc m mc : Nat) (f g : Nat → Nat) (w : World) (A : Arg w ao n nc f) (B : Arg w bo m mc g) :
  Calls Tryz.prog 166 #[.slice ao n nc, .slice bo m mc] w fun e w' => e = .returned (.int .i64 (cmpI (val f n) (val g m))) ∧ w = w' := by
 obtain ⟨hn, hnc, hnb, hf, lf⟩ := A
 obtain ⟨hm, hmc, hmb, hg, lg⟩ := B
 obtain ⟨N, hN0⟩ : ∃ N, N = max n m := ⟨_, rfl⟩
 have hnN : n ≤ N := by omega
 have hmN : m ≤ N := by omega
 have hNb : N ≤ 1000000 := by omega
 have hN := Lib.hid hN0
 have hlf := Lib.hid lf; have hlg := Lib.hid lg; have hsf := Lib.hid hf; have hsg := Lib.hid hg
 clear hN0 hf hg lf lg
 go_enter Tryz.func166, Tryz.ntmps166
 go_wp2_with fail
 refine (longer_any ao bo n nc m mc w).mono ?_
 rw [← hN.out]
 rintro e w' ⟨rfl, rfl⟩
 go_wp2_with fail
 go_loop [5] (fun i => ∃ j : Nat, j ≤ N ∧ i = .int .i64 ((j : Int) - 1) ∧ (∀ t, j ≤ t → t < N → at0 f n t = at0 g m t)) (fun i => (intOf i + 1).toNat)
 case atStart => exact ⟨N, Nat.le_refl _, rfl, fun t h1 h2 => by omega⟩
 case round =>
  obtain ⟨j, hj, rfl, hsame0⟩ := hrel
  have hsame := Lib.hid hsame0
  clear hsame0
  by_cases h0 : j = 0
  ·subst h0
   go_wp2_with fail
   go_ret
   refine ⟨ret_num ?_, rfl⟩
   rw [cmpI_eq]
   rw [← val_at0_ge hnN, ← val_at0_ge hmN, val_congr fun t ht => hsame.out t (Nat.zero_le _) ht]
  ·have p1 : 0 ≤ (j : Int) - 1 := by omega
   have ej : ((j : Int) - 1).toNat = j - 1 := by omega
   have ej' := Lib.hid ej
   clear ej
   go_wp2_with fail
   refine (refLimb_any ao n nc _ f w (by omega) hsf.out hlf.out).mono ?_
   rw [ej'.out]
   rintro e w' ⟨rfl, rfl⟩
   go_wp2_with fail
   refine (refLimb_any bo m mc _ g w (by omega) hsg.out hlg.out).mono ?_
   rw [ej'.out]
   rintro e w' ⟨rfl, rfl⟩
   by_cases h1 : at0 f n (j - 1) < at0 g m (j - 1)
   ·go_wp2_with fail
    go_ret
    refine ⟨ret_num ?_, rfl⟩
    rw [cmpI_lt]
    rw [← val_at0_ge hnN, ← val_at0_ge hmN]
    exact Int.ofNat_lt.2 (val_lt_of_top (at0_lim hlf.out N) (j - 1) (by omega) (fun t a b => hsame.out t (by omega) b) h1)
   ·go_wp2_with fail
    refine (refLimb_any ao n nc _ f w (by omega) hsf.out hlf.out).mono ?_
    rw [ej'.out]
    rintro e w' ⟨rfl, rfl⟩
    go_wp2_with fail
    refine (refLimb_any bo m mc _ g w (by omega) hsg.out hlg.out).mono ?_
    rw [ej'.out]
    rintro e w' ⟨rfl, rfl⟩
    by_cases h2 : at0 g m (j - 1) < at0 f n (j - 1)
    ·go_wp2_with fail
     go_ret
     refine ⟨ret_num ?_, rfl⟩
     rw [cmpI_gt]
     rw [← val_at0_ge hnN, ← val_at0_ge hmN]
     exact Int.ofNat_lt.2 (val_lt_of_top (at0_lim hlg.out N) (j - 1) (by omega) (fun t a b => (hsame.out t (by omega) b).symm) h2)
    ·go_wp2_with fail
     go_round
     case rel =>
      refine ⟨j - 1, by omega, int_eq (by omega), fun t a b => ?_⟩
      by_cases ht : t = j - 1
      ·rw [ht]; omega
      ·exact hsame.out t (by omega) b
     case measure => simp [intOf]; omega
theorem cells_snoc (F : Nat → Nat) (j x : Nat) (v : Int) (h : v = (x : Int)) : limbCells F j ++ [Value.int .u32 v] = limbCells (put F j x) (j + 1) := by
 subst h
 unfold limbCells
 rw [List.range_succ, List.map_append]
 congr 1
 ·exact List.map_congr_left fun t ht => by rw [put_ne (by have := List.mem_range.1 ht; omega)]
 ·simp [put_at]
theorem put_snoc_lim {F : Nat → Nat} {j x : Nat} (h : Lim F j) (hx : x < 4294967296) : Lim (put F j x) (j + 1) := by
 intro t ht
 by_cases c : t = j
 ·rw [c, put_at]; exact hx
 ·rw [put_ne c]; exact h t (by omega)
theorem one_at (w : World) (v : Value) (t : TypeId) : ∀ j u, [v][j]? = some u → (w.alloc (.cells #[v] t)).cell? ((⟨w.heap.size, 0, none⟩ : Addr).add j) = some u := by
 intro j u h
 match j, h with
 | 0, h =>
  simp at h
  subst h
  simp [Addr.add]
theorem wpList_append_limb {P : Program} {w0 : World} {ops : Array Oper} {rest : List Oper} {o : Oper} {a : Act} {Q : Exit → Act → World → Prop} (hgd : o.guard = none) (s x : Operand) (t : TypeId)
  (ho : o.op = .call { callee := .builtin .append, args := #[s, x], argTypes := #[t, t] }) (base : Nat) (e : TypeId) (i : TypeInfo) (ht : P.underlying t = some (.slice e)) (hi : P.info? e = some i)
  (hz : i.zero = some (Value.int .u32 0)) (h1 : i.size = 1) (h4 : i.bytes = 4) (v : Value) (n : Nat) (F : Nat → Nat) (tt : TypeId) (z : Int) (y : Nat) (hs : a.eval s = v) (hx : a.eval x = .slice (some ⟨w0.heap.size, 0, none⟩) 1 1)
  (hown : w0.ownsRow base e 1 v n (limbCells F n)) (hzy : z = (y : Int)) (hn : n ≤ 1000000) (hb : base ≤ w0.heap.size)
  (h : ∀ v' w', w'.ownsRow base e 1 v' (n + 1) (limbCells (put F n y) (n + 1)) → Below base w0 w' → wpList P ops Q rest (a.put o.dst v') w') :
  wpList P ops Q (o :: rest) a (w0.alloc (.cells #[.int .u32 z] tt)) := by
 refine wpList_append_own _ hgd s x t ho base e i (.int .u32 0) 1 4 ht hi hz h1 h4 rfl (by decide) v n (limbCells F n) hs (hown.alloc _) ⟨w0.heap.size, 0, none⟩ 1 1 [.int .u32 z] hx rfl (one_at w0 _ tt) ?_ (by unfold maxLen; omega) (by omega) (by simp; omega) ?_
 ·intro u hu
  simp at hu
  subst hu
  rfl
 ·intro v' w' hown' hgr _
  rw [cells_snoc F n y z hzy] at hown'
  refine h v' w' hown' ?_
  exact ((Below.refl base w0).alloc hb _).grown hgr (by simp; omega) (fun k hk => (hown.lt k hk).1)
theorem refAdd_any (ao bo : Option Addr) (n nc m mc : Nat) (f g : Nat → Nat) (w : World) (A : Arg w ao n nc f) (B : Arg w bo m mc g) (hsum : max n m < 1000000) :
  Calls Tryz.prog 141 #[.slice ao n nc, .slice bo m mc] w (NumPost (val f n + val g m) w) := by
 obtain ⟨i32, hi, hz0, hz1, hz2⟩ := info_parts info32
 obtain ⟨hn, hnc, hnb, hf, lf⟩ := A
 obtain ⟨hm, hmc, hmb, hg, lg⟩ := B
 obtain ⟨N, hN0⟩ : ∃ N, N = max n m := ⟨_, rfl⟩
 have hnN : n ≤ N := by omega
 have hmN : m ≤ N := by omega
 have hNb : N < 1000000 := by omega
 have hN := Lib.hid hN0
 have hlf := Lib.hid lf; have hlg := Lib.hid lg; have hsf := Lib.hid hf; have hsg := Lib.hid hg
 clear hN0 hf hg lf lg hsum
 go_enter Tryz.func141, Tryz.ntmps141
 go_wp2_with fail
 go_loopw [5, 6, 7] (fun v c i wr => ∃ (j : Nat) (F : Nat → Nat) (cn : Nat), j ≤ N + 1 ∧ i = .int .i64 j ∧ c = .int .u64 cn ∧ cn ≤ 1 ∧ wr.ownsRow w.heap.size 104 1 v j (limbCells F j) ∧ Lim F j ∧
   val F j + cn * pw j = val (at0 f n) j + val (at0 g m) j ∧ Below w.heap.size w wr) (fun _ _ i _ => N + 1 - (intOf i).toNat)
 case atStart => exact ⟨0, fun _ => 0, 0, Nat.zero_le _, rfl, rfl, by omega, World.ownsRow_nil _ _ _ _, fun j h => by omega, rfl, Below.refl _ _⟩
 case round =>
  obtain ⟨j, F, cn, hj, rfl, rfl, hc, hown0, hlim0, hval0, hbel0⟩ := hrel
  have hown := Lib.hid hown0; have hlim := Lib.hid hlim0; have hval := Lib.hid hval0; have hbel := Lib.hid hbel0
  clear hown0 hlim0 hval0 hbel0
  have bf := at0_lt hlf.out j
  have bg := at0_lt hlg.out j
  go_wp2_with fail
  refine (longer_any ao bo n nc m mc _).mono ?_
  rw [← hN.out]
  rintro e w' ⟨rfl, rfl⟩
  by_cases hlt : j < N + 1
  ·go_wp2_with fail
   refine (refLimb_any ao n nc j f wr (by omega) (hsf.out.below hbel.out) hlf.out).mono ?_
   rw [Int.toNat_natCast]
   rintro e w' ⟨rfl, rfl⟩
   go_wp2_with fail
   refine (refLimb_any bo m mc j g wr (by omega) (hsg.out.below hbel.out) hlg.out).mono ?_
   rw [Int.toNat_natCast]
   rintro e w' ⟨rfl, rfl⟩
   go_wp2_with (at_builtin; refine wpList_append_limb rfl (.tmp 25) (.tmp 29) 22 rfl w.heap.size 104 i32 Tryz.underlying22 hi hz0 hz1 hz2 _ j F _ _ ((at0 f n j + at0 g m j + cn) % 4294967296) rfl rfl hown.out (by omega) (by omega) hbel.out.size ?_)
   intro v' w1 hown1 hb1
   have hown' := Lib.hid hown1; have hbel' := Lib.hid (hbel.out.trans hb1)
   clear hown1 hb1
   go_wp2_with fail
   go_roundw
   case rel =>
    refine ⟨j + 1, put F j ((at0 f n j + at0 g m j + cn) % 4294967296), (at0 f n j + at0 g m j + cn) / 4294967296, by omega, by go_num, int_eq (by omega), by omega, hown'.out, ?_, ?_, hbel'.out⟩
    ·exact put_snoc_lim hlim.out (Nat.mod_lt _ (by decide))
    ·rw [val_put_succ, val_succ, val_succ, pw_succ]
     exact sum_step hval.out (by omega)
   case measure => simp [intOf]; omega
  ·obtain rfl : j = N + 1 := by omega
   obtain ⟨ao', cap', rfl, g1, g2, g3⟩ := owns_slice hown.out
   have A' := Lib.hid (show Arg wr ao' (N + 1) cap' F from ⟨g1, g2, by omega, g3, hlim.out⟩)
   have hown' := Lib.hid hown.out
   clear g3
   go_wp2_with fail
   refine (refNorm_any ao' (N + 1) cap' F wr A'.out).mono ?_
   rintro e w2 ⟨bo', p, pc, h, rfl, hp, hpc, hsp, hcp, hb⟩
   have hsp' := Lib.hid hsp; have hcp' := Lib.hid hcp; have hbel' := Lib.hid (hbel.out.trans (hb.mono hbel.out.size))
   clear hsp hcp hb
   go_wp2_with fail
   go_ret
   refine ⟨bo', p, pc, h, rfl, hp, hpc, hsp'.out, ?_, hbel'.out⟩
   have e1 := hval.out
   rw [val_at0_ge (by omega), val_at0_ge (by omega)] at e1
   have a1 : val f n < pw N := Nat.lt_of_lt_of_le (val_lt hlf.out) (pw_le hnN)
   have a2 : val g m < pw N := Nat.lt_of_lt_of_le (val_lt hlg.out) (pw_le hmN)
   rw [← (sum_end e1 a1 a2).1]
   exact hcp'.out
end Go.Proofs.YtaepelipkkmeaaaGreat
namespace Go.Proofs.YtaepelipkkmeaaaGreat
open Go.RowKit Num
def SubPost (x y : Nat) (w : World) (e : Ending) (w' : World) : Prop :=
 Below w.heap.size w w' ∧ ((x < y ∧ e = .returned (.tuple #[.slice none 0 0, .bool false])) ∨
  (y ≤ x ∧ ∃ ao n cap f, e = .returned (.tuple #[.slice ao n cap, .bool true]) ∧ n ≤ cap ∧ cap ≤ 9223372036854775807 ∧ Sl w' ao n f ∧ Canon (x - y) n f))
theorem sub_any (ao bo : Option Addr) (n nc m mc : Nat) (f g : Nat → Nat) (w : World) (A : Arg w ao n nc f) (B : Arg w bo m mc g) :
  Calls Tryz.prog 156 #[.slice ao n nc, .slice bo m mc] w (SubPost (val f n) (val g m) w) := by
 obtain ⟨hn, hnc, hnb, hf, lf⟩ := A
 obtain ⟨hm, hmc, hmb, hg, lg⟩ := B
 obtain ⟨i32, hi, hz0, hz1, hz2⟩ := info_parts info32
 go_enter Tryz.func156, Tryz.ntmps156
 go_wp2_with fail
 refine (trim_any ao n nc f w hn (by omega) hf).mono ?_
 rintro e w' ⟨k, hk, rfl, htf0, hvf0, rfl⟩
 have htf := Lib.hid htf0; have hvf := Lib.hid hvf0; clear htf0 hvf0
 go_wp2_with fail
 refine (trim_any bo m mc g w hm (by omega) hg).mono ?_
 rintro e w' ⟨l, hl, rfl, htg0, hvg0, rfl⟩
 have htg := Lib.hid htg0; have hvg := Lib.hid hvg0; clear htg0 hvg0
 go_wp2_with (at_make; refine wpList_make_full _ rfl (.tmp 14) (.tmp 14) 22 rfl w.heap.size 104 i32 (.int .u32 0) 1 Tryz.underlying22 hi hz0 hz1 .i64 .i64 _ _ k rfl rfl rfl rfl (by rw [hz2]; omega) (by unfold maxLen; omega) (Nat.le_refl _) ?_)
 intro w1 hown hgrow
 have hblk0 := Lib.hid (Blk.of_made hown)
 have hgr0 := Lib.hid (grown_any hgrow (some w.heap.size))
 clear hown hgrow
 have hsf := Lib.hid (hf.mono hk); have hsg := Lib.hid (hg.mono hl)
 have hlf := Lib.hid (lf.mono hk); have hlg := Lib.hid (lg.mono hl)
 clear hf hg lf lg
 go_wp2_with fail
 go_loopw [7, 18] (fun cv i wr => ∃ (j : Nat) (F : Nat → Nat) (c : Nat), j ≤ k ∧ i = .int .i64 j ∧ cv = .int .u32 c ∧ c ≤ 1 ∧ Blk wr w.heap.size k F ∧ Lim F k ∧ val F j + val (at0 g l) j = val f j + c * pw j ∧ w.grownBy wr (some w.heap.size))
  (fun _ i _ => k - (intOf i).toNat)
 case atStart => exact ⟨0, fun _ => 0, 0, Nat.zero_le _, rfl, rfl, by omega, hblk0.out, fun j _ => (by decide : 0 < 4294967296), rfl, hgr0.out⟩
 case round =>
  obtain ⟨j, F, c, hj, rfl, rfl, hc, hblk1, hlim1, hval1, hgr1⟩ := hrel
  have hlim := Lib.hid hlim1; have hval := Lib.hid hval1; have hgr := Lib.hid hgr1; have hblk := Lib.hid hblk1; clear hlim1 hval1 hgr1 hblk1
  have hsfr := hsf.out.grown hsf.out.off hgr.out
  have hsgr := Lib.hid (hsg.out.grown hsg.out.off hgr.out)
  have bg := at0_lt hlg.out j
  by_cases hlt : j < k
  ·have hcell := hblk.out.cell j hlt
   have hfree := hblk.out.free j
   have bf := hlf.out j hlt
   rcases hsfr with h | ⟨b, off, rfl, hcf⟩
   ·omega
   have hcf' := hcf j hlt
   clear hcf
   go_wp2_with fail
   go_region_with (first
    | (go_at_call 178; refine (limb_any bo l mc j g _ (by omega) (by exact hsgr.out)).mono ?_; rintro e w' ⟨rfl, rfl⟩; rw [Int.toNat_natCast])
    | (go_at_call 179; refine (sub32_nat (f j) (at0 g l j) c _ bf bg hc).mono ?_; rintro e w' ⟨rfl, rfl⟩))
   all_goals
    go_wp2_with fail
    go_roundw
    case rel =>
     obtain ⟨q1, q2, q3⟩ := sub_eq bf bg hc
     refine ⟨j + 1, put F j (subD (f j) (at0 g l j) c), subC (f j) (at0 g l j) c, by omega, by go_num, rfl, q3, ?_, put_lim hlim.out q2, ?_, ?_⟩
     ·first | exact (hblk.out.set j hlt _ _ rfl).drew | exact hblk.out.set j hlt _ _ rfl | exact (hblk.out.drew).set j hlt _ _ rfl
     ·rw [val_put_succ, val_succ, val_succ, pw_succ]
      exact dif_step hval.out q1
     ·first | exact grown_drew (grown_setCell hgr.out _ _) | exact grown_setCell hgr.out _ _ | exact grown_setCell (grown_drew hgr.out) _ _
    case measure => simp [intOf]; omega
  ·obtain rfl : j = k := by omega
   clear hsfr
   have hsl := Sl.of_blk0 hblk.out j (Nat.le_refl _)
   have lF := val_lt hlim.out
   have e1 := hval.out
   have hbel := Lib.hid (grown_below hgr.out (Nat.le_refl _) (Nat.le_refl _))
   by_cases h1 : j < l
   ·have hlt0 : val f n < val g m := by
     rw [← hvf.out, ← hvg.out]; exact val_lt_of_len hlf.out htg.out h1
    have hlt1 := Lib.hid hlt0
    clear e1 lF hlt0
    go_wp2_with fail
    go_ret2
    exact ⟨hbel.out, .inl ⟨hlt1.out, rfl⟩⟩
   ·rw [val_at0_ge (by omega), hvf.out, hvg.out] at e1
    by_cases h2 : c = 0
    ·have e2 := (dif_end e1 lF hc).1 h2
     have e3 := Lib.hid e2
     clear e1 lF e2
     subst h2
     go_wp2_with fail
     refine (trim_any (some ⟨w.heap.size, 0, none⟩) j j F wr (Nat.le_refl _) (by omega) hsl).mono ?_
     rintro e w' ⟨q, hq, rfl, htq0, hvq0, rfl⟩
     have htq := Lib.hid htq0; have hvq := Lib.hid hvq0; clear htq0 hvq0
     go_wp2_with fail
     go_ret2
     exact ⟨hbel.out, .inr ⟨e3.out.1, _, q, j, F, rfl, hq, by omega, hsl.mono hq, hlim.out.mono hq, htq.out, hvq.out.trans e3.out.2⟩⟩
    ·have e2 := Lib.hid ((dif_end e1 lF hc).2 h2)
     have hb : ((c : Int) != 0) = true := by rw [bne_iff_ne]; omega
     clear e1 lF
     go_wp2_with fail
     go_ret2
     exact ⟨hbel.out, .inl ⟨e2.out, rfl⟩⟩
end Go.Proofs.YtaepelipkkmeaaaGreat
namespace Go.Proofs.YtaepelipkkmeaaaGreat
open Go.RowKit Num
set_option maxRecDepth 20000
theorem refSub_any (ao bo : Option Addr) (n nc m mc : Nat) (f g : Nat → Nat) (w : World) (A : Arg w ao n nc f) (B : Arg w bo m mc g) :
  Calls Tryz.prog 144 #[.slice ao n nc, .slice bo m mc] w (SubPost (val f n) (val g m) w) := by
 obtain ⟨i32, hi, hz0, hz1, hz2⟩ := info_parts info32
 have hA := Lib.hid A; have hB := Lib.hid B
 obtain ⟨hn, hnc, hnb, hf, lf⟩ := A
 obtain ⟨hm, hmc, hmb, hg, lg⟩ := B
 obtain ⟨N, hN0⟩ : ∃ N, N = max n m := ⟨_, rfl⟩
 have hnN : n ≤ N := by omega
 have hmN : m ≤ N := by omega
 have hNb : N ≤ 1000000 := by omega
 have hN := Lib.hid hN0
 have hlf := Lib.hid lf; have hlg := Lib.hid lg; have hsf := Lib.hid hf; have hsg := Lib.hid hg
 clear hN0 hf hg lf lg
 go_enter Tryz.func144, Tryz.ntmps144
 go_wp2_with fail
 refine (refCmp_any ao bo n nc m mc f g w hA.out hB.out).mono ?_
 by_cases hlt0 : val f n < val g m
 ·rw [cmpI_lt (Int.ofNat_lt.2 hlt0)]
  have hlt := Lib.hid hlt0
  clear hlt0
  rintro e w' ⟨rfl, rfl⟩
  go_wp2_with fail
  go_ret2
  exact ⟨Below.refl _ _, .inl ⟨hlt.out, rfl⟩⟩
 have hge := Lib.hid (Nat.le_of_not_lt hlt0)
 have hcm : 0 ≤ cmpI (val f n) (val g m) := by
  unfold cmpI
  rw [if_neg (by omega)]
  split <;> decide
 clear hlt0
 generalize cmpI (val f n : Int) (val g m : Int) = cm at hcm ⊢
 rintro e w' ⟨rfl, rfl⟩
 go_wp2_with fail
 go_loopw [6, 7, 8] (fun v c i wr => ∃ (j : Nat) (F : Nat → Nat) (cn : Nat), j ≤ N ∧ i = .int .i64 j ∧ c = .int .u64 cn ∧ cn ≤ 1 ∧ wr.ownsRow w.heap.size 104 1 v j (limbCells F j) ∧ Lim F j ∧
   val F j + val (at0 g m) j = val (at0 f n) j + cn * pw j ∧ Below w.heap.size w wr) (fun _ _ i _ => N - (intOf i).toNat)
 case atStart => exact ⟨0, fun _ => 0, 0, Nat.zero_le _, rfl, rfl, by omega, World.ownsRow_nil _ _ _ _, fun j h => by omega, rfl, Below.refl _ _⟩
 case round =>
  obtain ⟨j, F, cn, hj, rfl, rfl, hc, hown0, hlim0, hval0, hbel0⟩ := hrel
  have hown := Lib.hid hown0; have hlim := Lib.hid hlim0; have hval := Lib.hid hval0; have hbel := Lib.hid hbel0
  clear hown0 hlim0 hval0 hbel0
  have bf := at0_lt hlf.out j
  have bg := at0_lt hlg.out j
  go_wp2_with fail
  refine (longer_any ao bo n nc m mc _).mono ?_
  rw [← hN.out]
  rintro e w' ⟨rfl, rfl⟩
  by_cases hlt : j < N
  ·go_wp2_with fail
   refine (refLimb_any ao n nc j f wr (by omega) (hsf.out.below hbel.out) hlf.out).mono ?_
   rw [Int.toNat_natCast]
   rintro e w' ⟨rfl, rfl⟩
   go_wp2_with fail
   refine (refLimb_any bo m mc j g wr (by omega) (hsg.out.below hbel.out) hlg.out).mono ?_
   rw [Int.toNat_natCast]
   rintro e w' ⟨rfl, rfl⟩
   go_wp2_with (at_builtin; refine wpList_append_limb rfl (.tmp 31) (.tmp 35) 22 rfl w.heap.size 104 i32 Tryz.underlying22 hi hz0 hz1 hz2 _ j F _ _ ((4294967296 + at0 f n j - at0 g m j - cn) % 4294967296) rfl rfl hown.out (by omega) (by omega) hbel.out.size ?_)
   intro v' w1 hown1 hb1
   have hown' := Lib.hid hown1; have hbel' := Lib.hid (hbel.out.trans hb1)
   clear hown1 hb1
   go_wp2_with fail
   go_roundw
   case rel =>
    refine ⟨j + 1, put F j ((4294967296 + at0 f n j - at0 g m j - cn) % 4294967296), 1 - (4294967296 + at0 f n j - at0 g m j - cn) / 4294967296, by omega, by go_num, int_eq (by omega), by omega, hown'.out, ?_, ?_, hbel'.out⟩
    ·exact put_snoc_lim hlim.out (Nat.mod_lt _ (by decide))
    ·rw [val_put_succ, val_succ, val_succ, pw_succ]
     exact dif_step hval.out (by omega)
   case measure => simp [intOf]; omega
  ·obtain rfl : j = N := by omega
   obtain ⟨ao', cap', rfl, g1, g2, g3⟩ := owns_slice hown.out
   have A' := Lib.hid (show Arg wr ao' j cap' F from ⟨g1, g2, by omega, g3, hlim.out⟩)
   have hown' := Lib.hid hown.out
   clear g3
   go_wp2_with fail
   refine (refNorm_any ao' j cap' F wr A'.out).mono ?_
   rintro e w2 ⟨bo', p, pc, h, rfl, hp, hpc, hsp, hcp, hb⟩
   have hsp' := Lib.hid hsp; have hcp' := Lib.hid hcp; have hbel' := Lib.hid (hbel.out.trans (hb.mono hbel.out.size))
   clear hsp hcp hb
   go_wp2_with fail
   go_ret2
   refine ⟨hbel'.out, .inr ⟨hge.out, bo', p, pc, h, rfl, hp, hpc, hsp'.out, ?_⟩⟩
   have e1 := hval.out
   rw [val_at0_ge hnN, val_at0_ge hmN] at e1
   rw [← sub_end e1 (val_lt hlim.out) hge.out]
   exact hcp'.out
theorem twice_any (ao : Option Addr) (n nc b : Nat) (f : Nat → Nat) (w : World) (A : Arg w ao n nc f) (hnb' : n < 1000000) (hb : b ≤ 1) :
  Calls Tryz.prog 142 #[.slice ao n nc, .int .u32 b] w (NumPost (2 * val f n + b) w) := by
 obtain ⟨i32, hi, hz0, hz1, hz2⟩ := info_parts info32
 obtain ⟨hn, hnc, hnb, hf, lf⟩ := A
 have hlf := Lib.hid lf; have hsf := Lib.hid hf
 clear hf lf
 go_enter Tryz.func142, Tryz.ntmps142
 go_wp2_with fail
 go_loopw [5, 6, 7] (fun v c i wr => ∃ (j : Nat) (F : Nat → Nat) (cn : Nat), j ≤ n + 1 ∧ i = .int .i64 j ∧ c = .int .u64 cn ∧ cn ≤ 1 ∧ wr.ownsRow w.heap.size 104 1 v j (limbCells F j) ∧ Lim F j ∧
   val F j + cn * pw j = 2 * val (at0 f n) j + b ∧ Below w.heap.size w wr) (fun _ _ i _ => n + 1 - (intOf i).toNat)
 case atStart => exact ⟨0, fun _ => 0, b, Nat.zero_le _, rfl, rfl, hb, World.ownsRow_nil _ _ _ _, fun j h => by omega, by simp [val, pw], Below.refl _ _⟩
 case round =>
  obtain ⟨j, F, cn, hj, rfl, rfl, hc, hown0, hlim0, hval0, hbel0⟩ := hrel
  have hown := Lib.hid hown0; have hlim := Lib.hid hlim0; have hval := Lib.hid hval0; have hbel := Lib.hid hbel0
  clear hown0 hlim0 hval0 hbel0
  have bf := at0_lt hlf.out j
  by_cases hlt : j < n + 1
  ·go_wp2_with fail
   refine (refLimb_any ao n nc j f wr (by omega) (hsf.out.below hbel.out) hlf.out).mono ?_
   rw [Int.toNat_natCast]
   rintro e w' ⟨rfl, rfl⟩
   go_wp2_with (at_builtin; refine wpList_append_limb rfl (.tmp 23) (.tmp 27) 22 rfl w.heap.size 104 i32 Tryz.underlying22 hi hz0 hz1 hz2 _ j F _ _ ((2 * at0 f n j + cn) % 4294967296) rfl rfl hown.out (by omega) (by omega) hbel.out.size ?_)
   intro v' w1 hown1 hb1
   have hown' := Lib.hid hown1; have hbel' := Lib.hid (hbel.out.trans hb1)
   clear hown1 hb1
   go_wp2_with fail
   go_roundw
   case rel =>
    refine ⟨j + 1, put F j ((2 * at0 f n j + cn) % 4294967296), (2 * at0 f n j + cn) / 4294967296, by omega, by go_num, int_eq (by omega), by omega, hown'.out, ?_, ?_, hbel'.out⟩
    ·exact put_snoc_lim hlim.out (Nat.mod_lt _ (by decide))
    ·rw [val_put_succ, val_succ, pw_succ]
     exact twice_step hval.out (by omega)
   case measure => simp [intOf]; omega
  ·obtain rfl : j = n + 1 := by omega
   obtain ⟨ao', cap', rfl, g1, g2, g3⟩ := owns_slice hown.out
   have A' := Lib.hid (show Arg wr ao' (n + 1) cap' F from ⟨g1, g2, by omega, g3, hlim.out⟩)
   have hown' := Lib.hid hown.out
   clear g3
   go_wp2_with fail
   refine (refNorm_any ao' (n + 1) cap' F wr A'.out).mono ?_
   rintro e w2 ⟨bo', p, pc, h, rfl, hp, hpc, hsp, hcp, hb⟩
   have hsp' := Lib.hid hsp; have hcp' := Lib.hid hcp; have hbel' := Lib.hid (hbel.out.trans (hb.mono hbel.out.size))
   clear hsp hcp hb
   go_wp2_with fail
   go_ret
   refine ⟨bo', p, pc, h, rfl, hp, hpc, hsp'.out, ?_, hbel'.out⟩
   have e1 := hval.out
   rw [val_at0_ge (Nat.le_succ n)] at e1
   rw [← twice_end e1 (val_lt hlf.out) (by omega)]
   exact hcp'.out
theorem bit_any (ao : Option Addr) (n nc : Nat) (i : Int) (f : Nat → Nat) (w : World) (i0 : 0 ≤ i) (i1 : i ≤ 1000000000) (hf : Sl w ao n f) (lf : Lim f n) :
  Calls Tryz.prog 143 #[.slice ao n nc, .int .i64 i] w fun e w' => e = .returned (.int .u32 (bitAt f n i.toNat)) ∧ w = w' := by
 obtain ⟨i, rfl⟩ := Int.eq_ofNat_of_zero_le i0
 rw [Int.toNat_natCast]
 have hb := at0_lt lf (i / 32)
 obtain ⟨x, hx⟩ : ∃ x, x = at0 f n (i / 32) := ⟨_, rfl⟩
 have hx' := Lib.hid hx
 rw [← hx] at hb
 have hsf := Lib.hid hf; have hlf := Lib.hid lf
 clear hf lf hx
 go_enter Tryz.func143, Tryz.ntmps143
 go_wp2_with fail
 refine (refLimb_any ao n nc _ f w (by omega) hsf.out hlf.out).mono ?_
 rw [show ((i : Int) / 32).toNat = i / 32 by omega, ← hx'.out]
 rintro e w' ⟨rfl, rfl⟩
 go_wp2_with fail
 go_loop [5, 6] (fun v k => ∃ t y : Nat, t ≤ i % 32 ∧ k = .int .i64 t ∧ v = .int .u64 y ∧ y < 4294967296 ∧ y = x / 2 ^ t) (fun _ k => i % 32 - (intOf k).toNat)
 case atStart => exact ⟨0, x, Nat.zero_le _, rfl, rfl, hb, by simp⟩
 case round =>
  obtain ⟨t, y, ht, rfl, rfl, hd, hy0⟩ := hrel
  have hy := Lib.hid hy0
  clear hy0
  by_cases hlt : t < i % 32
  ·go_wp2_with fail
   go_round
   case rel => exact ⟨t + 1, y / 2, by omega, by go_num, int_eq (by omega), by omega, by rw [hy.out, Nat.pow_succ, Nat.div_div_eq_div_mul]⟩
   case measure => simp [intOf]; omega
  ·obtain rfl : t = i % 32 := by omega
   go_wp2_with fail
   go_ret
   refine ⟨ret_num ?_, rfl⟩
   unfold bitAt
   rw [← hx'.out, ← hy.out]
   omega
end Go.Proofs.YtaepelipkkmeaaaGreat
namespace Go.Proofs.YtaepelipkkmeaaaGreat
open Go.RowKit Num
theorem small' {v k K : Nat} (h : v < pw k) (hk : k ≤ K) : v < pw K := Nat.lt_of_lt_of_le h (pw_le hk)
theorem Num.Canon.few {w : World} {ao : Option Addr} {n nc v k : Nat} {f : Nat → Nat} (h : Canon v n f) (hs : Sl w ao n f) (hn : n ≤ nc) (hc : nc ≤ 9223372036854775807) (hv : v < pw k) (hk : k ≤ 1000000) : Arg w ao n nc f ∧ n ≤ k :=
 ⟨⟨hn, hc, Nat.le_trans (h.len_le hv) hk, hs, h.lim⟩, h.len_le hv⟩
theorem half_lt {X j n : Nat} (h : X < pw n) : X / 2 ^ j < pw n := Nat.lt_of_le_of_lt (Nat.div_le_self _ _) h
theorem refMul_any (ao bo : Option Addr) (n nc m mc : Nat) (f g : Nat → Nat) (w : World) (A : Arg w ao n nc f) (B : Arg w bo m mc g) (hn40 : n ≤ 1000) (hm40 : m ≤ 1000) :
  Calls Tryz.prog 160 #[.slice ao n nc, .slice bo m mc] w (NumPost (val f n * val g m) w) := by
 have hA := Lib.hid A; have hB := Lib.hid B
 have hX := Lib.hid (val_lt A.lim); have hY := Lib.hid (val_lt B.lim)
 obtain ⟨X, hX0⟩ : ∃ X, X = val f n := ⟨_, rfl⟩
 obtain ⟨Y, hY0⟩ : ∃ Y, Y = val g m := ⟨_, rfl⟩
 rw [← hX0, ← hY0]
 rw [← hX0] at hX
 rw [← hY0] at hY
 have hX' := Lib.hid hX0; have hY' := Lib.hid hY0
 clear A B hX0 hY0
 go_enter Tryz.func160, Tryz.ntmps160
 go_wp2_with fail
 go_loopw [5, 6] (fun v i wr => ∃ (j : Nat) (co : Option Addr) (k kc : Nat) (F : Nat → Nat), j ≤ 32 * n ∧ i = .int .i64 ((j : Int) - 1) ∧ v = .slice co k kc ∧ k ≤ kc ∧ kc ≤ 9223372036854775807 ∧ Sl wr co k F ∧ Canon (X / 2 ^ j * Y) k F ∧ Below w.heap.size w wr)
  (fun _ i _ => (intOf i + 1).toNat)
 case atStart =>
  refine ⟨32 * n, none, 0, 0, fun _ => 0, Nat.le_refl _, int_eq (by omega), rfl, Nat.le_refl _, by omega, .inl rfl, ?_, Below.refl _ _⟩
  rw [hX'.out, val_none hA.out.lim, Nat.zero_mul]
  exact canon_zero _
 case round =>
  obtain ⟨j, co, k, kc, F, hj, rfl, rfl, hk, hkc, hsl0, hcan0, hbel0⟩ := hrel
  have hsl := Lib.hid hsl0; have hcan := Lib.hid hcan0; have hbel := Lib.hid hbel0
  clear hsl0 hcan0 hbel0
  by_cases h0 : j = 0
  ·subst h0
   go_wp2_with fail
   go_ret
   refine ⟨co, k, kc, F, rfl, hk, hkc, hsl.out, ?_, hbel.out⟩
   have e := hcan.out
   rw [Nat.pow_zero, Nat.div_one] at e
   exact e
  ·obtain ⟨s, rfl⟩ : ∃ s, j = s + 1 := ⟨j - 1, by omega⟩
   have hXY : X / 2 ^ (s + 1) * Y < pw 2000 := by
    have a := half_lt (j := s + 1) hX.out
    have b := hY.out
    have c : X / 2 ^ (s + 1) * Y ≤ X / 2 ^ (s + 1) * pw m := Nat.mul_le_mul_left _ (by omega)
    have d : X / 2 ^ (s + 1) * pw m < pw n * pw m := (Nat.mul_lt_mul_right (pw_pos m)).2 a
    rw [← pw_add] at d
    have e : pw (n + m) ≤ pw 2000 := pw_le (by omega)
    omega
   obtain ⟨hC, hk2⟩ := hcan.out.few hsl.out hk hkc hXY (by omega)
   have hC' := Lib.hid hC
   clear hC hXY
   go_wp2_with fail
   refine (twice_any co k kc 0 F wr hC'.out (by omega) (by omega)).mono ?_
   rw [hcan.out.val]
   rintro e w1 ⟨eo, p, pc, G, rfl, hp, hpc, hsp, hcp, hb⟩
   have hsp' := Lib.hid hsp; have hcp' := Lib.hid hcp; have hb' := Lib.hid (hbel.out.trans (hb.mono hbel.out.size))
   clear hsp hcp hb
   go_wp2_with fail
   refine (bit_any ao n nc _ f w1 (by omega) (by omega) (hA.out.below hb'.out).sl hA.out.lim).mono ?_
   rw [show (s : Int).toNat = s from Int.toNat_natCast s]
   rintro e w' ⟨rfl, rfl⟩
   have htop := val_top hA.out.lim s
   rw [← hX'.out] at htop
   have hbl := bitAt_le f n s
   by_cases hbit : bitAt f n s = 1
   ·rw [hbit] at htop ⊢
    have htop' := Lib.hid htop
    clear htop hbl hbit
    have hW : 2 * (X / 2 ^ (s + 1) * Y) + 0 < pw 2001 := by
     have e : pw 2001 = 4294967296 * pw 2000 := pw_succ 2000
     have hXY : X / 2 ^ (s + 1) * Y < pw 2000 := by
      have a := half_lt (j := s + 1) hX.out
      have b := hY.out
      have c : X / 2 ^ (s + 1) * Y ≤ X / 2 ^ (s + 1) * pw m := Nat.mul_le_mul_left _ (by omega)
      have d : X / 2 ^ (s + 1) * pw m < pw n * pw m := (Nat.mul_lt_mul_right (pw_pos m)).2 a
      rw [← pw_add] at d
      have e : pw (n + m) ≤ pw 2000 := pw_le (by omega)
      omega
     omega
    obtain ⟨hD, hp2⟩ := hcp'.out.few hsp'.out hp hpc hW (by omega)
    have hD' := Lib.hid hD
    clear hD hW
    go_wp2_with fail
    refine (refAdd_any eo bo p pc m mc G g w1 hD'.out (hB.out.below hb'.out) (by omega)).mono ?_
    rw [hcp'.out.val, ← hY'.out]
    rintro e w2 ⟨eo2, p2, pc2, G2, rfl, hp2, hpc2, hsp2, hcp2, hb2⟩
    have hsp2' := Lib.hid hsp2; have hcp2' := Lib.hid hcp2; have hb2' := Lib.hid (hb'.out.trans (hb2.mono hb'.out.size))
    clear hsp2 hcp2 hb2
    go_wp2_with fail
    go_roundw
    case rel =>
     refine ⟨s, eo2, p2, pc2, G2, by omega, int_eq (by omega), rfl, hp2, hpc2, hsp2'.out, ?_, hb2'.out⟩
     rw [htop'.out, Nat.add_mul, Nat.one_mul, Nat.mul_assoc]
     exact hcp2'.out
    case measure => simp [intOf]
   ·have hbit0 : bitAt f n s = 0 := by omega
    rw [hbit0] at htop ⊢
    have htop' := Lib.hid htop
    clear htop hbl hbit hbit0
    go_wp2_with fail
    go_roundw
    case rel =>
     refine ⟨s, eo, p, pc, G, by omega, int_eq (by omega), rfl, hp, hpc, hsp'.out, ?_, hb'.out⟩
     rw [htop'.out, Nat.add_zero, Nat.mul_assoc]
     exact hcp'.out
    case measure => simp [intOf]
theorem refDivMod_any (ao bo : Option Addr) (n nc m mc : Nat) (f g : Nat → Nat) (w : World) (A : Arg w ao n nc f) (B : Arg w bo m mc g) (hn40 : n ≤ 1000) (hm40 : m ≤ 1000) :
  Calls Tryz.prog 99 #[.slice ao n nc, .slice bo m mc] w (DivPost (val f n) (val g m) w) := by
 have hA := Lib.hid A; have hB := Lib.hid B
 have hX := Lib.hid (val_lt A.lim); have hY := Lib.hid (val_lt B.lim)
 obtain ⟨X, hX0⟩ : ∃ X, X = val f n := ⟨_, rfl⟩
 obtain ⟨Y, hY0⟩ : ∃ Y, Y = val g m := ⟨_, rfl⟩
 rw [← hX0, ← hY0]
 rw [← hX0] at hX
 rw [← hY0] at hY
 have hX' := Lib.hid hX0; have hY' := Lib.hid hY0
 clear A B hX0 hY0
 go_enter Tryz.func99, Tryz.ntmps99
 go_wp2_with fail
 refine (refNorm_any bo m mc g w hB.out).mono ?_
 rw [← hY'.out]
 rintro e w1 ⟨no, q, qc, h, rfl, hq, hqc, hsh, hch, hb⟩
 have hbel1 := Lib.hid hb; have hne := Lib.hid hch.ne_zero
 clear hsh hch hb
 by_cases hq0 : q = 0
 ·have hYz := Lib.hid (hne.out.1 hq0)
  clear hne
  subst hq0
  go_wp2_with fail
  go_ret3
  exact ⟨hbel1.out, .inl ⟨hYz.out, rfl⟩⟩
 have hY0 : 0 < Y := Nat.pos_of_ne_zero (fun e => hq0 (hne.out.2 e))
 have hqb : ((q : Int) == 0) = false := by simp [hq0]
 go_wp2_with fail
 clear hqb hq0
 go_loopw [7, 8, 9] (fun v r i wr => ∃ (j : Nat) (co : Option Addr) (k kc : Nat) (F : Nat → Nat) (eo : Option Addr) (l lc : Nat) (G : Nat → Nat), j ≤ 32 * n ∧ i = .int .i64 ((j : Int) - 1) ∧ v = .slice co k kc ∧ r = .slice eo l lc ∧ k ≤ kc ∧ kc ≤ 9223372036854775807 ∧ l ≤ lc ∧ lc ≤ 9223372036854775807 ∧
   Sl wr co k F ∧ Canon (X / 2 ^ j / Y) k F ∧ Sl wr eo l G ∧ Canon (X / 2 ^ j % Y) l G ∧ Below w.heap.size w wr)
  (fun _ _ i _ => (intOf i + 1).toNat)
 case atStart =>
  refine ⟨32 * n, none, 0, 0, fun _ => 0, none, 0, 0, fun _ => 0, Nat.le_refl _, int_eq (by omega), rfl, rfl, Nat.le_refl _, by omega, Nat.le_refl _, by omega, .inl rfl, ?_, .inl rfl, ?_, hbel1.out⟩
  ·rw [hX'.out, val_none hA.out.lim, Nat.zero_div]
   exact canon_zero _
  ·rw [hX'.out, val_none hA.out.lim, Nat.zero_mod]
   exact canon_zero _
 case round =>
  obtain ⟨j, co, k, kc, F, eo, l, lc, G, hj, rfl, rfl, rfl, hk, hkc, hl, hlc, hsF0, hcF0, hsG0, hcG0, hbel0⟩ := hrel
  have hsF := Lib.hid hsF0; have hcF := Lib.hid hcF0; have hsG := Lib.hid hsG0; have hcG := Lib.hid hcG0; have hbel := Lib.hid hbel0
  clear hsF0 hcF0 hsG0 hcG0 hbel0
  by_cases h0 : j = 0
  ·subst h0
   go_wp2_with fail
   go_ret3
   refine ⟨hbel.out, .inr ⟨Nat.pos_iff_ne_zero.1 hY0, co, k, kc, F, eo, l, lc, G, rfl, hk, hkc, hl, hlc, hsF.out, ?_, hsG.out, ?_⟩⟩
   ·have e := hcF.out
    rw [Nat.pow_zero, Nat.div_one] at e
    exact e
   ·have e := hcG.out
    rw [Nat.pow_zero, Nat.div_one] at e
    exact e
  ·obtain ⟨s, rfl⟩ : ∃ s, j = s + 1 := ⟨j - 1, by omega⟩
   have bq := Nat.lt_of_le_of_lt (Nat.div_le_self (X / 2 ^ (s + 1)) Y) (half_lt (j := s + 1) hX.out)
   have br := Nat.lt_of_lt_of_le (Nat.mod_lt (X / 2 ^ (s + 1)) hY0) (Nat.le_of_lt hY.out)
   obtain ⟨hQ, hkn⟩ := hcF.out.few hsF.out hk hkc bq (by omega)
   obtain ⟨hR, hlm⟩ := hcG.out.few hsG.out hl hlc br (by omega)
   have hQ' := Lib.hid hQ; have hR' := Lib.hid hR; have br' := Lib.hid br
   clear hQ hR bq br h0
   go_wp2_with fail
   refine (bit_any ao n nc _ f wr (by omega) (by omega) (hA.out.below hbel.out).sl hA.out.lim).mono ?_
   rw [show (s : Int).toNat = s from Int.toNat_natCast s]
   rintro e w' ⟨rfl, rfl⟩
   have htop := val_top hA.out.lim s
   rw [← hX'.out] at htop
   have hbl := bitAt_le f n s
   obtain ⟨b, hbb⟩ : ∃ b, b = bitAt f n s := ⟨_, rfl⟩
   rw [← hbb] at htop hbl ⊢
   have htop' := Lib.hid htop
   clear htop hbb
   obtain ⟨dv1, dv2⟩ := div_bit (Z := X / 2 ^ (s + 1)) hY0 hbl
   have dv1' := Lib.hid dv1; have dv2' := Lib.hid dv2
   clear dv1 dv2
   go_wp2_with fail
   refine (twice_any eo l lc b G wr hR'.out (by omega) hbl).mono ?_
   rw [hcG.out.val]
   rintro e w2 ⟨xo, p, pc, H, rfl, hp, hpc, hsp, hcp, hb⟩
   have hT : 2 * (X / 2 ^ (s + 1) % Y) + b < pw (m + 1) := by
    have e1 : pw (m + 1) = 4294967296 * pw m := pw_succ m
    have := br'.out
    omega
   obtain ⟨hD, hp2⟩ := hcp.few hsp hp hpc hT (by omega)
   have hD' := Lib.hid hD; have hsp' := Lib.hid hsp; have hcp' := Lib.hid hcp; have hb' := Lib.hid (hbel.out.trans (hb.mono hbel.out.size)); have hQ2 := Lib.hid (hQ'.out.below hb)
   clear hsp hcp hb hD hT
   go_wp2_with fail
   refine (refSub_any xo bo p pc m mc H g w2 hD'.out (hB.out.below hb'.out)).mono ?_
   rw [hcp'.out.val, ← hY'.out]
   rintro e w3 ⟨hb3, h3⟩
   have hb3' := Lib.hid (hb'.out.trans (hb3.mono hb'.out.size)); have hQ3 := Lib.hid (hQ2.out.below hb3); have hsp3 := Lib.hid (hsp'.out.below hb3)
   clear hb3
   rcases h3 with ⟨hlt, rfl⟩ | ⟨hge, yo, y, yc, I, rfl, hy, hyc, hsI, hcI⟩
   ·have d := dv2'.out hlt
    have d' := Lib.hid d
    clear d hlt
    go_wp2_with fail
    refine (twice_any co k kc 0 F w3 hQ3.out (by omega) (by omega)).mono ?_
    rw [hcF.out.val]
    rintro e w4 ⟨zo, z, zc, J, rfl, hz, hzc, hsz, hcz, hb4⟩
    have hsz' := Lib.hid hsz; have hcz' := Lib.hid hcz; have hb4' := Lib.hid (hb3'.out.trans (hb4.mono hb3'.out.size)); have hsp4 := Lib.hid (hsp3.out.below hb4)
    clear hsz hcz hb4
    go_wp2_with fail
    go_roundw
    case rel =>
     refine ⟨s, zo, z, zc, J, xo, p, pc, H, by omega, int_eq (by omega), rfl, rfl, hz, hzc, hp, hpc, hsz'.out, ?_, hsp4.out, ?_, hb4'.out⟩
     ·rw [htop'.out, d'.out.1]; exact hcz'.out
     ·rw [htop'.out, d'.out.2]; exact hcp'.out
    case measure => simp [intOf]
   ·have d := dv1'.out hge
    have d' := Lib.hid d; have hsI' := Lib.hid hsI; have hcI' := Lib.hid hcI
    clear d hge hsI hcI
    go_wp2_with fail
    refine (twice_any co k kc 1 F w3 hQ3.out (by omega) (by omega)).mono ?_
    rw [hcF.out.val]
    rintro e w4 ⟨zo, z, zc, J, rfl, hz, hzc, hsz, hcz, hb4⟩
    have hsz' := Lib.hid hsz; have hcz' := Lib.hid hcz; have hb4' := Lib.hid (hb3'.out.trans (hb4.mono hb3'.out.size)); have hsI4 := Lib.hid (hsI'.out.below hb4)
    clear hsz hcz hb4
    go_wp2_with fail
    go_roundw
    case rel =>
     refine ⟨s, zo, z, zc, J, yo, y, yc, I, by omega, int_eq (by omega), rfl, rfl, hz, hzc, hy, hyc, hsz'.out, ?_, hsI4.out, ?_, hb4'.out⟩
     ·rw [htop'.out, d'.out.1]; exact hcz'.out
     ·rw [htop'.out, d'.out.2]; exact hcI'.out
    case measure => simp [intOf]
end Go.Proofs.YtaepelipkkmeaaaGreat
namespace Go.Proofs.YtaepelipkkmeaaaGreat
open Go.RowKit Num
attribute [local go_sem ↓] Go.wp_at_zero Go.wp_at_succ
theorem Whole.alloc {w : World} {b : Bool} {ao : Option Addr} {n nc : Nat} {x : Int} (h : Whole w b ao n nc x) (o : Obj) : Whole (w.alloc o) b ao n nc x := h.below ((Below.refl _ w).alloc (Nat.le_refl _) o)
theorem Right.alloc {w : World} {b : Bool} {ao : Option Addr} {n nc : Nat} {x : Int} (h : Right w b ao n nc x) (o : Obj) : Right (w.alloc o) b ao n nc x := h.below ((Below.refl _ w).alloc (Nat.le_refl _) o)
theorem small2 {v k : Nat} (hk : k ≤ 1000000) (h : v < pw k) : v < pw 1000000 := Nat.lt_of_lt_of_le h (pw_le hk)
theorem sum_small {u v k : Nat} (hk : k + 1 ≤ 1000000) (hu : u < pw k) (hv : v < pw k) : u + v < pw 1000000 := by
 have e : pw (k + 1) = 4294967296 * pw k := rfl
 exact Nat.lt_of_lt_of_le (m := pw (k + 1)) (by omega) (pw_le hk)
theorem Whole.drew {w : World} {b : Bool} {ao : Option Addr} {n nc : Nat} {x : Int} (h : Whole w b ao n nc x) : Whole w.drew b ao n nc x := h.below (Below.refl _ w).drew
theorem made1' {W w' : World} {u0 u1 : Value} {t : TypeId} (hb : Below (W.alloc (.cells #[u0, u1] t)).drew.heap.size (W.alloc (.cells #[u0, u1] t)).drew w') : Box w' W.heap.size u0 u1 := (Box.new u0 u1 t rfl).drew.later hb
theorem made2' {W w' : World} {u0 u1 v0 v1 : Value} {t s : TypeId} (hb : Below ((W.alloc (.cells #[u0, u1] t)).alloc (.cells #[v0, v1] s)).drew.heap.size ((W.alloc (.cells #[u0, u1] t)).alloc (.cells #[v0, v1] s)).drew w') :
  Box w' W.heap.size u0 u1 ∧ Box w' (W.heap.size + 1) v0 v1 := ⟨((Box.new u0 u1 t rfl).alloc _).drew.later hb, (Box.new v0 v1 s (by simp)).drew.later hb⟩
theorem made1 {W w' : World} {u0 u1 : Value} {t : TypeId} (hb : Below (W.alloc (.cells #[u0, u1] t)).heap.size (W.alloc (.cells #[u0, u1] t)) w') : Box w' W.heap.size u0 u1 := (Box.new u0 u1 t rfl).later hb
theorem made2 {W w' : World} {u0 u1 v0 v1 : Value} {t s : TypeId} (hb : Below ((W.alloc (.cells #[u0, u1] t)).alloc (.cells #[v0, v1] s)).heap.size ((W.alloc (.cells #[u0, u1] t)).alloc (.cells #[v0, v1] s)) w') :
  Box w' W.heap.size u0 u1 ∧ Box w' (W.heap.size + 1) v0 v1 := ⟨((Box.new u0 u1 t rfl).alloc _).later hb, (Box.new v0 v1 s (by simp)).later hb⟩
theorem rAdd_any (b c : Bool) (ao bo : Option Addr) (n nc m mc : Nat) (x y : Int) (w : World) (A : Whole w b ao n nc x) (B : Whole w c bo m mc y) (M : Nat) (hM : M ≤ 1000) (hx : x.natAbs < pw M) (hy : y.natAbs < pw M) :
  Calls Tryz.prog 128 #[.agg #[.bool b, .slice ao n nc], .agg #[.bool c, .slice bo m mc]] w (IntPost (x + y) w) := by
 have A' := Lib.hid A; have B' := Lib.hid B
 clear A B
 go_enter Tryz.func128, Tryz.ntmps128
 go_upto_region 1 with fail
 refine gen_wp (fun w' => Below w.heap.size w w' ∧ Box w' w.heap.size (.bool b) (.slice ao n nc) ∧ Box w' (w.heap.size + 1) (.bool c) (.slice bo m mc) ∧ Box w' (w.heap.size + 2) (.bool false) (.slice none 0 0))
  ⟨((((Below.refl _ w).alloc (Nat.le_refl _) _).alloc (by simp <;> omega) _).alloc (by simp <;> omega) _), (((Box.new _ _ _ rfl).alloc _).alloc _), ((Box.new _ _ _ (by simp <;> omega)).alloc _), (Box.new _ _ _ (by simp <;> omega))⟩ ?_
 rintro w0 ⟨hb0, x0, x1, x2⟩
 go_cut [5, 6] from 11 to 14 (fun s t wx => ∃ P Q sb so sn sc tb to_ tn tc, s = .pointer (some ⟨P, 0, none⟩) ∧ t = .pointer (some ⟨Q, 0, none⟩) ∧ Box wx P (.bool sb) (.slice so sn sc) ∧ Box wx Q (.bool tb) (.slice to_ tn tc) ∧ Box wx (w.heap.size + 2) (.bool false) (.slice none 0 0) ∧ 
  w.heap.size ≤ P ∧ w.heap.size ≤ Q ∧ P ≠ Q ∧ P ≠ w.heap.size + 2 ∧ Q ≠ w.heap.size + 2 ∧ Right wx sb so sn sc x ∧ Right wx tb to_ tn tc y ∧ Below w.heap.size w wx)
 case first =>
  have l0 := x0.lt; have l1 := x1.lt; have l2 := x2.lt; have gs0 := hb0.size
  have gb0 := hb0
  have A0 := A'.out.below gb0; have B0 := B'.out.below gb0
  go_region_held3 (fun w' => w'.cell? ⟨w.heap.size, 0, none⟩ = some (.bool b) ∧ w'.cell? ⟨w.heap.size, 1, none⟩ = some (.slice ao n nc) ∧ w'.cell? ⟨w.heap.size + 1, 0, none⟩ = some (.bool c) ∧ w'.cell? ⟨w.heap.size + 1, 1, none⟩ = some (.slice bo m mc))
   (first | with_reducible exact ⟨x0.drew.c0, x0.drew.c1, x1.drew.c0, x1.drew.c1⟩ | with_reducible exact ⟨(x0.alloc _).drew.c0, (x0.alloc _).drew.c1, (x1.alloc _).drew.c0, (x1.alloc _).drew.c1⟩ | with_reducible exact ⟨((x0.alloc _).alloc _).drew.c0, ((x0.alloc _).alloc _).drew.c1, ((x1.alloc _).alloc _).drew.c0, ((x1.alloc _).alloc _).drew.c1⟩ | with_reducible exact ⟨y0.c0, y0.c1, y1.c0, y1.c1⟩ | with_reducible exact ⟨(y0.alloc _).c0, (y0.alloc _).c1, (y1.alloc _).c0, (y1.alloc _).c1⟩ | with_reducible exact ⟨((y0.alloc _).alloc _).c0, ((y0.alloc _).alloc _).c1, ((y1.alloc _).alloc _).c0, ((y1.alloc _).alloc _).c1⟩ | with_reducible exact ⟨z0.c0, z0.c1, z1.c0, z1.c1⟩ | with_reducible exact ⟨(z0.alloc _).c0, (z0.alloc _).c1, (z1.alloc _).c0, (z1.alloc _).c1⟩ | with_reducible exact ⟨((z0.alloc _).alloc _).c0, ((z0.alloc _).alloc _).c1, ((z1.alloc _).alloc _).c0, ((z1.alloc _).alloc _).c1⟩ | with_reducible exact ⟨(z0.other (by omega) _ _).c0, (z0.other (by omega) _ _).c1, (z1.other (by omega) _ _).c0, (z1.other (by omega) _ _).c1⟩ | with_reducible exact ⟨((z0.other (by omega) _ _).alloc _).c0, ((z0.other (by omega) _ _).alloc _).c1, ((z1.other (by omega) _ _).alloc _).c0, ((z1.other (by omega) _ _).alloc _).c1⟩ | with_reducible exact ⟨((z0.other (by omega) _ _).other (by omega) _ _).c0, ((z0.other (by omega) _ _).other (by omega) _ _).c1, ((z1.other (by omega) _ _).other (by omega) _ _).c0, ((z1.other (by omega) _ _).other (by omega) _ _).c1⟩ | go_keep)
   (first
   | (go_at_call_of 95 ao; refine (rNorm_any b ao n nc x _ ?_).mono ?_; (first | with_reducible exact A0.drew | with_reducible exact (A0.alloc _).drew | with_reducible exact ((A0.alloc _).alloc _).drew); rintro e w1 ⟨sb, so, sn, sc, rfl, hR1, hb1⟩; have hc1 : Below w0.heap.size w0 w1 := (by (first | exact (Below.refl _ _).drew.trans hb1 | exact ((Below.refl _ _).alloc (by first | exact Nat.le_refl _ | (simp; done) | (simp; omega)) _).drew.trans (hb1.mono (by simp <;> omega)) | exact (((Below.refl _ _).alloc (by first | exact Nat.le_refl _ | (simp; done) | (simp; omega)) _).alloc (by first | exact Nat.le_refl _ | (simp; done) | (simp; omega)) _).drew.trans (hb1.mono (by simp <;> omega)))); have hz1 := hc1.size; have y0 := x0.later hc1; have ly0 := y0.lt; have y1 := x1.later hc1; have ly1 := y1.lt; have y2 := x2.later hc1; have ly2 := y2.lt; have B1 := B0.below hc1; have gb1 := below_then gb0 (Nat.le_refl _) hc1; have gs1 := gb1.size; (first | (with_reducible have mm := made2' hb1; obtain ⟨m10, m11⟩ := mm) | (with_reducible have m10 := made1' hb1) | skip); (try have k10 := m10.lt); (try have k11 := m11.lt))
   | (go_at_call_of 95 bo; refine (rNorm_any c bo m mc y _ ?_).mono ?_; (first | with_reducible exact B1 | with_reducible exact (B1.alloc _) | with_reducible exact ((B1.alloc _).alloc _)); rintro e w2 ⟨tb, to_, tn, tc, rfl, hR2, hb2⟩; have hc2 : Below w1.heap.size w1 w2 := (by (first | with_reducible exact hb2 | exact ((Below.refl _ _).alloc (by first | exact Nat.le_refl _ | (simp; done) | (simp; omega)) _).trans (hb2.mono (by simp <;> omega)) | exact (((Below.refl _ _).alloc (by first | exact Nat.le_refl _ | (simp; done) | (simp; omega)) _).alloc (by first | exact Nat.le_refl _ | (simp; done) | (simp; omega)) _).trans (hb2.mono (by simp <;> omega)))); have hz2 := hc2.size; have z0 := y0.later hc2; have lz0 := z0.lt; have z1 := y1.later hc2; have lz1 := z1.lt; have z2 := y2.later hc2; have lz2 := z2.lt; have hR1 := hR1.below hc2; have gb2 := below_then gb1 (Nat.le_refl _) hc2; have gs2 := gb2.size; (try have m10 := m10.later hc2); (try have m11 := m11.later hc2); (first | (with_reducible have mm := made2 hb2; obtain ⟨m20, m21⟩ := mm) | (with_reducible have m20 := made1 hb2) | skip); (try have k10 := m10.lt); (try have k11 := m11.lt); (try have k20 := m20.lt); (try have k21 := m21.lt); (try (have f100 := m10.c0; have f101 := m10.c1; have f102 := m10.fr 0; have f103 := m10.fr 1)); (try (have f110 := m11.c0; have f111 := m11.c1; have f112 := m11.fr 0; have f113 := m11.fr 1)); (try (have f200 := m20.c0; have f201 := m20.c1; have f202 := m20.fr 0; have f203 := m20.fr 1)); (try (have f210 := m21.c0; have f211 := m21.c1; have f212 := m21.fr 0; have f213 := m21.fr 1))))
  ·go_wp2_with fail; go_meet; exact ⟨_, _, _, _, _, _, _, _, _, _, rfl, rfl, ((Box.new _ _ _ (by first | rfl | (simp; done))).alloc _), (Box.new _ _ _ (by first | rfl | (simp; done))), ((z2.alloc _).alloc _), by first | omega | (simp; omega), by first | omega | (simp; omega), by first | omega | (simp; omega), by first | omega | (simp; omega), by first | omega | (simp; omega), ((hR1.alloc _).alloc _), ((hR2.alloc _).alloc _), (Below.alloc (Below.alloc gb2 (by first | omega | simp <;> omega) _) (by first | omega | simp <;> omega) _)⟩
  ·go_wp2_with fail; go_meet; exact ⟨_, _, _, _, _, _, _, _, _, _, rfl, rfl, (Box.new _ _ _ (by first | rfl | (simp; done))), ((Box.new _ _ _ (by first | rfl | (simp; done))).alloc _), ((z2.alloc _).alloc _), by first | omega | (simp; omega), by first | omega | (simp; omega), by first | omega | (simp; omega), by first | omega | (simp; omega), by first | omega | (simp; omega), ((hR1.alloc _).alloc _), ((hR2.alloc _).alloc _), (Below.alloc (Below.alloc gb2 (by first | omega | simp <;> omega) _) (by first | omega | simp <;> omega) _)⟩
  ·go_wp2_with fail; go_meet; exact ⟨_, _, _, _, _, _, _, _, _, _, rfl, rfl, ((m20.set _ _).alloc _), (Box.new _ _ _ (by first | rfl | (simp; done))), ((z2.other (by omega) _ _).alloc _), by first | omega | (simp; omega), by first | omega | (simp; omega), by first | omega | (simp; omega), by first | omega | (simp; omega), by first | omega | (simp; omega), ((hR1.box m20 _ _).alloc _), ((hR2.box m20 _ _).alloc _), (Below.alloc (below_set gb2 (by omega) _ _) (by first | omega | simp <;> omega) _)⟩
  ·go_wp2_with fail; go_meet; exact ⟨_, _, _, _, _, _, _, _, _, _, rfl, rfl, ((m20.set _ _).other (by omega) _ _), ((m21.other (by omega) _ _).set _ _), ((z2.other (by omega) _ _).other (by omega) _ _), by first | omega | (simp; omega), by first | omega | (simp; omega), by first | omega | (simp; omega), by first | omega | (simp; omega), by first | omega | (simp; omega), ((hR1.box m20 _ _).box (m21.other (by omega) _ _) _ _), ((hR2.box m20 _ _).box (m21.other (by omega) _ _) _ _), (below_set (below_set gb2 (by omega) _ _) (by omega) _ _)⟩
  ·go_wp2_with fail; go_meet; exact ⟨_, _, _, _, _, _, _, _, _, _, rfl, rfl, (Box.new _ _ _ (by first | rfl | (simp; done))), ((m20.set _ _).alloc _), ((z2.other (by omega) _ _).alloc _), by first | omega | (simp; omega), by first | omega | (simp; omega), by first | omega | (simp; omega), by first | omega | (simp; omega), by first | omega | (simp; omega), ((hR1.box m20 _ _).alloc _), ((hR2.box m20 _ _).alloc _), (Below.alloc (below_set gb2 (by omega) _ _) (by first | omega | simp <;> omega) _)⟩
  ·go_wp2_with fail; go_meet; exact ⟨_, _, _, _, _, _, _, _, _, _, rfl, rfl, ((m21.set _ _).other (by omega) _ _), ((m20.other (by omega) _ _).set _ _), ((z2.other (by omega) _ _).other (by omega) _ _), by first | omega | (simp; omega), by first | omega | (simp; omega), by first | omega | (simp; omega), by first | omega | (simp; omega), by first | omega | (simp; omega), ((hR1.box m21 _ _).box (m20.other (by omega) _ _) _ _), ((hR2.box m21 _ _).box (m20.other (by omega) _ _) _ _), (below_set (below_set gb2 (by omega) _ _) (by omega) _ _)⟩
  ·go_wp2_with fail; go_meet; exact ⟨_, _, _, _, _, _, _, _, _, _, rfl, rfl, ((m10.set _ _).alloc _), (Box.new _ _ _ (by first | rfl | (simp; done))), ((z2.other (by omega) _ _).alloc _), by first | omega | (simp; omega), by first | omega | (simp; omega), by first | omega | (simp; omega), by first | omega | (simp; omega), by first | omega | (simp; omega), ((hR1.box m10 _ _).alloc _), ((hR2.box m10 _ _).alloc _), (Below.alloc (below_set gb2 (by omega) _ _) (by first | omega | simp <;> omega) _)⟩
  ·go_wp2_with fail; go_meet; exact ⟨_, _, _, _, _, _, _, _, _, _, rfl, rfl, ((m10.set _ _).other (by omega) _ _), ((m20.other (by omega) _ _).set _ _), ((z2.other (by omega) _ _).other (by omega) _ _), by first | omega | (simp; omega), by first | omega | (simp; omega), by first | omega | (simp; omega), by first | omega | (simp; omega), by first | omega | (simp; omega), ((hR1.box m10 _ _).box (m20.other (by omega) _ _) _ _), ((hR2.box m10 _ _).box (m20.other (by omega) _ _) _ _), (below_set (below_set gb2 (by omega) _ _) (by omega) _ _)⟩
  ·go_wp2_with fail; go_meet; exact ⟨_, _, _, _, _, _, _, _, _, _, rfl, rfl, ((m10.set _ _).other (by omega) _ _), ((m11.other (by omega) _ _).set _ _), ((z2.other (by omega) _ _).other (by omega) _ _), by first | omega | (simp; omega), by first | omega | (simp; omega), by first | omega | (simp; omega), by first | omega | (simp; omega), by first | omega | (simp; omega), ((hR1.box m10 _ _).box (m11.other (by omega) _ _) _ _), ((hR2.box m10 _ _).box (m11.other (by omega) _ _) _ _), (below_set (below_set gb2 (by omega) _ _) (by omega) _ _)⟩
  ·go_wp2_with fail; go_meet; exact ⟨_, _, _, _, _, _, _, _, _, _, rfl, rfl, (Box.new _ _ _ (by first | rfl | (simp; done))), ((m10.set _ _).alloc _), ((z2.other (by omega) _ _).alloc _), by first | omega | (simp; omega), by first | omega | (simp; omega), by first | omega | (simp; omega), by first | omega | (simp; omega), by first | omega | (simp; omega), ((hR1.box m10 _ _).alloc _), ((hR2.box m10 _ _).alloc _), (Below.alloc (below_set gb2 (by omega) _ _) (by first | omega | simp <;> omega) _)⟩
  ·go_wp2_with fail; go_meet; exact ⟨_, _, _, _, _, _, _, _, _, _, rfl, rfl, ((m20.set _ _).other (by omega) _ _), ((m10.other (by omega) _ _).set _ _), ((z2.other (by omega) _ _).other (by omega) _ _), by first | omega | (simp; omega), by first | omega | (simp; omega), by first | omega | (simp; omega), by first | omega | (simp; omega), by first | omega | (simp; omega), ((hR1.box m20 _ _).box (m10.other (by omega) _ _) _ _), ((hR2.box m20 _ _).box (m10.other (by omega) _ _) _ _), (below_set (below_set gb2 (by omega) _ _) (by omega) _ _)⟩
  ·go_wp2_with fail; go_meet; exact ⟨_, _, _, _, _, _, _, _, _, _, rfl, rfl, ((m11.set _ _).other (by omega) _ _), ((m10.other (by omega) _ _).set _ _), ((z2.other (by omega) _ _).other (by omega) _ _), by first | omega | (simp; omega), by first | omega | (simp; omega), by first | omega | (simp; omega), by first | omega | (simp; omega), by first | omega | (simp; omega), ((hR1.box m11 _ _).box (m10.other (by omega) _ _) _ _), ((hR2.box m11 _ _).box (m10.other (by omega) _ _) _ _), (below_set (below_set gb2 (by omega) _ _) (by omega) _ _)⟩
 case rest =>
  obtain ⟨P, Q, sb, so, sn, sc, tb, to_, tn, tc, rfl, rfl, p5, p6, p4, gP, gQ, hPQ, n1, n2, hR, hS, hbw⟩ := hcut
  obtain ⟨f, f1, f2, f3, f4, f5⟩ := hR.ex
  obtain ⟨g, g1, g2, g3, g4, g5⟩ := hS.ex
  have FA := Lib.hid (f4.few f3 f1 f2 hx (by omega)); have GA := Lib.hid (g4.few g3 g1 g2 hy (by omega))
  have fv := Lib.hid f4.val; have gv := Lib.hid g4.val
  have xs : Hid (x = sgn sb x.natAbs) := Lib.hid (by rw [f5]; exact (sgn_self x).symm)
  have ys : Hid (y = sgn tb y.natAbs) := Lib.hid (by rw [g5]; exact (sgn_self y).symm)
  have b5 := Lib.hid p5; have b6 := Lib.hid p6; have b4 := Lib.hid p4; have hbw' := Lib.hid hbw
  clear hR hS f3 f4 f5 g3 g4 g5 hbw x0 x1 x2 hb0 f1 f2 g1 g2
  have c50 := p5.c0; have c60 := p6.c0
  clear p4
  by_cases hst : sb = tb
  ·subst hst
   clear p5 p6
   go_wp2_with fail
   have a0 := b5.out.drew; have a1 := b6.out.drew; have a2 := b4.out.drew
   go_region_held3 (fun w' => w'.cell? ⟨P, 0, none⟩ = some (.bool sb) ∧ w'.cell? ⟨P, 1, none⟩ = some (.slice so sn sc) ∧ w'.cell? ⟨Q, 1, none⟩ = some (.slice to_ tn tc))
    (first | with_reducible exact ⟨a0.c0, a0.c1, a1.c1⟩ | with_reducible exact ⟨d0.c0, d0.c1, d1.c1⟩ | with_reducible exact ⟨i0.c0, i0.c1, i1.c1⟩ | with_reducible exact ⟨(i0.other n1 _ _).c0, (i0.other n1 _ _).c1, (i1.other n2 _ _).c1⟩ | go_keep)
    (first
    | (go_at_call 141; refine (refAdd_any so to_ sn sc tn tc f g _ (FA.out.1.below (Below.refl _ _).drew) (GA.out.1.below (Below.refl _ _).drew) (by have := FA.out.2; have := GA.out.2; omega)).mono ?_; rintro e w3 ⟨ko, kn, kc, k, rfl, k1, k2, k3, k4, hb3⟩; have hb3 := (Below.refl _ _).drew.trans hb3; have d0 := b5.out.later hb3; have d1 := b6.out.later hb3; have d2 := b4.out.later hb3; have hb4 := below_then hbw'.out (Nat.le_refl _) hb3)
    | (go_at_call 95; refine (rNorm_any sb ko kn kc (x + y) _ ⟨k, k4.arg k3 k1 k2 (sum_small (k := M) (by omega) (by rw [fv.out]; exact hx) (by rw [gv.out]; exact hy)), by rw [k4.val, fv.out, gv.out, ← sgn_add, ← xs.out, ← ys.out]⟩).mono ?_; rintro e w5 ⟨vb, vo, vn, vc, rfl, hR, hb5⟩; have i0 := d0.later hb5; have i1 := d1.later hb5; have i2 := d2.later hb5; have hb6 := below_then hb4 (Nat.le_refl _) hb5; have q1 := i2.c0; have q2 := i2.c1; have q3 := i2.fr 0; have q4 := i2.fr 1))
   have z9 := i2.set (.bool vb) (.slice vo vn vc)
   have e0 := z9.c0; have e1 := z9.c1
   clear z9
   go_wp2_with fail
   refine bodyPost_ret (v := .agg #[.bool vb, .slice vo vn vc]) (by simp [results, Tryz.results128, go_sem, e0, e1]) rfl ?_
   exact IntPost.stored hR i2 hb6 (by omega)
  ·have hst' : (sb == tb) = false := by simp [hst]
   have c51 := p5.c1; have c61 := p6.c1
   clear p5 p6
   go_wp2_with fail
   refine (refCmp_any so to_ sn sc tn tc f g _ FA.out.1 GA.out.1).mono ?_
   rw [fv.out, gv.out]
   rintro e w' ⟨rfl, rfl⟩
   rcases Nat.lt_trichotomy x.natAbs y.natAbs with hle | heq | hgt
   ·rw [cmpI_lt (Int.ofNat_lt.2 hle)]
    clear c50 c60
    go_wp2_with fail
    refine (refSub_any to_ so tn tc sn sc g f _ GA.out.1 FA.out.1).mono ?_
    rw [fv.out, gv.out]
    rintro e w3 ⟨hb3, h⟩
    rcases h with ⟨h, _⟩ | ⟨_, ko, kn, kc, k, rfl, k1, k2, k3, k4⟩
    ·omega
    have d := (b6.out.later hb3).c0
    have z4 := Lib.hid (b4.out.later hb3)
    have hb4 := Lib.hid (below_then hbw'.out (Nat.le_refl _) hb3)
    have hW := Lib.hid (show Whole w3 tb ko kn kc (x + y) from ⟨k, k4.arg k3 k1 k2 (Nat.lt_of_le_of_lt (Nat.sub_le _ _) (small2 (k := M) (by omega) hy)), by
     rw [k4.val, ← sgn_sub (fun e => hst e.symm) (Nat.le_of_lt hle), ← xs.out, ← ys.out, Int.add_comm]⟩)
    clear hb3 k3 k4 c51 c61
    go_wp2_with fail
    refine (rNorm_any tb ko kn kc (x + y) _ hW.out).mono ?_
    rintro e w5 ⟨vb, vo, vn, vc, rfl, hR, hb5⟩
    have z5 := z4.out.later hb5
    have q1 := z5.c0; have q2 := z5.c1; have q3 := z5.fr 0; have q4 := z5.fr 1
    have z9 := z5.set (.bool vb) (.slice vo vn vc)
    have e0 := z9.c0; have e1 := z9.c1
    have hb6 := Lib.hid (below_then hb4.out (Nat.le_refl _) hb5); have hR' := Lib.hid hR; have z5' := Lib.hid z5
    clear z9 z5 hR hb5 d
    go_wp2_with fail
    refine bodyPost_ret (v := .agg #[.bool vb, .slice vo vn vc]) (by simp [results, Tryz.results128, go_sem, e0, e1]) rfl ?_
    exact IntPost.stored hR'.out z5'.out hb6.out (by omega)
   ·have hle : y.natAbs ≤ x.natAbs := Nat.le_of_eq heq.symm
    rw [cmpI_eq (show (x.natAbs : Int) = y.natAbs by rw [heq])]
    clear c50 c60
    go_wp2_with fail
    refine (refSub_any so to_ sn sc tn tc f g _ FA.out.1 GA.out.1).mono ?_
    rw [fv.out, gv.out]
    rintro e w3 ⟨hb3, h⟩
    rcases h with ⟨h, _⟩ | ⟨_, ko, kn, kc, k, rfl, k1, k2, k3, k4⟩
    ·omega
    have d := (b5.out.later hb3).c0
    have z4 := Lib.hid (b4.out.later hb3)
    have hb4 := Lib.hid (below_then hbw'.out (Nat.le_refl _) hb3)
    have hW := Lib.hid (show Whole w3 sb ko kn kc (x + y) from ⟨k, k4.arg k3 k1 k2 (Nat.lt_of_le_of_lt (Nat.sub_le _ _) (small2 (k := M) (by omega) hx)), by
     rw [k4.val, ← sgn_sub hst hle, ← xs.out, ← ys.out]⟩)
    clear hb3 k3 k4 c51 c61
    go_wp2_with fail
    refine (rNorm_any sb ko kn kc (x + y) _ hW.out).mono ?_
    rintro e w5 ⟨vb, vo, vn, vc, rfl, hR, hb5⟩
    have z5 := z4.out.later hb5
    have q1 := z5.c0; have q2 := z5.c1; have q3 := z5.fr 0; have q4 := z5.fr 1
    have z9 := z5.set (.bool vb) (.slice vo vn vc)
    have e0 := z9.c0; have e1 := z9.c1
    have hb6 := Lib.hid (below_then hb4.out (Nat.le_refl _) hb5); have hR' := Lib.hid hR; have z5' := Lib.hid z5
    clear z9 z5 hR hb5 d
    go_wp2_with fail
    refine bodyPost_ret (v := .agg #[.bool vb, .slice vo vn vc]) (by simp [results, Tryz.results128, go_sem, e0, e1]) rfl ?_
    exact IntPost.stored hR'.out z5'.out hb6.out (by omega)
   ·have hle : y.natAbs ≤ x.natAbs := Nat.le_of_lt hgt
    rw [cmpI_gt (Int.ofNat_lt.2 hgt)]
    clear c50 c60
    go_wp2_with fail
    refine (refSub_any so to_ sn sc tn tc f g _ FA.out.1 GA.out.1).mono ?_
    rw [fv.out, gv.out]
    rintro e w3 ⟨hb3, h⟩
    rcases h with ⟨h, _⟩ | ⟨_, ko, kn, kc, k, rfl, k1, k2, k3, k4⟩
    ·omega
    have d := (b5.out.later hb3).c0
    have z4 := Lib.hid (b4.out.later hb3)
    have hb4 := Lib.hid (below_then hbw'.out (Nat.le_refl _) hb3)
    have hW := Lib.hid (show Whole w3 sb ko kn kc (x + y) from ⟨k, k4.arg k3 k1 k2 (Nat.lt_of_le_of_lt (Nat.sub_le _ _) (small2 (k := M) (by omega) hx)), by
     rw [k4.val, ← sgn_sub hst hle, ← xs.out, ← ys.out]⟩)
    clear hb3 k3 k4 c51 c61
    go_wp2_with fail
    refine (rNorm_any sb ko kn kc (x + y) _ hW.out).mono ?_
    rintro e w5 ⟨vb, vo, vn, vc, rfl, hR, hb5⟩
    have z5 := z4.out.later hb5
    have q1 := z5.c0; have q2 := z5.c1; have q3 := z5.fr 0; have q4 := z5.fr 1
    have z9 := z5.set (.bool vb) (.slice vo vn vc)
    have e0 := z9.c0; have e1 := z9.c1
    have hb6 := Lib.hid (below_then hb4.out (Nat.le_refl _) hb5); have hR' := Lib.hid hR; have z5' := Lib.hid z5
    clear z9 z5 hR hb5 d
    go_wp2_with fail
    refine bodyPost_ret (v := .agg #[.bool vb, .slice vo vn vc]) (by simp [results, Tryz.results128, go_sem, e0, e1]) rfl ?_
    exact IntPost.stored hR'.out z5'.out hb6.out (by omega)
end Go.Proofs.YtaepelipkkmeaaaGreat
namespace Go.Proofs.YtaepelipkkmeaaaGreat
open Go.RowKit Num
theorem add_any (ao bo : Option Addr) (n nc m mc : Nat) (f g : Nat → Nat) (w : World) (A : Arg w ao n nc f) (B : Arg w bo m mc g) :
  Calls Tryz.prog 155 #[.slice ao n nc, .slice bo m mc] w (NumPost (val f n + val g m) w) := by
 obtain ⟨hn, hnc, hnb, hf, lf⟩ := A
 obtain ⟨hm, hmc, hmb, hg, lg⟩ := B
 obtain ⟨i32, hi, hz0, hz1, hz2⟩ := info_parts info32
 go_enter Tryz.func155, Tryz.ntmps155
 go_wp2_with fail
 refine (trim_any ao n nc f w hn (by omega) hf).mono ?_
 rintro e w' ⟨k, hk, rfl, htf0, hvf0, rfl⟩
 have htf := Lib.hid htf0; have hvf := Lib.hid hvf0; clear htf0 hvf0
 go_wp2_with fail
 refine (trim_any bo m mc g w hm (by omega) hg).mono ?_
 rintro e w' ⟨l, hl, rfl, htg0, hvg0, rfl⟩
 have htg := Lib.hid htg0; have hvg := Lib.hid hvg0; clear htg0 hvg0
 obtain ⟨N, hN0⟩ : ∃ N, N = max k l + 1 := ⟨_, rfl⟩
 have hNk : k ≤ N := by omega
 have hNl : l ≤ N := by omega
 have hNb : N ≤ 1000001 := by omega
 have hN := Lib.hid hN0; clear hN0
 go_wp2_with (at_make; refine wpList_make_full _ rfl (.tmp 17) (.tmp 17) 22 rfl w.heap.size 104 i32 (.int .u32 0) 1 Tryz.underlying22 hi hz0 hz1 .i64 .i64 _ _ N rfl rfl (by rw [hN.out]; omega) (by rw [hN.out]; omega) (by rw [hz2]; omega) (by unfold maxLen; omega) (Nat.le_refl _) ?_)
 intro w1 hown hgrow
 have hblk0 := Lib.hid (Blk.of_made hown)
 have hgr0 := Lib.hid (grown_any hgrow (some w.heap.size))
 clear hown hgrow
 have hsf := Lib.hid (hf.mono hk); have hsg := Lib.hid (hg.mono hl)
 have hlf := Lib.hid (lf.mono hk); have hlg := Lib.hid (lg.mono hl)
 clear hf hg lf lg
 go_wp2_with fail
 go_loopw [6, 21] (fun cv i wr => ∃ (j : Nat) (F : Nat → Nat) (c : Nat), j ≤ N ∧ i = .int .i64 j ∧ cv = .int .u32 c ∧ c ≤ 1 ∧ Blk wr w.heap.size N F ∧ Lim F N ∧ val F j + c * pw j = val (at0 f k) j + val (at0 g l) j ∧ w.grownBy wr (some w.heap.size))
  (fun _ i _ => N - (intOf i).toNat)
 case atStart => exact ⟨0, fun _ => 0, 0, Nat.zero_le _, rfl, rfl, by omega, hblk0.out, fun j _ => (by decide : 0 < 4294967296), rfl, hgr0.out⟩
 case round =>
  obtain ⟨j, F, c, hj, rfl, rfl, hc, hblk1, hlim1, hval1, hgr1⟩ := hrel
  have hlim := Lib.hid hlim1; have hval := Lib.hid hval1; have hgr := Lib.hid hgr1; have hblk := Lib.hid hblk1; clear hlim1 hval1 hgr1 hblk1
  have hsfr := hsf.out.grown hsf.out.off hgr.out
  have hsgr := hsg.out.grown hsg.out.off hgr.out
  have bf := at0_lt hlf.out j
  have bg := at0_lt hlg.out j
  by_cases hlt : j < N
  ·have hcell := hblk.out.cell j hlt
   have hfree := hblk.out.free j
   go_wp2_with fail
   refine (limb_any ao k nc j f wr (by omega) hsfr).mono ?_
   rintro e w' ⟨rfl, rfl⟩
   rw [Int.toNat_natCast]
   go_wp2_with fail
   refine (limb_any bo l mc j g wr (by omega) hsgr).mono ?_
   rintro e w' ⟨rfl, rfl⟩
   rw [Int.toNat_natCast]
   go_wp2_with fail
   refine (add32_any (at0 f k j) (at0 g l j) c wr (by omega) (by omega) (by omega) (by omega) (by omega) (by omega)).mono ?_
   rintro e w' ⟨rfl, rfl⟩
   go_wp2_with fail
   go_roundw
   case rel =>
    refine ⟨j + 1, put F j ((at0 f k j + at0 g l j + c) % 4294967296), (at0 f k j + at0 g l j + c) / 4294967296, by omega, by go_num, int_eq (by omega), by omega, hblk.out.set j hlt _ _ (by omega),
     put_lim hlim.out (Nat.mod_lt _ (by decide)), ?_, grown_setCell hgr.out _ _⟩
    rw [val_put_succ, val_succ, val_succ, pw_succ]
    exact sum_step hval.out (by omega)
   case measure => simp [intOf]; omega
  ·obtain rfl : j = N := by omega
   have hsl := Sl.of_blk0 hblk.out j (Nat.le_refl _)
   go_wp2_with fail
   refine (trim_any (some ⟨w.heap.size, 0, none⟩) j j F wr (Nat.le_refl _) (by omega) hsl).mono ?_
   rintro e w' ⟨q, hq, rfl, htq0, hvq0, rfl⟩
   have htq := Lib.hid htq0; have hvq := Lib.hid hvq0; clear htq0 hvq0
   go_wp2_with fail
   go_ret
   refine ⟨some ⟨w.heap.size, 0, none⟩, q, j, F, rfl, hq, by omega, hsl.mono hq, ⟨hlim.out.mono hq, htq.out, ?_⟩, grown_below hgr.out (Nat.le_refl _) (Nat.le_refl _)⟩
   have e1 := hval.out
   rw [val_at0_ge hNk, val_at0_ge hNl] at e1
   obtain ⟨M, rfl⟩ : ∃ M, j = M + 1 := ⟨max k l, hN.out⟩
   have hM : M = max k l := by have := hN.out; omega
   have a1 : val f k < pw M := Nat.lt_of_lt_of_le (val_lt hlf.out) (pw_le (by omega))
   have a2 : val g l < pw M := Nat.lt_of_lt_of_le (val_lt hlg.out) (pw_le (by omega))
   rw [hvq.out, (sum_end e1 a1 a2).1, hvf.out, hvg.out]
end Go.Proofs.YtaepelipkkmeaaaGreat
