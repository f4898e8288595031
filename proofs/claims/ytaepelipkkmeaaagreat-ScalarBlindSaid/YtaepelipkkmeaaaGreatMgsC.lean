/-
  ratio.upper, lower, over, long; ratio.Make.
  nat.addTimes and nat.Mul: the product.
  whole.Neg, whole.Mul, whole.Add, whole.Sub.
  scrimref03.Sub, Cmp, Mul.
  Powers: what a power comes to, square by square, and whole.Pow.
  ratio.Whole, Of, Sign, Neg, Abs, Cmp.
  scrimref03.Of; scrimlaw03.awake: chapter 3's examples hold.
  scrimref02.Same of any limbs; scrimref04.Same, Right.
-/
import Derived.Test.YtaepelipkkmeaaaGreatMgsA
import Derived.Test.YtaepelipkkmeaaaGreatMgsB
import Derived.WalkKit
import Derived.Lib.Small
import Derived.Lib.Walk
import Derived.Lib.BitFns
import Derived.Deep.QuietTactic
import Derived.BigQuiet
import Derived.Deep.LoopGhost
import Derived.Laws.CopyOwn
import Derived.Deep.RegionWith
import Derived.WalkSpells
import Derived.WalkLawsBesides
import Derived.Lib.Hide
import Derived.Deep.RegionHeld3
import Derived.Deep.DrawnRows
import Derived.Deep.CutRange
namespace Go.Proofs.YtaepelipkkmeaaaGreat

open Go.RowKit Num

attribute [local go_sem ↓] Go.wp_at_zero Go.wp_at_succ

set_option maxHeartbeats 1000000 in
theorem upper_any (ab : Bool) (ap aq : Option Addr) (an ac am ae : Nat) (w : World) :
    Calls Tryz.prog 107 #[.agg #[.bool ab, .slice ap an ac, .slice aq am ae]] w (Says (.agg #[.bool ab, .slice ap an ac]) w) := by
  go_enter Tryz.func107, Tryz.ntmps107
  go_wp2_with fail
  refine bodyPost_ret (v := .agg #[.bool ab, .slice ap an ac]) (by simp [results, Tryz.results107, go_sem]) rfl ?_
  exact ⟨rfl, ((Below.refl _ w).alloc (Nat.le_refl _) _).alloc (by simp) _⟩

set_option maxHeartbeats 1000000 in
theorem lower_any (ab : Bool) (ap aq : Option Addr) (an ac am ae : Nat) (w : World) :
    Calls Tryz.prog 113 #[.agg #[.bool ab, .slice ap an ac, .slice aq am ae]] w (Says (.agg #[.bool false, .slice aq am ae]) w) := by
  go_enter Tryz.func113, Tryz.ntmps113
  go_wp2_with fail
  refine bodyPost_ret (v := .agg #[.bool false, .slice aq am ae]) (by simp [results, Tryz.results113, go_sem]) rfl ?_
  exact ⟨rfl, ((Below.refl _ w).alloc (Nat.le_refl _) _).alloc (by simp) _⟩

set_option maxHeartbeats 1000000 in
theorem long_no (ao : Option Addr) (n nc : Nat) (w : World) (h : n ≤ 32) :
    Calls Tryz.prog 151 #[.slice ao n nc] w (Says (.bool false) w) := by
  have hd : decide ((32 : Int) < (n : Int)) = false := by rw [decide_eq_false_iff_not]; omega
  go_enter Tryz.func151, Tryz.ntmps151
  go_wp2_with fail
  go_ret
  exact ⟨rfl, Below.refl _ w⟩

set_option maxHeartbeats 1000000 in
theorem long_yes (ao : Option Addr) (n nc : Nat) (w : World) (h : 32 < n) :
    Calls Tryz.prog 151 #[.slice ao n nc] w (Says (.bool true) w) := by
  have hd : decide ((32 : Int) < (n : Int)) = true := by rw [decide_eq_true_iff]; omega
  go_enter Tryz.func151, Tryz.ntmps151
  go_wp2_with fail
  go_ret
  exact ⟨rfl, Below.refl _ w⟩

set_option maxHeartbeats 1000000 in
theorem over_any (b : Bool) (ao bo : Option Addr) (n nc m mc : Nat) (x : Int) (g : Nat → Nat) (w : World) (A : Right w b ao n nc x) (B : Arg w bo m mc g) :
    Calls Tryz.prog 105 #[.agg #[.bool b, .slice ao n nc], .slice bo m mc] w (RatPost x (val g m) w) := by
  have A' := Lib.hid A; have B' := Lib.hid B
  clear A B
  go_enter Tryz.func105, Tryz.ntmps105
  go_wp2_with fail
  refine gen_wp (fun w' => Below w.heap.size w w' ∧ Box w' w.heap.size (.bool b) (.slice ao n nc) ∧ Box3 w' (w.heap.size + 1) (.bool false) (.slice none 0 0) (.slice none 0 0))
    ⟨(((Below.refl _ _).alloc (Nat.le_refl _) _).alloc (by first | (simp; done) | (simp; omega)) _), ((Box.new _ _ _ rfl).alloc _), (Box3.new _ _ _ _ (by first | (simp; done) | (simp; omega)))⟩ ?_
  rintro w0 ⟨bb, x0, x1⟩
  have bb := bb.drew; have x0 := x0.drew; have x1 := x1.drew
  have sa0 := True.intro
  go_region_held3 (fun w' => w'.cell? ⟨w.heap.size, 0, none⟩ = some (.bool b) ∧ w'.cell? ⟨w.heap.size, 1, none⟩ = some (.slice ao n nc))
    (first | with_reducible exact ⟨x0.c0, x0.c1⟩ | with_reducible exact ⟨(x0.other3 (by omega) _ _ _).c0, (x0.other3 (by omega) _ _ _).c1⟩ | go_keep)
    (first
    | (go_at_call 149; clear sa0; refine (norm_any bo m mc g _ (B'.out.below bb)).mono ?_; rintro e w' ⟨co, cn, cc, c, rfl, h1, h2, h3, h4, hb⟩; have bb := below_then bb (Nat.le_refl _) hb; have x0 := x0.later hb; have x1 := x1.later hb; clear hb; have q0 := x1.c0; have q1 := x1.c1; have q2 := x1.c2; have q3 := x1.fr 0; have q4 := x1.fr 1; have q5 := x1.fr 2; have sa1 := True.intro))
  have z := x1.set (.bool b) (.slice ao n nc) (.slice co cn cc)
  have e0 := z.c0; have e1 := z.c1; have e2 := z.c2
  have hR : Hid (Rt w' b ao n nc co cn cc x (val g m)) := Lib.hid ⟨A'.out.below bb, canon_right (b := false) h1 h2 h3 h4 (.inr rfl)⟩
  have x1' := Lib.hid x1; have bb' := Lib.hid bb
  clear z h3 h4 x1 bb x0 A' B'
  go_wp2_with fail
  refine bodyPost_ret (v := .agg #[.bool b, .slice ao n nc, .slice co cn cc]) (by simp [results, Tryz.results105, go_sem, e0, e1, e2]) rfl ?_
  exact RatPost.stored hR.out x1'.out bb'.out (by omega)

theorem make_bad {p q e : Int} {w w' : World} {E : Ending} (h : mkE p q = e) (he : e ≠ 0) (k : ResPost 0 0 e w E w') : MakePost p q w E w' := by
  subst h
  show ResPost (mkT p q) (mkB p q) (mkE p q) w E w'
  rw [(mk_bad he).1, (mk_bad he).2]
  exact k

theorem make_good {p q : Int} {w w' : World} {E : Ending} (h : mkE p q = 0) (k : ResPost (mkT p q) (mkB p q) 0 w E w') : MakePost p q w E w' := by
  show ResPost (mkT p q) (mkB p q) (mkE p q) w E w'
  rw [h]
  exact k

theorem whole_abs {w : World} {b : Bool} {ao : Option Addr} {n nc : Nat} {x : Int} (h : Whole w b ao n nc x) : ∃ f, Arg w ao n nc f ∧ val f n = x.natAbs := by
  obtain ⟨f, A, rfl⟩ := h.ex
  exact ⟨f, A, by rw [sgn_abs]⟩

theorem mkE_three {p q : Int} (h : q = 0) : mkE p q = 3 := mk_three.2 h

theorem mkE_seven {p q : Int} (h : q ≠ 0) (k : pw 32 ≤ p.natAbs / mkG p q ∨ pw 32 ≤ q.natAbs / mkG p q) : mkE p q = 7 := by
  unfold mkE
  rw [if_neg h, if_neg (by omega)]

theorem canon_long {v n : Nat} {f : Nat → Nat} (c : Canon v n f) (h : 32 < n) : pw 32 ≤ v := by
  apply Nat.le_of_not_lt
  intro hl
  have := c.len_le hl
  omega

theorem canon_short {v n : Nat} {f : Nat → Nat} (c : Canon v n f) (h : n ≤ 32) : v < pw 32 := Nat.lt_of_lt_of_le c.lt_pw (pw_le h)

theorem sign_small (p q : Int) : IntKind.i64.wrap (p.sign * q.sign) = p.sign * q.sign := by
  have e : (p * q).sign = p.sign * q.sign := Int.sign_mul ..
  rw [← e]
  rcases Int.lt_trichotomy (p * q) 0 with h | h | h
  · rw [Int.sign_eq_neg_one_of_neg h]; rfl
  · rw [h]; rfl
  · rw [Int.sign_eq_one_of_pos h]; rfl

set_option maxRecDepth 20000 in
set_option maxHeartbeats 4000000 in
theorem make_any (b c : Bool) (ao bo : Option Addr) (n nc m mc : Nat) (p q : Int) (w : World) (A : Whole w b ao n nc p) (B : Whole w c bo m mc q) :
    Calls Tryz.prog 111 #[.agg #[.bool b, .slice ao n nc], .agg #[.bool c, .slice bo m mc]] w (MakePost p q w) := by
  have A' := Lib.hid A; have B' := Lib.hid B
  clear A B
  go_enter Tryz.func111, Tryz.ntmps111
  go_wp2_with fail
  refine gen_calls (fun w' => Below w.heap.size w w' ∧ Box w' w.heap.size (.bool b) (.slice ao n nc) ∧ Box w' (w.heap.size + 1) (.bool c) (.slice bo m mc) ∧ Box3 w' (w.heap.size + 2) (.bool false) (.slice none 0 0) (.slice none 0 0))
    ⟨((((Below.refl _ _).alloc (Nat.le_refl _) _).alloc (by first | (simp; done) | (simp; omega)) _).alloc (by first | (simp; done) | (simp; omega)) _), (((Box.new _ _ _ rfl).alloc _).alloc _), ((Box.new _ _ _ (by first | (simp; done) | (simp; omega))).alloc _), (Box3.new _ _ _ _ (by first | (simp; done) | (simp; omega)))⟩ ?_
  rintro w0 ⟨hb0, x0, x1, x2⟩
  refine (wSign_any c bo m mc q _ (B'.out.below hb0)).mono ?_
  by_cases hq : q = 0
  · have hs : q.sign = 0 := by rw [hq]; rfl
    rw [hs]
    have hE := Lib.hid (mkE_three (p := p) hq)
    clear hs hq
    rintro e w1 ⟨rfl, hb⟩
    have x2 := x2.later hb
    have bb := Lib.hid (below_then hb0 (Nat.le_refl _) hb)
    have x2' := Lib.hid x2
    have q0 := x2.c0; have q1 := x2.c1; have q2 := x2.c2; have q3 := x2.fr 0; have q4 := x2.fr 1; have q5 := x2.fr 2
    have z := x2.set (.bool false) (.slice none 0 0) (.slice none 0 0)
    have e0 := z.c0; have e1 := z.c1; have e2 := z.c2
    clear x0 x1 x2 hb hb0 z A' B'
    go_wp2_with fail
    refine bodyPost_ret (v := .tuple #[.agg #[.bool false, .slice none 0 0, .slice none 0 0], .int .i64 3]) (by simp [results, Tryz.results111, go_sem, e0, e1, e2]) rfl ?_
    exact make_bad hE.out (by decide) (ResPost.stored (rt_zero _) x2'.out bb.out (by omega))
  have hs : ¬ q.sign = 0 := fun e => hq (Int.sign_eq_zero_iff_zero.1 e)
  have hq' := Lib.hid hq
  clear hq
  rintro e w1 ⟨rfl, hb⟩
  have x0 := x0.later hb; have x1 := x1.later hb; have x2 := Lib.hid (x2.later hb)
  have bb := Lib.hid (below_then hb0 (Nat.le_refl _) hb)
  have A1 := Lib.hid (A'.out.below bb.out); have B1 := Lib.hid (B'.out.below bb.out)
  have p0 := x0.c1; have p1 := x1.c1
  have x0' := Lib.hid x0; have x1' := Lib.hid x1
  clear hb hb0 A' B' x0 x1
  go_wp2_with fail
  clear p0 p1 hs
  obtain ⟨f, hF, hf⟩ := whole_abs A1.out
  obtain ⟨g, hG, hg⟩ := whole_abs B1.out
  have hF := Lib.hid hF; have hf := Lib.hid hf; have hG := Lib.hid hG; have hg := Lib.hid hg
  refine (gcd_any ao bo n nc m mc f g _ hF.out hG.out).mono ?_
  rw [hf.out, hg.out]
  rintro e w2 ⟨go, gn, gc, gf, rfl, g1, g2, g3, g4, hb⟩
  have g4 : Hid (Canon (mkG p q) gn gf) := Lib.hid g4
  have hfew : Hid (mkG p q < pw 1000000) := Lib.hid (Nat.lt_of_le_of_lt (Nat.le_of_dvd (by have := hq'.out; omega) (Nat.gcd_dvd_right _ _)) (by rw [← hg.out]; exact small2 hG.out.few (val_lt hG.out.lim)))
  have gA := Lib.hid (g4.out.arg g3 g1 g2 hfew.out)
  have bb := Lib.hid (below_then bb.out (Nat.le_refl _) hb)
  have x0 := x0'.out.later hb; have x1 := x1'.out.later hb; have x2 := Lib.hid (x2.out.later hb)
  have hF := Lib.hid (hF.out.below hb); have hG := Lib.hid (hG.out.below hb); have A1 := Lib.hid (A1.out.below hb); have B1 := Lib.hid (B1.out.below hb)
  have p0 := x0.c1
  have x0' := Lib.hid x0; have x1' := Lib.hid x1
  clear hb g3 hfew x0 x1
  go_wp2_with fail
  clear p0
  refine (divMod_any ao go n nc gn gc f gf _ hF.out gA.out).mono ?_
  rw [hf.out, g4.out.val]
  rintro e w3 ⟨hb, h⟩
  have hg0 : Hid (mkG p q ≠ 0) := Lib.hid (Nat.pos_iff_ne_zero.1 (mkG_pos hq'.out))
  rcases h with ⟨h, _⟩ | ⟨_, to_, tn, tc, tf, ro, rn, rc, rf, rfl, t1, t2, _, _, t3, t4, _, _⟩
  · exact absurd h hg0.out
  have t3 := Lib.hid t3; have t4 := Lib.hid t4
  have bb := Lib.hid (below_then bb.out (Nat.le_refl _) hb)
  have x0 := x0'.out.later hb; have x1 := x1'.out.later hb; have x2 := Lib.hid (x2.out.later hb)
  have hG := Lib.hid (hG.out.below hb); have A1 := Lib.hid (A1.out.below hb); have B1 := Lib.hid (B1.out.below hb); have gA := Lib.hid (gA.out.below hb)
  have p0 := x1.c1
  have x0' := Lib.hid x0; have x1' := Lib.hid x1
  clear hb x0 x1 hF
  go_wp2_with fail
  clear p0
  refine (divMod_any bo go m mc gn gc g gf _ hG.out gA.out).mono ?_
  rw [hg.out, g4.out.val]
  rintro e w4 ⟨hb, h⟩
  rcases h with ⟨h, _⟩ | ⟨_, uo, un, uc, uf, ro', rn', rc', rf', rfl, u1, u2, _, _, u3, u4, _, _⟩
  · exact absurd h hg0.out
  have u3 := Lib.hid u3; have u4 := Lib.hid u4; have t3 := Lib.hid (t3.out.below hb)
  have bb := Lib.hid (below_then bb.out (Nat.le_refl _) hb)
  have x0' := Lib.hid (x0'.out.later hb); have x1' := Lib.hid (x1'.out.later hb); have x2 := Lib.hid (x2.out.later hb)
  have A1 := Lib.hid (A1.out.below hb); have B1 := Lib.hid (B1.out.below hb)
  clear hb hG gA
  by_cases ht : 32 < tn
  · have hE := Lib.hid (mkE_seven hq'.out (.inl (canon_long t4.out ht)))
    go_wp2_with fail
    refine (long_yes to_ tn tc _ ht).mono ?_
    rintro e w5 ⟨rfl, hb⟩
    have bb := Lib.hid (below_then bb.out (Nat.le_refl _) hb)
    have x2 := x2.out.later hb
    have x2' := Lib.hid x2
    have q0 := x2.c0; have q1 := x2.c1; have q2 := x2.c2; have q3 := x2.fr 0; have q4 := x2.fr 1; have q5 := x2.fr 2
    have z := x2.set (.bool false) (.slice none 0 0) (.slice none 0 0)
    have e0 := z.c0; have e1 := z.c1; have e2 := z.c2
    clear x2 hb z ht
    go_wp2_with fail
    refine bodyPost_ret (v := .tuple #[.agg #[.bool false, .slice none 0 0, .slice none 0 0], .int .i64 7]) (by simp [results, Tryz.results111, go_sem, e0, e1, e2]) rfl ?_
    exact make_bad hE.out (by decide) (ResPost.stored (rt_zero _) x2'.out bb.out (by omega))
  have ht' := Lib.hid ht
  clear ht
  go_wp2_with fail
  refine (long_no to_ tn tc _ (Nat.le_of_not_lt ht'.out)).mono ?_
  rintro e w5 ⟨rfl, hb⟩
  have bb := Lib.hid (below_then bb.out (Nat.le_refl _) hb)
  have x0' := Lib.hid (x0'.out.later hb); have x1' := Lib.hid (x1'.out.later hb); have x2 := Lib.hid (x2.out.later hb)
  have A1 := Lib.hid (A1.out.below hb); have B1 := Lib.hid (B1.out.below hb); have t3 := Lib.hid (t3.out.below hb); have u3 := Lib.hid (u3.out.below hb)
  clear hb
  by_cases hu : 32 < un
  · have hE := Lib.hid (mkE_seven hq'.out (.inr (canon_long u4.out hu)))
    go_wp2_with fail
    refine (long_yes uo un uc _ hu).mono ?_
    rintro e w6 ⟨rfl, hb⟩
    have bb := Lib.hid (below_then bb.out (Nat.le_refl _) hb)
    have x2 := x2.out.later hb
    have x2' := Lib.hid x2
    have q0 := x2.c0; have q1 := x2.c1; have q2 := x2.c2; have q3 := x2.fr 0; have q4 := x2.fr 1; have q5 := x2.fr 2
    have z := x2.set (.bool false) (.slice none 0 0) (.slice none 0 0)
    have e0 := z.c0; have e1 := z.c1; have e2 := z.c2
    clear x2 hb z hu
    go_wp2_with fail
    refine bodyPost_ret (v := .tuple #[.agg #[.bool false, .slice none 0 0, .slice none 0 0], .int .i64 7]) (by simp [results, Tryz.results111, go_sem, e0, e1, e2]) rfl ?_
    exact make_bad hE.out (by decide) (ResPost.stored (rt_zero _) x2'.out bb.out (by omega))
  have hu' := Lib.hid hu
  clear hu
  go_wp2_with fail
  refine (long_no uo un uc _ (Nat.le_of_not_lt hu'.out)).mono ?_
  rintro e w6 ⟨rfl, hb⟩
  have bb := Lib.hid (below_then bb.out (Nat.le_refl _) hb)
  have x0' := Lib.hid (x0'.out.later hb); have x1' := Lib.hid (x1'.out.later hb); have x2 := Lib.hid (x2.out.later hb)
  have A1 := Lib.hid (A1.out.below hb); have B1 := Lib.hid (B1.out.below hb); have t3 := Lib.hid (t3.out.below hb); have u3 := Lib.hid (u3.out.below hb)
  have hE : Hid (mkE p q = 0) := Lib.hid (mkE_ok.2 ⟨hq'.out, canon_short t4.out (Nat.le_of_not_lt ht'.out), canon_short u4.out (Nat.le_of_not_lt hu'.out)⟩)
  clear hb
  go_wp2_with fail
  have bb := bb.out.drew; have x0 := x0'.out.drew; have x1 := x1'.out.drew; have x2 := x2.out.drew
  have A1 := A1.out.below (Below.refl _ _).drew; have B1 := B1.out.below (Below.refl _ _).drew
  have t3 := t3.out.below (Below.refl _ _).drew; have u3 := u3.out.below (Below.refl _ _).drew
  clear x0' x1'
  have sb0 := True.intro
  go_region_held3 (fun w' => w'.cell? ⟨w.heap.size, 0, none⟩ = some (.bool b) ∧ w'.cell? ⟨w.heap.size, 1, none⟩ = some (.slice ao n nc) ∧ w'.cell? ⟨(w.heap.size + 1), 0, none⟩ = some (.bool c) ∧ w'.cell? ⟨(w.heap.size + 1), 1, none⟩ = some (.slice bo m mc))
    (first | with_reducible exact ⟨x0.c0, x0.c1, x1.c0, x1.c1⟩ | with_reducible exact ⟨(x0.other3 (by omega) _ _ _).c0, (x0.other3 (by omega) _ _ _).c1, (x1.other3 (by omega) _ _ _).c0, (x1.other3 (by omega) _ _ _).c1⟩ | go_keep)
    (first
    | (go_at_call 110; clear sb0; refine (wSign_any b ao n nc p _ A1).mono ?_; rintro e w' ⟨rfl, hb⟩; have bb := below_then bb (Nat.le_refl _) hb; have x0 := x0.later hb; have x1 := x1.later hb; have x2 := x2.later hb; have A1 := A1.below hb; have B1 := B1.below hb; have t3 := t3.below hb; have u3 := u3.below hb; clear hb; have sb1 := True.intro)
    | (go_at_call 110; clear sb1; refine (wSign_any c bo m mc q _ B1).mono ?_; rintro e w' ⟨rfl, hb⟩; have bb := below_then bb (Nat.le_refl _) hb; have x0 := x0.later hb; have x1 := x1.later hb; have x2 := x2.later hb; have A1 := A1.below hb; have B1 := B1.below hb; have t3 := t3.below hb; have u3 := u3.below hb; clear hb; have q0 := x2.c0; have q1 := x2.c1; have q2 := x2.c2; have q3 := x2.fr 0; have q4 := x2.fr 1; have q5 := x2.fr 2; have sb2 := True.intro))
  have z := x2.set (.bool (decide (p.sign * q.sign < 0))) (.slice to_ tn tc) (.slice uo un uc)
  have e0 := z.c0; have e1 := z.c1; have e2 := z.c2
  have hR : Hid (Rt w' (decide (p.sign * q.sign < 0)) to_ tn tc uo un uc (mkT p q) (mkB p q)) := Lib.hid ⟨by
    rw [mkT_ok hE.out]
    refine canon_right t1 t2 t3 t4.out ?_
    by_cases h0 : 0 < tn
    · exact .inl h0
    · refine .inr ?_
      have : tn = 0 := by omega
      have e := t4.out.ne_zero.1 this
      have hp : p = 0 := by
        rcases Nat.div_eq_zero_iff.1 e with h | h
        · exact absurd h hg0.out
        · have hd : mkG p q ∣ p.natAbs := Nat.gcd_dvd_left _ _
          have := Nat.eq_zero_of_dvd_of_lt hd h
          omega
      rw [hp]; simp, by
    rw [mkB_ok hE.out]
    exact canon_right (b := false) u1 u2 u3 u4.out (.inr rfl)⟩
  have x2' := Lib.hid x2; have bb' := Lib.hid bb
  clear z x2 bb x0 x1 t3 u3 A1 B1
  go_wp2_with fail
  refine bodyPost_ret (v := .tuple #[.agg #[.bool (decide (p.sign * q.sign < 0)), .slice to_ tn tc, .slice uo un uc], .int .i64 0]) (by simp [results, Tryz.results111, go_sem, sign_small, e0, e1, e2]) rfl ?_
  have := ResPost.stored (E := 0) hR.out x2'.out bb'.out (Nat.le_add_right _ 2)
  refine make_good hE.out ?_
  simpa only [sign_small] using this

end Go.Proofs.YtaepelipkkmeaaaGreat
namespace Go.Proofs.YtaepelipkkmeaaaGreat

open Go.RowKit Num

/-- addTimes: in a block of N limbs the m limbs from off on become, with the limb that is told, themselves and x times the other number; nothing else turns. -/
def TimesPost (b N off m x : Nat) (F g : Nat → Nat) (w : World) (e : Ending) (w' : World) : Prop :=
  ∃ (c : Nat) (F' : Nat → Nat), e = .returned (.int .u32 c) ∧ c < 4294967296 ∧ Blk w' b N F' ∧ Lim F' N ∧ (∀ j, (j < off ∨ off + m ≤ j) → F' j = F j) ∧
    val (fun j => F' (off + j)) m + c * pw m = val (fun j => F (off + j)) m + x * val g m ∧ w.grownBy w' (some b)

set_option maxHeartbeats 1000000 in
theorem addTimes_any (b N off m cs : Nat) (bo : Option Addr) (mc x : Nat) (F g : Nat → Nat) (w : World) (hN : off + m ≤ N) (hmb : m ≤ 1000000)
    (hF : Blk w b N F) (lF : Lim F N) (hg : Sl w bo m g) (hi : Off b bo m) (lg : Lim g m) (hx : x < 4294967296) :
    Calls Tryz.prog 176 #[.slice (some ⟨b, off, none⟩) m cs, .slice bo m mc, .int .u32 x] w (TimesPost b N off m x F g w) := by
  have hF' := Lib.hid hF; have lF' := Lib.hid lF; have hg' := Lib.hid hg; have hi' := Lib.hid hi; have lg' := Lib.hid lg
  clear hF lF hg hi lg
  go_enter Tryz.func176, Tryz.ntmps176
  go_wp2_with fail
  go_loopw [7, 12] (fun cv i wr => ∃ (k : Nat) (G : Nat → Nat) (c : Nat), k ≤ m ∧ i = .int .i64 k ∧ cv = .int .u64 c ∧ c < 4294967296 ∧ Blk wr b N G ∧ Lim G N ∧ (∀ j, (j < off ∨ off + k ≤ j) → G j = F j) ∧
      val (fun j => G (off + j)) k + c * pw k = val (fun j => F (off + j)) k + x * val g k ∧ w.grownBy wr (some b))
    (fun _ i _ => m - (intOf i).toNat)
  case atStart => exact ⟨0, F, 0, Nat.zero_le _, rfl, rfl, by omega, hF'.out, lF'.out, fun _ _ => rfl, rfl, grown_refl _ _⟩
  case round =>
    obtain ⟨k, G, c, hk, rfl, rfl, hc, hblk1, hlim1, hsame1, hval1, hgr1⟩ := hrel
    have hlim := Lib.hid hlim1; have hval := Lib.hid hval1; have hgr := Lib.hid hgr1; have hblk := Lib.hid hblk1; have hsame := Lib.hid hsame1; clear hlim1 hval1 hgr1 hblk1 hsame1
    by_cases hlt : k < m
    · have hcell := hblk.out.cell (off + k) (by omega)
      have hfree := hblk.out.free (off + k)
      have bG := hlim.out (off + k) (by omega)
      have bg := lg'.out k hlt
      have hfit0 := mul_fits hx bg bG hc
      have hsgr := hg'.out.grown hi'.out hgr.out
      rcases hsgr with h | ⟨b2, off2, rfl, hcg⟩
      · omega
      have hcg' := hcg k hlt
      clear hcg
      have hne : b2 ≠ b := by
        rcases hi'.out with h | h
        · omega
        · exact h _ rfl
      obtain ⟨P, hP⟩ : ∃ P, P = x * g k := ⟨_, rfl⟩
      have hPi : (x : Int) * (g k : Int) = (P : Int) := by rw [hP]; exact (Int.natCast_mul x (g k)).symm
      rw [← hP] at hfit0
      have hP' := Lib.hid hP; clear hP
      go_wp2_with fail
      go_roundw
      case rel =>
        refine ⟨k + 1, put G (off + k) ((c + (P + G (off + k))) % 4294967296), (c + (P + G (off + k))) / 4294967296, by omega, by go_num, int_eq (by omega), by omega, hblk.out.set (off + k) (by omega) _ _ (by omega),
          put_lim hlim.out (Nat.mod_lt _ (by decide)), ?_, ?_, grown_setCell hgr.out _ _⟩
        · intro j hj
          rw [put_ne (by omega)]
          exact hsame.out j (by omega)
        · have e1 : val (fun j => put G (off + k) ((c + (P + G (off + k))) % 4294967296) (off + j)) k = val (fun j => G (off + j)) k := val_congr fun j hj => put_ne (by omega)
          have e2 : G (off + k) = F (off + k) := hsame.out _ (by omega)
          rw [val_succ, val_succ, val_succ, pw_succ, e1, put_at, ← e2]
          refine mul_step hval.out ?_
          rw [← hP'.out]
          omega
      case measure => simp [intOf]; omega
    · obtain rfl : k = m := by omega
      go_wp2_with fail
      go_ret
      exact ⟨c, G, rfl, hc, hblk.out, hlim.out, hsame.out, hval.out, hgr.out⟩

set_option maxHeartbeats 1000000 in
theorem mul_any (ao bo : Option Addr) (n nc m mc : Nat) (f g : Nat → Nat) (w : World) (A : Arg w ao n nc f) (B : Arg w bo m mc g) :
    Calls Tryz.prog 154 #[.slice ao n nc, .slice bo m mc] w (NumPost (val f n * val g m) w) := by
  obtain ⟨hn, hnc, hnb, hf, lf⟩ := A
  obtain ⟨hm, hmc, hmb, hg, lg⟩ := B
  obtain ⟨i32, hi, hz0, hz1, hz2⟩ := info_parts info32
  go_enter Tryz.func154, Tryz.ntmps154
  go_wp2_with fail
  refine (trim_any ao n nc f w hn (by omega) hf).mono ?_
  rintro e w' ⟨k, hk, rfl, htf0, hvf0, rfl⟩
  have htf := Lib.hid htf0; have hvf := Lib.hid hvf0; clear htf0 hvf0
  go_wp2_with fail
  refine (trim_any bo m mc g w hm (by omega) hg).mono ?_
  rintro e w' ⟨l, hl, rfl, htg0, hvg0, rfl⟩
  have htg := Lib.hid htg0; have hvg := Lib.hid hvg0; clear htg0 hvg0
  go_wp2_with (at_make; refine wpList_make_full _ rfl (.tmp 16) (.tmp 16) 22 rfl w.heap.size 104 i32 (.int .u32 0) 1 Tryz.underlying22 hi hz0 hz1 .i64 .i64 _ _ (k + l) rfl rfl (by omega) (by omega) (by rw [hz2]; omega) (by unfold maxLen; omega) (Nat.le_refl _) ?_)
  intro w1 hown hgrow
  have hblk0 := Lib.hid (Blk.of_made hown)
  have hgr0 := Lib.hid (grown_any hgrow (some w.heap.size))
  clear hown hgrow
  have hsf := Lib.hid (hf.mono hk); have hsg := Lib.hid (hg.mono hl)
  have hlf := Lib.hid (lf.mono hk); have hlg := Lib.hid (lg.mono hl)
  clear hf hg lf lg
  go_wp2_with fail
  go_loopw [20] (fun i wr => ∃ (j : Nat) (F : Nat → Nat), j ≤ k ∧ i = .int .i64 j ∧ Blk wr w.heap.size (k + l) F ∧ Lim F (k + l) ∧ (∀ t, j + l ≤ t → F t = 0) ∧ val F (j + l) = val f j * val g l ∧ w.grownBy wr (some w.heap.size))
    (fun i _ => k - (intOf i).toNat)
  case atStart =>
    refine ⟨0, fun _ => 0, Nat.zero_le _, rfl, hblk0.out, fun j _ => (by decide : 0 < 4294967296), fun _ _ => rfl, ?_, hgr0.out⟩
    rw [Nat.zero_add, val_zero, Nat.zero_mul, val_noughts]
  case round =>
    obtain ⟨j, F, hj, rfl, hblk1, hlim1, hz1, hval1, hgr1⟩ := hrel
    have hlim := Lib.hid hlim1; have hval := Lib.hid hval1; have hgr := Lib.hid hgr1; have hblk := Lib.hid hblk1; have hz := Lib.hid hz1; clear hlim1 hval1 hgr1 hblk1 hz1
    have hsfr := hsf.out.grown hsf.out.off hgr.out
    have hsgr := Lib.hid (hsg.out.grown hsg.out.off hgr.out)
    by_cases hlt : j < k
    · rcases hsfr with h | ⟨b, off, rfl, hcf⟩
      · omega
      have hcf' := hcf j hlt
      have bf := hlf.out j hlt
      clear hcf
      go_wp2_with fail
      refine (addTimes_any w.heap.size (k + l) j l (k + l - j) bo mc (f j) F g wr (by omega) (by omega) hblk.out hlim.out hsgr.out hsg.out.off hlg.out bf).mono ?_
      rintro e w2 ⟨c, F', rfl, hc, hblk2, hlim2, hsame2, hval2, hgr2⟩
      have hlim' := Lib.hid hlim2; have hval' := Lib.hid hval2; have hgr' := Lib.hid (grown_trans hgr.out hgr2); have hblk' := Lib.hid hblk2; have hsame' := Lib.hid hsame2
      clear hlim2 hval2 hgr2 hblk2 hsame2
      have hcell := hblk'.out.cell (j + l) (by omega)
      have hfree := hblk'.out.free (j + l)
      go_wp2_with fail
      go_roundw
      case rel =>
        refine ⟨j + 1, put F' (j + l) c, by omega, by go_num, hblk'.out.set (j + l) (by omega) _ _ rfl, put_lim hlim'.out hc, ?_, ?_, grown_setCell hgr'.out _ _⟩
        · intro t ht
          rw [put_ne (by omega), hsame'.out t (by omega)]
          exact hz.out t (by omega)
        · rw [val_succ]
          exact mul_round (fun t ht => hsame'.out t (by omega)) hval'.out hval.out
      case measure => simp [intOf]; omega
    · obtain rfl : j = k := by omega
      clear hsfr
      have hsl := Sl.of_blk0 hblk.out (j + l) (Nat.le_refl _)
      go_wp2_with fail
      refine (trim_any (some ⟨w.heap.size, 0, none⟩) (j + l) (j + l) F wr (Nat.le_refl _) (by omega) hsl).mono ?_
      rintro e w' ⟨q, hq, rfl, htq0, hvq0, rfl⟩
      have htq := Lib.hid htq0; have hvq := Lib.hid hvq0; clear htq0 hvq0
      go_wp2_with fail
      go_ret
      exact ⟨some ⟨w.heap.size, 0, none⟩, q, j + l, F, rfl, hq, by omega, hsl.mono hq, ⟨hlim.out.mono hq, htq.out, by rw [hvq.out, hval.out, hvf.out, hvg.out]⟩, grown_below hgr.out (Nat.le_refl _) (Nat.le_refl _)⟩

end Go.Proofs.YtaepelipkkmeaaaGreat
namespace Go.Proofs.YtaepelipkkmeaaaGreat

open Go.RowKit Num

attribute [local go_sem ↓] Go.wp_at_zero Go.wp_at_succ

set_option maxHeartbeats 1000000 in
theorem wNeg_any (b : Bool) (ao : Option Addr) (n nc : Nat) (x : Int) (w : World) (A : Whole w b ao n nc x) :
    Calls Tryz.prog 106 #[.agg #[.bool b, .slice ao n nc]] w (IntPost (-x) w) := by
  obtain ⟨f, A, hx⟩ := A.ex
  have A' := Lib.hid A; have hx' := Lib.hid hx
  clear A hx
  go_enter Tryz.func106, Tryz.ntmps106
  go_wp2_with fail
  refine gen_wp (fun w' => Below w.heap.size w w' ∧ Box w' w.heap.size (.bool b) (.slice ao n nc) ∧ Box w' (w.heap.size + 1) (.bool false) (.slice none 0 0))
    ⟨(((Below.refl _ w).alloc (Nat.le_refl _) _).alloc (by first | (simp; done) | (simp; omega)) _), ((Box.new _ _ _ rfl).alloc _), (Box.new _ _ _ (by first | (simp; done) | (simp; omega)))⟩ ?_
  rintro w0 ⟨hb0, x0, x1⟩
  have hb0 := hb0.drew; have x0 := x0.drew; have x1 := x1.drew
  go_region_held3 (fun w' => w'.cell? ⟨w.heap.size, 0, none⟩ = some (.bool b) ∧ w'.cell? ⟨w.heap.size, 1, none⟩ = some (.slice ao n nc))
    (first | exact ⟨x0.c0, x0.c1⟩ | exact ⟨y0.c0, y0.c1⟩ | exact ⟨z0.c0, z0.c1⟩ | exact ⟨(z0.other (by omega) _ _).c0, (z0.other (by omega) _ _).c1⟩)
    (first
    | (go_at_call 149; refine (norm_any ao n nc f _ (A'.out.below hb0)).mono ?_; rintro e w1 ⟨co, cn, cc, c, rfl, h1, h2, h3, h4, hb⟩; have y0 := x0.later hb; have y1 := x1.later hb)
    | (go_at_call 150; refine (signed_any (!b) co _ cn cc c _ h1 h2 h3 h4).mono ?_; rintro e w2 ⟨sb, so, sn, sc, rfl, hR, hb2⟩; have z0 := y0.later hb2; have z1 := y1.later hb2; have q1 := z1.c0; have q2 := z1.c1; have q3 := z1.fr 0; have q4 := z1.fr 1))
  have z2 := z1.set (.bool sb) (.slice so sn sc)
  have e0 := z2.c0; have e1 := z2.c1
  go_wp2_with fail
  refine bodyPost_ret (v := .agg #[.bool sb, .slice so sn sc]) (by simp [results, Tryz.results106, go_sem, e0, e1]) rfl ?_
  rw [← hx'.out, ← sgn_not]
  exact IntPost.stored hR z1 (below_then (below_then hb0 (Nat.le_refl _) hb) (Nat.le_refl _) hb2) (by omega)

set_option maxHeartbeats 1000000 in
theorem wMul_any (b c : Bool) (ao bo : Option Addr) (n nc m mc : Nat) (x y : Int) (w : World) (A : Whole w b ao n nc x) (B : Whole w c bo m mc y) :
    Calls Tryz.prog 112 #[.agg #[.bool b, .slice ao n nc], .agg #[.bool c, .slice bo m mc]] w (IntPost (x * y) w) := by
  obtain ⟨f, A, hx⟩ := A.ex
  obtain ⟨g, B, hy⟩ := B.ex
  have A' := Lib.hid A; have hx' := Lib.hid hx; have B' := Lib.hid B; have hy' := Lib.hid hy
  clear A hx B hy
  go_enter Tryz.func112, Tryz.ntmps112
  go_wp2_with fail
  refine gen_wp (fun w' => Below w.heap.size w w' ∧ Box w' w.heap.size (.bool b) (.slice ao n nc) ∧ Box w' (w.heap.size + 1) (.bool c) (.slice bo m mc) ∧ Box w' (w.heap.size + 2) (.bool false) (.slice none 0 0))
    ⟨((((Below.refl _ w).alloc (Nat.le_refl _) _).alloc (by first | (simp; done) | (simp; omega)) _).alloc (by first | (simp; done) | (simp; omega)) _), (((Box.new _ _ _ rfl).alloc _).alloc _), ((Box.new _ _ _ (by first | (simp; done) | (simp; omega))).alloc _), (Box.new _ _ _ (by first | (simp; done) | (simp; omega)))⟩ ?_
  rintro w0 ⟨hb0, x0, x1, x2⟩
  have hb0 := hb0.drew; have x0 := x0.drew; have x1 := x1.drew; have x2 := x2.drew
  go_region_held3 (fun w' => w'.cell? ⟨w.heap.size, 0, none⟩ = some (.bool b) ∧ w'.cell? ⟨w.heap.size, 1, none⟩ = some (.slice ao n nc) ∧ w'.cell? ⟨w.heap.size + 1, 0, none⟩ = some (.bool c) ∧ w'.cell? ⟨w.heap.size + 1, 1, none⟩ = some (.slice bo m mc))
    (first | exact ⟨x0.c0, x0.c1, x1.c0, x1.c1⟩ | exact ⟨y0.c0, y0.c1, y1.c0, y1.c1⟩ | exact ⟨z0.c0, z0.c1, z1.c0, z1.c1⟩ | exact ⟨(z0.other (by omega) _ _).c0, (z0.other (by omega) _ _).c1, (z1.other (by omega) _ _).c0, (z1.other (by omega) _ _).c1⟩)
    (first
    | (go_at_call 154; refine (mul_any ao bo n nc m mc f g _ (A'.out.below hb0) (B'.out.below hb0)).mono ?_; rintro e w1 ⟨co, cn, cc, k, rfl, h1, h2, h3, h4, hb⟩; have y0 := x0.later hb; have y1 := x1.later hb; have y2 := x2.later hb)
    | (go_at_call 150; refine (signed_any (!(b == c)) co _ cn cc k _ h1 h2 h3 h4).mono ?_; rintro e w2 ⟨sb, so, sn, sc, rfl, hR, hb2⟩; have z0 := y0.later hb2; have z1 := y1.later hb2; have z2 := y2.later hb2; have q1 := z2.c0; have q2 := z2.c1; have q3 := z2.fr 0; have q4 := z2.fr 1))
  have z3 := z2.set (.bool sb) (.slice so sn sc)
  have e0 := z3.c0; have e1 := z3.c1
  go_wp2_with fail
  refine bodyPost_ret (v := .agg #[.bool sb, .slice so sn sc]) (by simp [results, Tryz.results112, go_sem, e0, e1]) rfl ?_
  rw [← hx'.out, ← hy'.out, sgn_mul]
  exact IntPost.stored hR z2 (below_then (below_then hb0 (Nat.le_refl _) hb) (Nat.le_refl _) hb2) (by omega)

set_option maxHeartbeats 2000000 in
theorem wAdd_any (b c : Bool) (ao bo : Option Addr) (n nc m mc : Nat) (x y : Int) (w : World) (A : Whole w b ao n nc x) (B : Whole w c bo m mc y) :
    Calls Tryz.prog 122 #[.agg #[.bool b, .slice ao n nc], .agg #[.bool c, .slice bo m mc]] w (IntPost (x + y) w) := by
  obtain ⟨f, A, hx⟩ := A.ex
  obtain ⟨g, B, hy⟩ := B.ex
  have A' := Lib.hid A; have hx' := Lib.hid hx; have B' := Lib.hid B; have hy' := Lib.hid hy
  clear A hx B hy
  by_cases hbc : b = c
  · subst hbc
    go_enter Tryz.func122, Tryz.ntmps122
    go_wp2_with fail
    refine gen_wp (fun w' => Below w.heap.size w w' ∧ Box w' w.heap.size (.bool b) (.slice ao n nc) ∧ Box w' (w.heap.size + 1) (.bool b) (.slice bo m mc) ∧ Box w' (w.heap.size + 2) (.bool false) (.slice none 0 0))
      ⟨((((Below.refl _ w).alloc (Nat.le_refl _) _).alloc (by first | (simp; done) | (simp; omega)) _).alloc (by first | (simp; done) | (simp; omega)) _), (((Box.new _ _ _ rfl).alloc _).alloc _), ((Box.new _ _ _ (by first | (simp; done) | (simp; omega))).alloc _), (Box.new _ _ _ (by first | (simp; done) | (simp; omega)))⟩ ?_
    rintro w0 ⟨hb0, x0, x1, x2⟩
    have hb0 := hb0.drew; have x0 := x0.drew; have x1 := x1.drew; have x2 := x2.drew
    have ne : w.heap.size ≠ w.heap.size + 2 := by omega
    go_region_held3 (fun w' => w'.cell? ⟨w.heap.size, 0, none⟩ = some (.bool b) ∧ w'.cell? ⟨w.heap.size, 1, none⟩ = some (.slice ao n nc) ∧ w'.cell? ⟨w.heap.size + 1, 0, none⟩ = some (.bool b) ∧ w'.cell? ⟨w.heap.size + 1, 1, none⟩ = some (.slice bo m mc))
      (first | exact ⟨x0.c0, x0.c1, x1.c0, x1.c1⟩ | exact ⟨y0.c0, y0.c1, y1.c0, y1.c1⟩ | exact ⟨z0.c0, z0.c1, z1.c0, z1.c1⟩ | exact ⟨(z0.other (by omega) _ _).c0, (z0.other (by omega) _ _).c1, (z1.other (by omega) _ _).c0, (z1.other (by omega) _ _).c1⟩)
      (first
      | (go_at_call 155; refine (add_any ao bo n nc m mc f g _ (A'.out.below hb0) (B'.out.below hb0)).mono ?_; rintro e w1 ⟨co, cn, cc, k, rfl, h1, h2, h3, h4, hb⟩; have y0 := x0.later hb; have y1 := x1.later hb; have y2 := x2.later hb)
      | (go_at_call 150; refine (signed_any b co _ cn cc k _ h1 h2 h3 h4).mono ?_; rintro e w2 ⟨sb, so, sn, sc, rfl, hR, hb2⟩; have z0 := y0.later hb2; have z1 := y1.later hb2; have z2 := y2.later hb2; have q1 := z2.c0; have q2 := z2.c1; have q3 := z2.fr 0; have q4 := z2.fr 1))
    have z3 := z2.set (.bool sb) (.slice so sn sc)
    have e0 := z3.c0; have e1 := z3.c1
    go_wp2_with fail
    refine bodyPost_ret (v := .agg #[.bool sb, .slice so sn sc]) (by simp [results, Tryz.results122, go_sem, e0, e1]) rfl ?_
    rw [← hx'.out, ← hy'.out, sgn_add]
    exact IntPost.stored hR z2 (below_then (below_then hb0 (Nat.le_refl _) hb) (Nat.le_refl _) hb2) (by omega)
  · have hbc' : (b == c) = false := by simp [hbc]
    go_enter Tryz.func122, Tryz.ntmps122
    go_wp2_with fail
    refine gen_calls (fun w' => Below w.heap.size w w' ∧ Box w' w.heap.size (.bool b) (.slice ao n nc) ∧ Box w' (w.heap.size + 1) (.bool c) (.slice bo m mc) ∧ Box w' (w.heap.size + 2) (.bool false) (.slice none 0 0))
      ⟨((((Below.refl _ w).alloc (Nat.le_refl _) _).alloc (by first | (simp; done) | (simp; omega)) _).alloc (by first | (simp; done) | (simp; omega)) _), (((Box.new _ _ _ rfl).alloc _).alloc _), ((Box.new _ _ _ (by first | (simp; done) | (simp; omega))).alloc _), (Box.new _ _ _ (by first | (simp; done) | (simp; omega)))⟩ ?_
    rintro w0 ⟨hb0, x0, x1, x2⟩
    refine (sub_any ao bo n nc m mc f g _ (A'.out.below hb0) (B'.out.below hb0)).mono ?_
    rintro e w1 ⟨hb, h⟩
    have y0 := x0.later hb; have y1 := x1.later hb; have y2 := x2.later hb
    have hb1 := below_then hb0 (Nat.le_refl _) hb
    have A1 := Lib.hid (A'.out.below hb1); have B1 := Lib.hid (B'.out.below hb1)
    have p0 := y0.c0; have p1 := y0.c1; have p2 := y1.c0; have p3 := y1.c1
    rcases h with ⟨hlt, rfl⟩ | ⟨hle, do_, dn, dc, d, rfl, h1, h2, h3, h4⟩
    · have hlt' := Lib.hid hlt
      clear hlt
      go_wp2_with fail
      refine (sub_any bo ao m mc n nc g f _ B1.out A1.out).mono ?_
      rintro e w2 ⟨hb3, h⟩
      rcases h with ⟨hlt, _⟩ | ⟨hle, do_, dn, dc, d, rfl, h1, h2, h3, h4⟩
      · exact absurd hlt'.out (Nat.lt_asymm hlt)
      have y0 := y0.later hb3; have y1 := y1.later hb3; have y2 := y2.later hb3
      have hb1 := below_then hb1 (Nat.le_refl _) hb3
      have h3' := Lib.hid h3; have h4' := Lib.hid h4; have hle' := Lib.hid hle
      clear h3 h4 hle p0 p1 p2 p3 hb3
      have p0 := y1.c0
      go_wp2_with fail
      refine (signed_any c do_ _ dn dc d _ h1 h2 h3'.out h4'.out).mono ?_
      rintro e w3 ⟨sb, so, sn, sc, rfl, hR, hb4⟩
      have z2 := y2.later hb4
      have q1 := z2.c0; have q2 := z2.c1; have q3 := z2.fr 0; have q4 := z2.fr 1
      have hb1 := below_then hb1 (Nat.le_refl _) hb4
      have z3 := z2.set (.bool sb) (.slice so sn sc)
      have e0 := z3.c0; have e1 := z3.c1
      have hR' := Lib.hid hR; have z2' := Lib.hid z2; have hb1' := Lib.hid hb1
      clear p0 hR z2 hb1 hb4
      go_wp2_with fail
      refine bodyPost_ret (v := .agg #[.bool sb, .slice so sn sc]) (by simp [results, Tryz.results122, go_sem, e0, e1]) rfl ?_
      rw [← hx'.out, ← hy'.out, Int.add_comm, sgn_sub (fun e => hbc e.symm) hle'.out]
      exact IntPost.stored hR'.out z2'.out hb1'.out (by omega)
    · have h3' := Lib.hid h3; have h4' := Lib.hid h4; have hle' := Lib.hid hle
      clear h3 h4 hle hb
      go_wp2_with fail
      refine (signed_any b do_ _ dn dc d _ h1 h2 h3'.out h4'.out).mono ?_
      rintro e w3 ⟨sb, so, sn, sc, rfl, hR, hb4⟩
      have z2 := y2.later hb4
      have q1 := z2.c0; have q2 := z2.c1; have q3 := z2.fr 0; have q4 := z2.fr 1
      have hb1 := below_then hb1 (Nat.le_refl _) hb4
      have z3 := z2.set (.bool sb) (.slice so sn sc)
      have e0 := z3.c0; have e1 := z3.c1
      have hR' := Lib.hid hR; have z2' := Lib.hid z2; have hb1' := Lib.hid hb1
      clear p0 hR z2 hb1 hb4
      go_wp2_with fail
      refine bodyPost_ret (v := .agg #[.bool sb, .slice so sn sc]) (by simp [results, Tryz.results122, go_sem, e0, e1]) rfl ?_
      rw [← hx'.out, ← hy'.out, sgn_sub hbc hle'.out]
      exact IntPost.stored hR'.out z2'.out hb1'.out (by omega)

end Go.Proofs.YtaepelipkkmeaaaGreat
namespace Go.Proofs.YtaepelipkkmeaaaGreat

open Go.RowKit Num

attribute [local go_sem ↓] Go.wp_at_zero Go.wp_at_succ

theorem add_abs {x y : Int} {M : Nat} (hx : x.natAbs < pw M) (hy : y.natAbs < pw M) : (x + y).natAbs < pw (M + 1) := by
  have e : pw (M + 1) = 4294967296 * pw M := rfl
  omega

theorem mul_abs {x y : Int} {M L : Nat} (hx : x.natAbs < pw M) (hy : y.natAbs < pw L) : (x * y).natAbs < pw (M + L) := by
  rw [Int.natAbs_mul, pw_add]
  exact Nat.mul_lt_mul'' hx hy

theorem field0 (u v : Value) (w : World) : (Instr.field 71 (.agg #[u, v]) 0).run Tryz.prog w = .ok u w := by kernel_rfl

attribute [local go_sem] field0

end Go.Proofs.YtaepelipkkmeaaaGreat
namespace Go.Proofs.YtaepelipkkmeaaaGreat

open Go.RowKit Num

attribute [local go_sem ↓] Go.wp_at_zero Go.wp_at_succ

/-- The power p times s to the n, if no square and no product on the way has more than 32 limbs. -/
def powR (n : Nat) (p s : Int) : Option Int :=
  if _h : n = 0 then some p
  else if pw 32 ≤ s.natAbs then none
  else
    let q := if n % 2 = 1 then p * s else p
    if pw 32 ≤ q.natAbs then none else powR (n / 2) q (s * s)
termination_by n
decreasing_by omega

theorem powR_zero (p s : Int) : powR 0 p s = some p := by rw [powR]; simp

theorem powR_great {n : Nat} {p s : Int} (h0 : n ≠ 0) (hs : pw 32 ≤ s.natAbs) : powR n p s = none := by rw [powR]; simp [h0, hs]

theorem powR_odd_great {n : Nat} {p s : Int} (h0 : n ≠ 0) (h1 : n % 2 = 1) (hq : pw 32 ≤ (p * s).natAbs) : powR n p s = none := by rw [powR]; simp [h0, h1, hq]

theorem powR_odd {n : Nat} {p s : Int} (h0 : n ≠ 0) (h1 : n % 2 = 1) (hs : s.natAbs < pw 32) (hq : (p * s).natAbs < pw 32) : powR n p s = powR (n / 2) (p * s) (s * s) := by
  rw [powR]; simp [h0, h1, Nat.not_le.2 hs, Nat.not_le.2 hq]

theorem powR_even {n : Nat} {p s : Int} (h0 : n ≠ 0) (h1 : ¬ n % 2 = 1) (hs : s.natAbs < pw 32) (hq : p.natAbs < pw 32) : powR n p s = powR (n / 2) p (s * s) := by
  rw [powR]; simp [h0, h1, Nat.not_le.2 hs, Nat.not_le.2 hq]

theorem Right.len_lt {w : World} {b : Bool} {ao : Option Addr} {n nc : Nat} {x : Int} (h : Right w b ao n nc x) (hn : n ≤ 32) : x.natAbs < pw 32 := by
  obtain ⟨f, _, _, _, cf, _⟩ := h.ex
  exact Nat.lt_of_lt_of_le cf.lt_pw (pw_le hn)

theorem Right.len_ge {w : World} {b : Bool} {ao : Option Addr} {n nc : Nat} {x : Int} (h : Right w b ao n nc x) (hn : 32 < n) : pw 32 ≤ x.natAbs := by
  obtain ⟨f, _, _, _, cf, _⟩ := h.ex
  apply Nat.le_of_not_lt
  intro hl
  have := cf.len_le hl
  omega

theorem Right.le_len {w : World} {b : Bool} {ao : Option Addr} {n nc : Nat} {x : Int} (h : Right w b ao n nc x) (hx : x.natAbs < pw 32) : n ≤ 32 := by
  obtain ⟨f, _, _, _, cf, _⟩ := h.ex
  exact cf.len_le hx

def powE (k x : Int) : Int := if k < 0 then 3 else if (powR k.toNat 1 x).isSome then 0 else 7

def powV (k x : Int) : Int := if k < 0 then 0 else (powR k.toNat 1 x).getD 0

/-- A power and 0, or 0 and an error. -/
def PowPost (k x : Int) (w : World) (e : Ending) (w' : World) : Prop :=
  ∃ b ao n nc, e = .returned (.tuple #[.agg #[.bool b, .slice ao n nc], .int .i64 (powE k x)]) ∧ Right w' b ao n nc (powV k x) ∧ Below w.heap.size w w'

theorem zero_right (w : World) : Right w false none 0 0 0 := ⟨fun _ => 0, Nat.le_refl _, by omega, .inl rfl, canon_zero _, rfl⟩

theorem PowPost.some {k x v : Int} {w w' : World} {b : Bool} {ao : Option Addr} {n nc : Nat} {m : Nat} (hk : k = (m : Int)) (hv : powR m 1 x = some v) (hR : Right w' b ao n nc v) (hb : Below w.heap.size w w') :
    PowPost k x w (.returned (.tuple #[.agg #[.bool b, .slice ao n nc], .int .i64 0])) w' := by
  subst hk
  have h0 : ¬ ((m : Int) < 0) := by omega
  refine ⟨b, ao, n, nc, ?_, ?_, hb⟩
  · simp [powE, h0, hv]
  · simpa [powV, h0, hv] using hR

theorem PowPost.none {k x : Int} {w w' : World} {m : Nat} (hk : k = (m : Int)) (hv : powR m 1 x = none) (hb : Below w.heap.size w w') :
    PowPost k x w (.returned (.tuple #[.agg #[.bool false, .slice none 0 0], .int .i64 7])) w' := by
  subst hk
  have h0 : ¬ ((m : Int) < 0) := by omega
  refine ⟨false, Option.none, 0, 0, ?_, ?_, hb⟩
  · simp [powE, h0, hv]
  · simpa [powV, h0, hv] using zero_right w'

theorem mul_self_abs {x : Int} (hx : x.natAbs < pw 32) : (x * x).natAbs < pw 64 := mul_abs hx hx

set_option maxHeartbeats 8000000 in
theorem wPow_any (b : Bool) (ao : Option Addr) (n nc : Nat) (x k : Int) (w : World) (A : Whole w b ao n nc x) (hx : x.natAbs < pw 64) (k0 : -9223372036854775808 ≤ k) (k1 : k ≤ 9223372036854775807) :
    Calls Tryz.prog 161 #[.agg #[.bool b, .slice ao n nc], .int .i64 k] w (PowPost k x w) := by
  have A' := Lib.hid A; have hx' := Lib.hid hx
  clear A hx
  by_cases hneg : k < 0
  · have p1 : Hid (powE k x = 3) := Lib.hid (by simp [powE, hneg]); have p2 : Hid (powV k x = 0) := Lib.hid (by simp [powV, hneg])
    go_enter Tryz.func161, Tryz.ntmps161
    go_wp2_with fail
    refine bodyPost_ret (v := .tuple #[.agg #[.bool false, .slice none 0 0], .int .i64 3]) (by simp [results, Tryz.results161, go_sem]) rfl ?_
    refine ⟨false, none, 0, 0, ?_, ?_, ((Below.refl _ w).alloc (Nat.le_refl _) _).alloc (by simp) _⟩
    · rw [p1.out]
    · rw [p2.out]; exact zero_right _
  obtain ⟨m, rfl⟩ := Int.eq_ofNat_of_zero_le (Int.not_lt.1 hneg)
  go_enter Tryz.func161, Tryz.ntmps161
  go_upto_region 3 with fail
  refine gen_wp (fun w' => Below w.heap.size w w' ∧ Box w' w.heap.size (.bool b) (.slice ao n nc) ∧ Box w' (w.heap.size + 1) (.bool false) (.slice none 0 0))
    ⟨(((Below.refl _ w).alloc (Nat.le_refl _) _).alloc (by first | (simp; done) | (simp; omega)) _), ((Box.new _ _ _ rfl).alloc _), (Box.new _ _ _ (by first | (simp; done) | (simp; omega)))⟩ ?_
  rintro w0 ⟨hb0, x0, x1⟩
  go_cut [6, 7] from 11 to 13 (fun s t wx => ∃ P Q pb po pn pc sb so sn sc, s = .pointer (some ⟨P, 0, none⟩) ∧ t = .pointer (some ⟨Q, 0, none⟩) ∧ Box wx P (.bool pb) (.slice po pn pc) ∧ Box wx Q (.bool sb) (.slice so sn sc) ∧ Box wx (w.heap.size + 1) (.bool false) (.slice none 0 0) ∧
    w.heap.size + 1 < P ∧ w.heap.size + 1 < Q ∧ P ≠ Q ∧ Right wx pb po pn pc 1 ∧ Right wx sb so sn sc x ∧ Below w.heap.size w wx)
  case first =>
    have l0 := x0.lt; have l1 := x1.lt; have gs0 := hb0.size
    have gb0 := hb0; have A0 := A'.out.below hb0
    go_region_held3 (fun w' => w'.cell? ⟨w.heap.size, 0, none⟩ = some (.bool b) ∧ w'.cell? ⟨w.heap.size, 1, none⟩ = some (.slice ao n nc))
      (first | with_reducible exact ⟨x0.drew.c0, x0.drew.c1⟩ | with_reducible exact ⟨(x0.alloc _).drew.c0, (x0.alloc _).drew.c1⟩ | with_reducible exact ⟨((x0.alloc _).alloc _).drew.c0, ((x0.alloc _).alloc _).drew.c1⟩ | with_reducible exact ⟨y0.c0, y0.c1⟩ | with_reducible exact ⟨(y0.alloc _).c0, (y0.alloc _).c1⟩ | with_reducible exact ⟨((y0.alloc _).alloc _).c0, ((y0.alloc _).alloc _).c1⟩ | with_reducible exact ⟨z0.c0, z0.c1⟩ | with_reducible exact ⟨(z0.alloc _).c0, (z0.alloc _).c1⟩ | with_reducible exact ⟨((z0.alloc _).alloc _).c0, ((z0.alloc _).alloc _).c1⟩ | with_reducible exact ⟨(z0.other (by omega) _ _).c0, (z0.other (by omega) _ _).c1⟩ | with_reducible exact ⟨((z0.other (by omega) _ _).alloc _).c0, ((z0.other (by omega) _ _).alloc _).c1⟩ | with_reducible exact ⟨((z0.other (by omega) _ _).other (by omega) _ _).c0, ((z0.other (by omega) _ _).other (by omega) _ _).c1⟩ | go_keep)
      (first
      | (go_at_call 109; refine (wOf_any 1 _ (by decide) (by decide)).mono ?_; rintro e w1 ⟨pb, po, pn, pc, rfl, hR1, hb1⟩; have hc1 : Below w0.heap.size w0 w1 := (by (first | exact (Below.refl _ _).drew.trans hb1 | exact ((Below.refl _ _).alloc (by first | exact Nat.le_refl _ | (simp; done) | (simp; omega)) _).drew.trans (hb1.mono (by first | (simp; done) | (simp; omega))) | exact (((Below.refl _ _).alloc (by first | exact Nat.le_refl _ | (simp; done) | (simp; omega)) _).alloc (by first | exact Nat.le_refl _ | (simp; done) | (simp; omega)) _).drew.trans (hb1.mono (by first | (simp; done) | (simp; omega))))); have hz1 := hc1.size; have y0 := x0.later hc1; have ly0 := y0.lt; have y1 := x1.later hc1; have ly1 := y1.lt; have A1 := A0.below hc1; have gb1 := below_then gb0 (Nat.le_refl _) hc1; have gs1 := gb1.size; (first | (with_reducible have mm := made2' hb1; obtain ⟨m10, m11⟩ := mm) | (with_reducible have m10 := made1' hb1) | skip); (try have k10 := m10.lt); (try have k11 := m11.lt))
      | (go_at_call 115; refine (wNorm_any b ao n nc x _ ?_).mono ?_; (first | with_reducible exact A1 | with_reducible exact (A1.alloc _) | with_reducible exact ((A1.alloc _).alloc _)); rintro e w2 ⟨sb, so, sn, sc, rfl, hR2, hb2⟩; have hc2 : Below w1.heap.size w1 w2 := (by (first | with_reducible exact hb2 | exact ((Below.refl _ _).alloc (by first | exact Nat.le_refl _ | (simp; done) | (simp; omega)) _).trans (hb2.mono (by first | (simp; done) | (simp; omega))) | exact (((Below.refl _ _).alloc (by first | exact Nat.le_refl _ | (simp; done) | (simp; omega)) _).alloc (by first | exact Nat.le_refl _ | (simp; done) | (simp; omega)) _).trans (hb2.mono (by first | (simp; done) | (simp; omega))))); have hz2 := hc2.size; have z0 := y0.later hc2; have lz0 := z0.lt; have z1 := y1.later hc2; have lz1 := z1.lt; have hR1 := hR1.below hc2; have gb2 := below_then gb1 (Nat.le_refl _) hc2; have gs2 := gb2.size; (try have m10 := m10.later hc2); (try have m11 := m11.later hc2); (first | (with_reducible have mm := made2 hb2; obtain ⟨m20, m21⟩ := mm) | (with_reducible have m20 := made1 hb2) | skip); (try have k10 := m10.lt); (try have k11 := m11.lt); (try have k20 := m20.lt); (try have k21 := m21.lt); (try (have f100 := m10.c0; have f101 := m10.c1; have f102 := m10.fr 0; have f103 := m10.fr 1)); (try (have f110 := m11.c0; have f111 := m11.c1; have f112 := m11.fr 0; have f113 := m11.fr 1)); (try (have f200 := m20.c0; have f201 := m20.c1; have f202 := m20.fr 0; have f203 := m20.fr 1)); (try (have f210 := m21.c0; have f211 := m21.c1; have f212 := m21.fr 0; have f213 := m21.fr 1))))
    · go_wp2_with fail; go_meet; exact ⟨_, _, _, _, _, _, _, _, _, _, rfl, rfl, ((Box.new _ _ _ (by first | rfl | (simp; done))).alloc _), (Box.new _ _ _ (by first | rfl | (simp; done))), ((z1.alloc _).alloc _), by first | omega | (simp; omega), by first | omega | (simp; omega), by first | omega | (simp; omega), ((hR1.alloc _).alloc _), ((hR2.alloc _).alloc _), (Below.alloc (Below.alloc gb2 (by first | omega | (simp; omega) | (simp; done)) _) (by first | omega | (simp; omega) | (simp; done)) _)⟩
    · go_wp2_with fail; go_meet; exact ⟨_, _, _, _, _, _, _, _, _, _, rfl, rfl, (Box.new _ _ _ (by first | rfl | (simp; done))), ((Box.new _ _ _ (by first | rfl | (simp; done))).alloc _), ((z1.alloc _).alloc _), by first | omega | (simp; omega), by first | omega | (simp; omega), by first | omega | (simp; omega), ((hR1.alloc _).alloc _), ((hR2.alloc _).alloc _), (Below.alloc (Below.alloc gb2 (by first | omega | (simp; omega) | (simp; done)) _) (by first | omega | (simp; omega) | (simp; done)) _)⟩
    · go_wp2_with fail; go_meet; exact ⟨_, _, _, _, _, _, _, _, _, _, rfl, rfl, ((m20.set _ _).alloc _), (Box.new _ _ _ (by first | rfl | (simp; done))), ((z1.other (by omega) _ _).alloc _), by first | omega | (simp; omega), by first | omega | (simp; omega), by first | omega | (simp; omega), ((hR1.box m20 _ _).alloc _), ((hR2.box m20 _ _).alloc _), (Below.alloc (below_set gb2 (by omega) _ _) (by first | omega | (simp; omega) | (simp; done)) _)⟩
    · go_wp2_with fail; go_meet; exact ⟨_, _, _, _, _, _, _, _, _, _, rfl, rfl, ((m20.set _ _).other (by omega) _ _), ((m21.other (by omega) _ _).set _ _), ((z1.other (by omega) _ _).other (by omega) _ _), by first | omega | (simp; omega), by first | omega | (simp; omega), by first | omega | (simp; omega), ((hR1.box m20 _ _).box (m21.other (by omega) _ _) _ _), ((hR2.box m20 _ _).box (m21.other (by omega) _ _) _ _), (below_set (below_set gb2 (by omega) _ _) (by omega) _ _)⟩
    · go_wp2_with fail; go_meet; exact ⟨_, _, _, _, _, _, _, _, _, _, rfl, rfl, (Box.new _ _ _ (by first | rfl | (simp; done))), ((m20.set _ _).alloc _), ((z1.other (by omega) _ _).alloc _), by first | omega | (simp; omega), by first | omega | (simp; omega), by first | omega | (simp; omega), ((hR1.box m20 _ _).alloc _), ((hR2.box m20 _ _).alloc _), (Below.alloc (below_set gb2 (by omega) _ _) (by first | omega | (simp; omega) | (simp; done)) _)⟩
    · go_wp2_with fail; go_meet; exact ⟨_, _, _, _, _, _, _, _, _, _, rfl, rfl, ((m21.set _ _).other (by omega) _ _), ((m20.other (by omega) _ _).set _ _), ((z1.other (by omega) _ _).other (by omega) _ _), by first | omega | (simp; omega), by first | omega | (simp; omega), by first | omega | (simp; omega), ((hR1.box m21 _ _).box (m20.other (by omega) _ _) _ _), ((hR2.box m21 _ _).box (m20.other (by omega) _ _) _ _), (below_set (below_set gb2 (by omega) _ _) (by omega) _ _)⟩
    · go_wp2_with fail; go_meet; exact ⟨_, _, _, _, _, _, _, _, _, _, rfl, rfl, ((m10.set _ _).alloc _), (Box.new _ _ _ (by first | rfl | (simp; done))), ((z1.other (by omega) _ _).alloc _), by first | omega | (simp; omega), by first | omega | (simp; omega), by first | omega | (simp; omega), ((hR1.box m10 _ _).alloc _), ((hR2.box m10 _ _).alloc _), (Below.alloc (below_set gb2 (by omega) _ _) (by first | omega | (simp; omega) | (simp; done)) _)⟩
    · go_wp2_with fail; go_meet; exact ⟨_, _, _, _, _, _, _, _, _, _, rfl, rfl, ((m10.set _ _).other (by omega) _ _), ((m20.other (by omega) _ _).set _ _), ((z1.other (by omega) _ _).other (by omega) _ _), by first | omega | (simp; omega), by first | omega | (simp; omega), by first | omega | (simp; omega), ((hR1.box m10 _ _).box (m20.other (by omega) _ _) _ _), ((hR2.box m10 _ _).box (m20.other (by omega) _ _) _ _), (below_set (below_set gb2 (by omega) _ _) (by omega) _ _)⟩
    · go_wp2_with fail; go_meet; exact ⟨_, _, _, _, _, _, _, _, _, _, rfl, rfl, ((m10.set _ _).other (by omega) _ _), ((m11.other (by omega) _ _).set _ _), ((z1.other (by omega) _ _).other (by omega) _ _), by first | omega | (simp; omega), by first | omega | (simp; omega), by first | omega | (simp; omega), ((hR1.box m10 _ _).box (m11.other (by omega) _ _) _ _), ((hR2.box m10 _ _).box (m11.other (by omega) _ _) _ _), (below_set (below_set gb2 (by omega) _ _) (by omega) _ _)⟩
    · go_wp2_with fail; go_meet; exact ⟨_, _, _, _, _, _, _, _, _, _, rfl, rfl, (Box.new _ _ _ (by first | rfl | (simp; done))), ((m10.set _ _).alloc _), ((z1.other (by omega) _ _).alloc _), by first | omega | (simp; omega), by first | omega | (simp; omega), by first | omega | (simp; omega), ((hR1.box m10 _ _).alloc _), ((hR2.box m10 _ _).alloc _), (Below.alloc (below_set gb2 (by omega) _ _) (by first | omega | (simp; omega) | (simp; done)) _)⟩
    · go_wp2_with fail; go_meet; exact ⟨_, _, _, _, _, _, _, _, _, _, rfl, rfl, ((m20.set _ _).other (by omega) _ _), ((m10.other (by omega) _ _).set _ _), ((z1.other (by omega) _ _).other (by omega) _ _), by first | omega | (simp; omega), by first | omega | (simp; omega), by first | omega | (simp; omega), ((hR1.box m20 _ _).box (m10.other (by omega) _ _) _ _), ((hR2.box m20 _ _).box (m10.other (by omega) _ _) _ _), (below_set (below_set gb2 (by omega) _ _) (by omega) _ _)⟩
    · go_wp2_with fail; go_meet; exact ⟨_, _, _, _, _, _, _, _, _, _, rfl, rfl, ((m11.set _ _).other (by omega) _ _), ((m10.other (by omega) _ _).set _ _), ((z1.other (by omega) _ _).other (by omega) _ _), by first | omega | (simp; omega), by first | omega | (simp; omega), by first | omega | (simp; omega), ((hR1.box m11 _ _).box (m10.other (by omega) _ _) _ _), ((hR2.box m11 _ _).box (m10.other (by omega) _ _) _ _), (below_set (below_set gb2 (by omega) _ _) (by omega) _ _)⟩
  case rest =>
    obtain ⟨P, Q, pb, po, pn, pc, sb, so, sn, sc, rfl, rfl, bp, bs, b4, gP, gQ, hPQ, hP, hS, bb⟩ := hcut
    have n1 : w.heap.size + 1 ≠ P := by omega
    have n2 : w.heap.size + 1 ≠ Q := by omega
    have gP : w.heap.size ≤ P := by omega
    have gQ : w.heap.size ≤ Q := by omega
    clear x0 x1 hb0
    have one32 : Hid ((1 : Int).natAbs < pw 32) := Lib.hid (by have := pw_le (n := 1) (m := 32) (by omega); have e : pw 1 = 4294967296 := rfl; omega)
    have hm' := Lib.hid (show m ≤ 9223372036854775807 by omega)
    go_wp2_with fail
    go_loopw [1] (fun v wr => ∃ (m' : Nat) (pb : Bool) (po : Option Addr) (pn pc : Nat) (sb : Bool) (so : Option Addr) (sn sc : Nat) (p s : Int), v = .int .i64 m' ∧ m' ≤ 9223372036854775807 ∧ Box wr P (.bool pb) (.slice po pn pc) ∧ Box wr Q (.bool sb) (.slice so sn sc) ∧ Box wr (w.heap.size + 1) (.bool false) (.slice none 0 0) ∧
        Right wr pb po pn pc p ∧ Right wr sb so sn sc s ∧ Below w.heap.size w wr ∧ s.natAbs < pw 64 ∧ p.natAbs < pw 32 ∧ powR m' p s = powR m 1 x) (fun v _ => (intOf v).toNat)
    case atStart => exact ⟨m, _, _, _, _, _, _, _, _, 1, x, rfl, hm'.out, bp, bs, b4, hP, hS, bb, hx'.out, one32.out, rfl⟩
    case round =>
      clear bp bs b4 hP hS bb
      obtain ⟨m', pb, po, pn, pc, sb, so, sn, sc, p, s, rfl, hmb, bp, bs, b4, hP, hS, bb, hs, hp, hrel⟩ := hrel
      have pn32 := Lib.hid (hP.le_len hp)
      have bp := Lib.hid bp; have bs := Lib.hid bs; have b4 := Lib.hid b4; have hP := Lib.hid hP; have hS := Lib.hid hS; have bb := Lib.hid bb; have hs64 := Lib.hid hs; have hp32 := Lib.hid hp; have hrl := Lib.hid hrel
      clear hs hp hrel
      by_cases h0 : m' = 0
      · subst h0
        have hv : Hid (powR m 1 x = some p) := Lib.hid (by rw [← hrl.out, powR_zero])
        have c0 := bp.out.c0; have c1 := bp.out.c1
        have z9 := b4.out.set (.bool pb) (.slice po pn pc)
        have q1 := b4.out.c0; have q2 := b4.out.c1; have q3 := b4.out.fr 0; have q4 := b4.out.fr 1
        have e0 := z9.c0; have e1 := z9.c1
        clear z9
        go_wp2_with fail
        refine bodyPost_ret (v := .tuple #[.agg #[.bool pb, .slice po pn pc], .int .i64 0]) (by simp [results, Tryz.results161, go_sem, e0, e1]) rfl ?_
        exact PowPost.some rfl hv.out (hP.out.box b4.out _ _) (below_set bb.out (Nat.le_succ _) _ _)
      · have hm0 : 0 < m' := Nat.pos_of_ne_zero h0
        have c0 := bp.out.c0; have c1 := bp.out.c1; have c2 := bs.out.c0; have c3 := bs.out.c1
        by_cases h32 : 32 < sn
        · have hv : Hid (powR m 1 x = none) := Lib.hid (by rw [← hrl.out]; exact powR_great h0 (hS.out.len_ge h32))
          have h32i : decide ((32 : Int) < (sn : Int)) = true := decide_eq_true (by omega)
          have z9 := b4.out.set (.bool false) (.slice none 0 0)
          have q1 := b4.out.c0; have q2 := b4.out.c1; have q3 := b4.out.fr 0; have q4 := b4.out.fr 1
          have e0 := z9.c0; have e1 := z9.c1
          have hbl := Lib.hid (below_set bb.out (Nat.le_succ _) (.bool false) (.slice none 0 0))
          clear z9
          go_wp2_with fail
          refine bodyPost_ret (v := .tuple #[.agg #[.bool false, .slice none 0 0], .int .i64 7]) (by simp [results, Tryz.results161, go_sem, e0, e1]) rfl ?_
          exact PowPost.none rfl hv.out hbl.out
        · have hsl := Lib.hid (hS.out.len_lt (Nat.le_of_not_lt h32))
          have h32i : decide ((32 : Int) < (sn : Int)) = false := decide_eq_false (by omega)
          by_cases hodd : m' % 2 = 1
          · have hoi : (m' : Int) % 2 = 1 := by omega
            go_wp2_with fail
            refine (wMul_any pb sb po so pn pc sn sc p s _ (hP.out.whole hp32.out (by omega)) (hS.out.whole hs64.out (by omega))).mono ?_
            rintro e w3 ⟨tb, to_, tn, tc, rfl, hT, hb⟩
            have y6 := bp.out.later hb; have y7 := bs.out.later hb; have y4 := b4.out.later hb; have bb3 := below_then bb.out (Nat.le_refl _) hb
            have q1 := y6.c0; have q2 := y6.c1; have q3 := y6.fr 0; have q4 := y6.fr 1
            have z6 := y6.set (.bool tb) (.slice to_ tn tc); have z7 := y7.other (Ne.symm hPQ) (.bool tb) (.slice to_ tn tc); have z4 := y4.other n1 (.bool tb) (.slice to_ tn tc)
            have bb := Lib.hid (below_set bb3 gP (.bool tb) (.slice to_ tn tc))
            have hP := Lib.hid (hT.box y6 (.bool tb) (.slice to_ tn tc)); have hS := Lib.hid ((hS.out.below hb).box y6 (.bool tb) (.slice to_ tn tc))
            have bp := Lib.hid z6; have bs := Lib.hid z7; have b4 := Lib.hid z4
            clear c0 c1 c2 c3
            have c0 := z6.c0; have c1 := z6.c1; have c2 := z7.c0; have c3 := z7.c1
            clear hb y6 y7 y4 bb3 hT z6 z7 z4
            by_cases ht : 32 < tn
            · have hv : Hid (powR m 1 x = none) := Lib.hid (by rw [← hrl.out]; exact powR_odd_great h0 hodd (hP.out.len_ge ht))
              have hti : decide ((32 : Int) < (tn : Int)) = true := decide_eq_true (by omega)
              have z9 := b4.out.set (.bool false) (.slice none 0 0)
              have r1 := b4.out.c0; have r2 := b4.out.c1; have r3 := b4.out.fr 0; have r4 := b4.out.fr 1
              have e0 := z9.c0; have e1 := z9.c1
              have hbl := Lib.hid (below_set bb.out (Nat.le_succ _) (.bool false) (.slice none 0 0))
              clear z9
              go_wp2_with fail
              refine bodyPost_ret (v := .tuple #[.agg #[.bool false, .slice none 0 0], .int .i64 7]) (by simp [results, Tryz.results161, go_sem, e0, e1]) rfl ?_
              exact PowPost.none rfl hv.out hbl.out
            · have htl := Lib.hid (hP.out.len_lt (Nat.le_of_not_lt ht))
              have hti : decide ((32 : Int) < (tn : Int)) = false := decide_eq_false (by omega)
              go_wp2_with fail
              refine gen_calls (fun w' => Box w' P (.bool tb) (.slice to_ tn tc) ∧ Box w' Q (.bool sb) (.slice so sn sc) ∧ Box w' (w.heap.size + 1) (.bool false) (.slice none 0 0) ∧ Right w' tb to_ tn tc (p * s) ∧ Right w' sb so sn sc s ∧ Below w.heap.size w w') ⟨bp.out, bs.out, b4.out, hP.out, hS.out, bb.out⟩ ?_
              clear bp bs b4 hP hS bb q1 q2 q3 q4 c0 c1 c2 c3
              rintro w4 ⟨bp, bs, b4, hP, hS, bb⟩
              have bp := Lib.hid bp; have bs := Lib.hid bs; have b4 := Lib.hid b4; have hP := Lib.hid hP; have hS := Lib.hid hS; have bb := Lib.hid bb
              refine (wMul_any sb sb so so sn sc sn sc s s _ (hS.out.whole hs64.out (by omega)) (hS.out.whole hs64.out (by omega))).mono ?_
              rintro e w5 ⟨rb, ro, rn, rc, rfl, hU, hb⟩
              have v6 := Lib.hid (bp.out.later hb); have v7 := Lib.hid (bs.out.later hb); have v4 := Lib.hid (b4.out.later hb); have bb := Lib.hid (below_then bb.out (Nat.le_refl _) hb); have hP := Lib.hid (hP.out.below hb)
              have hU := Lib.hid hU
              have q1 := v7.out.c0; have q2 := v7.out.c1; have q3 := v7.out.fr 0; have q4 := v7.out.fr 1
              clear hb
              go_wp2_with fail
              go_roundw
              case rel => exact ⟨m' / 2, _, _, _, _, _, _, _, _, p * s, s * s, int_eq (by omega), by omega, v6.out.other hPQ _ _, v7.out.set _ _, v4.out.other n2 _ _, hP.out.box v7.out _ _, hU.out.box v7.out _ _, below_set bb.out gQ _ _, mul_self_abs hsl.out, htl.out, by rw [← powR_odd h0 hodd hsl.out htl.out]; exact hrl.out⟩
              case measure => simp [intOf]; omega
          · have hoi : ¬ ((m' : Int) % 2 = 1) := by omega
            have hpi : decide ((32 : Int) < (pn : Int)) = false := decide_eq_false (by have := pn32.out; omega)
            go_wp2_with fail
            refine (wMul_any sb sb so so sn sc sn sc s s _ (hS.out.whole hs64.out (by omega)) (hS.out.whole hs64.out (by omega))).mono ?_
            rintro e w5 ⟨rb, ro, rn, rc, rfl, hU, hb⟩
            have v6 := Lib.hid (bp.out.later hb); have v7 := Lib.hid (bs.out.later hb); have v4 := Lib.hid (b4.out.later hb); have bb := Lib.hid (below_then bb.out (Nat.le_refl _) hb); have hP := Lib.hid (hP.out.below hb)
            have hU := Lib.hid hU
            have q1 := v7.out.c0; have q2 := v7.out.c1; have q3 := v7.out.fr 0; have q4 := v7.out.fr 1
            clear hb c0 c1 c2 c3
            go_wp2_with fail
            go_roundw
            case rel => exact ⟨m' / 2, _, _, _, _, _, _, _, _, p, s * s, int_eq (by omega), by omega, v6.out.other hPQ _ _, v7.out.set _ _, v4.out.other n2 _ _, hP.out.box v7.out _ _, hU.out.box v7.out _ _, below_set bb.out gQ _ _, mul_self_abs hsl.out, hp32.out, by rw [← powR_even h0 hodd hsl.out hp32.out]; exact hrl.out⟩
            case measure => simp [intOf]; omega

end Go.Proofs.YtaepelipkkmeaaaGreat
namespace Go.Proofs.YtaepelipkkmeaaaGreat

open Go.RowKit Num

attribute [local go_sem ↓] Go.wp_at_zero Go.wp_at_succ

theorem Rt.alloc {w : World} {b : Bool} {ao bo : Option Addr} {n nc m mc Q : Nat} {P : Int} (h : Rt w b ao n nc bo m mc P Q) (o : Obj) : Rt (w.alloc o) b ao n nc bo m mc P Q := h.below ((Below.refl _ w).alloc (Nat.le_refl _) o)

theorem Rt.drew {w : World} {b : Bool} {ao bo : Option Addr} {n nc m mc Q : Nat} {P : Int} (h : Rt w b ao n nc bo m mc P Q) : Rt w.drew b ao n nc bo m mc P Q := h.below (Below.refl _ w).drew

theorem Right.drew' {w : World} {b : Bool} {ao : Option Addr} {n nc : Nat} {x : Int} (h : Right w b ao n nc x) : Right w.drew b ao n nc x := h.below (Below.refl _ w).drew

theorem made13' {W w' : World} {u0 u1 u2 : Value} {t : TypeId} (hb : Below (W.alloc (.cells #[u0, u1, u2] t)).drew.heap.size (W.alloc (.cells #[u0, u1, u2] t)).drew w') : Box3 w' W.heap.size u0 u1 u2 := (Box3.new u0 u1 u2 t rfl).drew.later hb

theorem made13 {W w' : World} {u0 u1 u2 : Value} {t : TypeId} (hb : Below (W.alloc (.cells #[u0, u1, u2] t)).heap.size (W.alloc (.cells #[u0, u1, u2] t)) w') : Box3 w' W.heap.size u0 u1 u2 := (Box3.new u0 u1 u2 t rfl).later hb

theorem over_w (b : Bool) (ao bo : Option Addr) (n nc m mc : Nat) (x : Int) (Q : Nat) (w : World) (A : Right w b ao n nc x) (B : Whole w false bo m mc Q) :
    Calls Tryz.prog 105 #[.agg #[.bool b, .slice ao n nc], .slice bo m mc] w (RatPost x Q w) := by
  obtain ⟨g, B, e⟩ := B.ex
  have e : val g m = Q := by rw [sgn_false] at e; omega
  rw [← e]
  exact over_any b ao bo n nc m mc x g w A B

set_option maxHeartbeats 1000000 in
theorem whole_any (b : Bool) (ao : Option Addr) (n nc : Nat) (x : Int) (w : World) (A : Whole w b ao n nc x) (hx : x.natAbs < pw 32) :
    Calls Tryz.prog 108 #[.agg #[.bool b, .slice ao n nc]] w (RatPost x 1 w) := by
  have A' := Lib.hid A; have hx' := Lib.hid hx
  clear A hx
  go_enter Tryz.func108, Tryz.ntmps108
  go_wp2_with fail
  refine gen_calls (fun w' => Below w.heap.size w w' ∧ Box w' w.heap.size (.bool b) (.slice ao n nc) ∧ Box3 w' (w.heap.size + 1) (.bool false) (.slice none 0 0) (.slice none 0 0))
    ⟨(((Below.refl _ _).alloc (Nat.le_refl _) _).alloc (by first | (simp; done) | (simp; omega)) _), ((Box.new _ _ _ rfl).alloc _), (Box3.new _ _ _ _ (by first | (simp; done) | (simp; omega)))⟩ ?_
  rintro w0 ⟨hb0, x0, x1⟩
  refine (wNorm_any b ao n nc x _ (A'.out.below hb0)).mono ?_
  rintro e w1 ⟨eb, eo, en, ec, rfl, h1, hb⟩
  have x0 := x0.later hb; have x1 := x1.later hb; have bb := below_then hb0 (Nat.le_refl _) hb
  have h2 := Lib.hid (h1.box x0 (.bool eb) (.slice eo en ec)); have bb2 := Lib.hid (below_set bb (Nat.le_refl _) (.bool eb) (.slice eo en ec))
  have z0 := x0.set (.bool eb) (.slice eo en ec); have z1 := Lib.hid (x1.other (C := w.heap.size) (by omega) (.bool eb) (.slice eo en ec))
  have q0 := x0.c0; have q1 := x0.c1; have q2 := x0.fr 0; have q3 := x0.fr 1
  have p1 := z0.c1
  have z0' := Lib.hid z0
  clear x0 x1 bb z0 h1 hb hb0
  go_wp2_with fail
  refine gen_calls (fun w' => Below w.heap.size w w' ∧ Box w' w.heap.size (.bool eb) (.slice eo en ec) ∧ Box3 w' (w.heap.size + 1) (.bool false) (.slice none 0 0) (.slice none 0 0) ∧ Right w' eb eo en ec x) ⟨bb2.out, z0'.out, z1.out, h2.out⟩ ?_
  rintro w2 ⟨bb, x0, x1, h1⟩
  clear q0 q1 q2 q3 p1 z0' z1 h2 bb2
  refine (long_no eo en ec _ (h1.le_len hx'.out)).mono ?_
  rintro e w3 ⟨rfl, hb⟩
  have bb := Lib.hid (below_then bb (Nat.le_refl _) hb)
  have x0 := x0.later hb; have x1 := Lib.hid (x1.later hb); have h1 := Lib.hid (h1.below hb)
  have p0 := x0.c0; have p1 := x0.c1
  clear hb x0
  go_wp2_with fail
  refine gen_calls (fun w' => Below w.heap.size w w' ∧ Box3 w' (w.heap.size + 1) (.bool false) (.slice none 0 0) (.slice none 0 0) ∧ Right w' eb eo en ec x ∧ Sl w' (some ⟨w3.heap.size, 0, none⟩) 1 (fun _ => 1)) ⟨bb.out.alloc bb.out.size _, x1.out.alloc _, h1.out.alloc _, sl_new1 w3 _ _ _ rfl⟩ ?_
  rintro w4 ⟨bb, x1, h1, hs⟩
  clear p0 p1
  refine (over_w eb eo (some ⟨w3.heap.size, 0, none⟩) en ec 1 1 x 1 _ h1 ⟨fun _ => 1, ⟨Nat.le_refl _, by omega, by omega, hs, fun _ _ => (by decide : 1 < 4294967296)⟩, by simp [sgn, val, pw]⟩).mono ?_
  rintro e w5 ⟨gb, gp, gn, gc, gq, gm, ge, rfl, hR, hb⟩
  have bb := Lib.hid (below_then bb (Nat.le_refl _) hb)
  have x1 := x1.later hb
  have x1' := Lib.hid x1; have hR' := Lib.hid hR
  have q0 := x1.c0; have q1 := x1.c1; have q2 := x1.c2; have q3 := x1.fr 0; have q4 := x1.fr 1; have q5 := x1.fr 2
  have z := x1.set (.bool gb) (.slice gp gn gc) (.slice gq gm ge)
  have e0 := z.c0; have e1 := z.c1; have e2 := z.c2
  clear x1 hb z h1 hs hR
  go_wp2_with fail
  refine bodyPost_ret (v := .agg #[.bool gb, .slice gp gn gc, .slice gq gm ge]) (by simp [results, Tryz.results108, go_sem, e0, e1, e2]) rfl ?_
  exact RatPost.stored hR'.out x1'.out bb.out (by omega)

theorem int_32 {n : Int} (h0 : -9223372036854775808 ≤ n) (h1 : n ≤ 9223372036854775807) : n.natAbs < pw 32 := by
  have e : pw 3 = 79228162514264337593543950336 := rfl
  exact Nat.lt_of_lt_of_le (m := pw 3) (by omega) (pw_le (by omega))

set_option maxHeartbeats 1000000 in
theorem of_any (x : Int) (w : World) (h0 : -9223372036854775808 ≤ x) (h1 : x ≤ 9223372036854775807) :
    Calls Tryz.prog 50 #[.int .i64 x] w (RatPost x 1 w) := by
  have hx := Lib.hid (int_32 h0 h1)
  have k0 := Lib.hid h0; have k1 := Lib.hid h1
  clear h0 h1
  go_enter Tryz.func50, Tryz.ntmps50
  go_wp2_with fail
  refine gen_calls (fun w' => Below w.heap.size w w' ∧ Box3 w' w.heap.size (.bool false) (.slice none 0 0) (.slice none 0 0))
    ⟨((Below.refl _ _).alloc (Nat.le_refl _) _), (Box3.new _ _ _ _ rfl)⟩ ?_
  rintro w0 ⟨hb0, x0⟩
  refine (wOf_any x _ k0.out k1.out).mono ?_
  rintro e w1 ⟨eb, eo, en, ec, rfl, h1, hb⟩
  have x0 := x0.later hb; have bb := below_then hb0 (Nat.le_refl _) hb
  clear hb0 hb
  go_wp2_with fail
  refine (whole_any eb eo en ec x _ (h1.whole32 hx.out) hx.out).mono ?_
  rintro e w2 ⟨gb, gp, gn, gc, gq, gm, ge, rfl, hR, hb⟩
  have bb := Lib.hid (below_then bb (Nat.le_refl _) hb)
  have x0 := x0.later hb
  have x0' := Lib.hid x0; have hR' := Lib.hid hR
  have q0 := x0.c0; have q1 := x0.c1; have q2 := x0.c2; have q3 := x0.fr 0; have q4 := x0.fr 1; have q5 := x0.fr 2
  have z := x0.set (.bool gb) (.slice gp gn gc) (.slice gq gm ge)
  have e0 := z.c0; have e1 := z.c1; have e2 := z.c2
  clear x0 hb z hR
  go_wp2_with fail
  refine bodyPost_ret (v := .agg #[.bool gb, .slice gp gn gc, .slice gq gm ge]) (by simp [results, Tryz.results50, go_sem, e0, e1, e2]) rfl ?_
  exact RatPost.stored hR'.out x0'.out bb.out (by omega)

set_option maxHeartbeats 1000000 in
theorem sign_any (ab : Bool) (ap aq : Option Addr) (an ac am ae : Nat) (P : Int) (Q : Nat) (w : World) (A : Rt w ab ap an ac aq am ae P Q) (lA : Low P Q) :
    Calls Tryz.prog 51 #[.agg #[.bool ab, .slice ap an ac, .slice aq am ae]] w (Says (.int .i64 P.sign) w) := by
  have A' := Lib.hid A; have lA' := Lib.hid lA
  clear A lA
  go_enter Tryz.func51, Tryz.ntmps51
  go_wp2_with fail
  refine gen_calls (fun w' => Below w.heap.size w w' ∧ Box3 w' w.heap.size (.bool ab) (.slice ap an ac) (.slice aq am ae))
    ⟨((Below.refl _ _).alloc (Nat.le_refl _) _), (Box3.new _ _ _ _ rfl)⟩ ?_
  rintro w0 ⟨hb0, x0⟩
  refine (upper_any ab ap aq an ac am ae _).mono ?_
  rintro e w1 ⟨rfl, hb⟩
  have bb := Lib.hid (below_then hb0 (Nat.le_refl _) hb)
  clear hb0 hb x0
  go_wp2_with fail
  refine (wSign_any ab ap an ac P _ ((A'.out.below bb.out).upper lA'.out)).mono ?_
  rintro e w2 ⟨rfl, hb⟩
  have bb := Lib.hid (below_then bb.out (Nat.le_refl _) hb)
  clear hb
  go_wp2_with fail
  go_ret
  exact ⟨rfl, bb.out⟩

set_option maxHeartbeats 1000000 in
theorem neg_any (ab : Bool) (ap aq : Option Addr) (an ac am ae : Nat) (P : Int) (Q : Nat) (w : World) (A : Rt w ab ap an ac aq am ae P Q) (lA : Low P Q) :
    Calls Tryz.prog 49 #[.agg #[.bool ab, .slice ap an ac, .slice aq am ae]] w (RatPost (-P) Q w) := by
  have lA' := Lib.hid lA
  have A' := Lib.hid A
  clear lA A
  go_enter Tryz.func49, Tryz.ntmps49
  go_wp2_with fail
  refine gen_wp (fun w' => Below w.heap.size w w' ∧ Box3 w' w.heap.size (.bool ab) (.slice ap an ac) (.slice aq am ae) ∧ Box3 w' (w.heap.size + 1) (.bool false) (.slice none 0 0) (.slice none 0 0))
    ⟨(((Below.refl _ _).alloc (Nat.le_refl _) _).alloc (by first | (simp; done) | (simp; omega)) _), ((Box3.new _ _ _ _ rfl).alloc _), (Box3.new _ _ _ _ (by first | (simp; done) | (simp; omega)))⟩ ?_
  rintro w0 ⟨bb, x0, x1⟩
  have bb := bb.drew; have x0 := x0.drew; have x1 := x1.drew
  have A := A'.out.below bb
  clear A'
  have sa0 := True.intro
  go_region_held3 (fun w' => w'.cell? ⟨w.heap.size, 0, none⟩ = some (.bool ab) ∧ w'.cell? ⟨w.heap.size, 1, none⟩ = some (.slice ap an ac) ∧ w'.cell? ⟨w.heap.size, 2, none⟩ = some (.slice aq am ae))
    (first | with_reducible exact ⟨x0.c0, x0.c1, x0.c2⟩ | with_reducible exact ⟨(x0.other3 (by omega) _ _ _).c0, (x0.other3 (by omega) _ _ _).c1, (x0.other3 (by omega) _ _ _).c2⟩ | go_keep)
    (first
    | (go_at_call 107; clear sa0; refine (upper_any ab ap aq an ac am ae _).mono ?_; rintro e w' ⟨rfl, hb⟩; have bb := below_then bb (Nat.le_refl _) hb; have x0 := x0.later hb; have x1 := x1.later hb; have A := A.below hb; clear hb; have sa1 := True.intro)
    | (go_at_call 106; clear sa1; refine (wNeg_any ab ap an ac P _ (A.upper lA'.out)).mono ?_; rintro e w' ⟨eb, eo, en, ec, rfl, h1, hb⟩; have bb := below_then bb (Nat.le_refl _) hb; have x0 := x0.later hb; have x1 := x1.later hb; have A := A.below hb; clear hb; have sa2 := True.intro)
    | (go_at_call 105; clear sa2; refine (over_w eb eo aq en ec am ae (-P) Q _ h1 (A.lower lA'.out)).mono ?_; rintro e w' ⟨gb, gp, gn, gc, gq, gm, ge, rfl, hR, hb⟩; have bb := below_then bb (Nat.le_refl _) hb; have x0 := x0.later hb; have x1 := x1.later hb; have A := A.below hb; have h1 := h1.below hb; clear hb; have q0 := x1.c0; have q1 := x1.c1; have q2 := x1.c2; have q3 := x1.fr 0; have q4 := x1.fr 1; have q5 := x1.fr 2; have sa3 := True.intro))
  have z := x1.set (.bool gb) (.slice gp gn gc) (.slice gq gm ge)
  have e0 := z.c0; have e1 := z.c1; have e2 := z.c2
  have x1' := Lib.hid x1; have bb' := Lib.hid bb; have hR' := Lib.hid hR
  clear z x1 bb x0 A hR
  go_wp2_with fail
  refine bodyPost_ret (v := .agg #[.bool gb, .slice gp gn gc, .slice gq gm ge]) (by simp [results, Tryz.results49, go_sem, e0, e1, e2]) rfl ?_
  exact RatPost.stored hR'.out x1'.out bb'.out (by omega)

theorem mul_32 {x y : Int} (hx : x.natAbs < pw 32) (hy : y.natAbs < pw 32) : (x * y).natAbs < pw 64 := mul_abs hx hy

set_option maxHeartbeats 2000000 in
theorem cmp4_any (ab : Bool) (ap aq : Option Addr) (an ac am ae : Nat) (P : Int) (Q : Nat) (cb : Bool) (cp cq : Option Addr) (cn cc cm ce : Nat) (R : Int) (S : Nat) (w : World) (A : Rt w ab ap an ac aq am ae P Q) (lA : Low P Q) (B : Rt w cb cp cn cc cq cm ce R S) (lB : Low R S) :
    Calls Tryz.prog 125 #[.agg #[.bool ab, .slice ap an ac, .slice aq am ae], .agg #[.bool cb, .slice cp cn cc, .slice cq cm ce]] w (Says (.int .i64 (cmpI (P * S) (R * Q))) w) := by
  have lA' := Lib.hid lA; have lB' := Lib.hid lB
  have A' := Lib.hid A; have B' := Lib.hid B
  clear lA A lB B
  go_enter Tryz.func125, Tryz.ntmps125
  go_wp2_with fail
  refine gen_wp (fun w' => Below w.heap.size w w' ∧ Box3 w' w.heap.size (.bool ab) (.slice ap an ac) (.slice aq am ae) ∧ Box3 w' (w.heap.size + 1) (.bool cb) (.slice cp cn cc) (.slice cq cm ce))
    ⟨(((Below.refl _ _).alloc (Nat.le_refl _) _).alloc (by first | (simp; done) | (simp; omega)) _), ((Box3.new _ _ _ _ rfl).alloc _), (Box3.new _ _ _ _ (by first | (simp; done) | (simp; omega)))⟩ ?_
  rintro w0 ⟨bb, x0, x1⟩
  have bb := bb.drew; have x0 := x0.drew; have x1 := x1.drew
  have A := A'.out.below bb; have B := B'.out.below bb
  clear A' B'
  have sc0 := True.intro
  go_region_held3 (fun w' => w'.cell? ⟨w.heap.size, 0, none⟩ = some (.bool ab) ∧ w'.cell? ⟨w.heap.size, 1, none⟩ = some (.slice ap an ac) ∧ w'.cell? ⟨w.heap.size, 2, none⟩ = some (.slice aq am ae) ∧ w'.cell? ⟨(w.heap.size + 1), 0, none⟩ = some (.bool cb) ∧ w'.cell? ⟨(w.heap.size + 1), 1, none⟩ = some (.slice cp cn cc) ∧ w'.cell? ⟨(w.heap.size + 1), 2, none⟩ = some (.slice cq cm ce))
    (first | with_reducible exact ⟨x0.c0, x0.c1, x0.c2, x1.c0, x1.c1, x1.c2⟩ | go_keep)
    (first
    | (go_at_call 107; clear sc0; refine (upper_any ab ap aq an ac am ae _).mono ?_; rintro e w' ⟨rfl, hb⟩; have bb := below_then bb (Nat.le_refl _) hb; have x0 := x0.later hb; have x1 := x1.later hb; have A := A.below hb; have B := B.below hb; clear hb; have sc1 := True.intro)
    | (go_at_call 113; clear sc1; refine (lower_any cb cp cq cn cc cm ce _).mono ?_; rintro e w' ⟨rfl, hb⟩; have bb := below_then bb (Nat.le_refl _) hb; have x0 := x0.later hb; have x1 := x1.later hb; have A := A.below hb; have B := B.below hb; clear hb; have sc2 := True.intro)
    | (go_at_call 112; clear sc2; refine (wMul_any ab false ap cq an ac cm ce P S _ (A.upper lA'.out) (B.lower lB'.out)).mono ?_; rintro e w' ⟨eb, eo, en, ec, rfl, h1, hb⟩; have bb := below_then bb (Nat.le_refl _) hb; have x0 := x0.later hb; have x1 := x1.later hb; have A := A.below hb; have B := B.below hb; clear hb; have sc3 := True.intro)
    | (go_at_call 107; clear sc3; refine (upper_any cb cp cq cn cc cm ce _).mono ?_; rintro e w' ⟨rfl, hb⟩; have bb := below_then bb (Nat.le_refl _) hb; have x0 := x0.later hb; have x1 := x1.later hb; have A := A.below hb; have B := B.below hb; have h1 := h1.below hb; clear hb; have sc4 := True.intro)
    | (go_at_call 113; clear sc4; refine (lower_any ab ap aq an ac am ae _).mono ?_; rintro e w' ⟨rfl, hb⟩; have bb := below_then bb (Nat.le_refl _) hb; have x0 := x0.later hb; have x1 := x1.later hb; have A := A.below hb; have B := B.below hb; have h1 := h1.below hb; clear hb; have sc5 := True.intro)
    | (go_at_call 112; clear sc5; refine (wMul_any cb false cp aq cn cc am ae R Q _ (B.upper lB'.out) (A.lower lA'.out)).mono ?_; rintro e w' ⟨fb, fo, fn, fc, rfl, h2, hb⟩; have bb := below_then bb (Nat.le_refl _) hb; have x0 := x0.later hb; have x1 := x1.later hb; have A := A.below hb; have B := B.below hb; have h1 := h1.below hb; clear hb; have sc6 := True.intro)
    | (go_at_call 165; clear sc6; refine (wCmp_any eb fb eo fo en ec fn fc (P * S) (R * Q) _ (h1.whole (mul_32 lA'.out.abs_lt lB'.out.bot_lt) (by omega)) (h2.whole (mul_32 lB'.out.abs_lt lA'.out.bot_lt) (by omega))).mono ?_; rintro e w' ⟨rfl, hb⟩; have bb := below_then bb (Nat.le_refl _) hb; have x0 := x0.later hb; have x1 := x1.later hb; have A := A.below hb; have B := B.below hb; have h1 := h1.below hb; have h2 := h2.below hb; clear hb; have sc7 := True.intro))
  have bb' := Lib.hid bb
  clear bb x0 x1 A B h1 h2
  go_wp2_with fail
  go_ret
  exact ⟨rfl, bb'.out⟩

end Go.Proofs.YtaepelipkkmeaaaGreat
namespace Go.Proofs.YtaepelipkkmeaaaGreat

open Go.RowKit Num

attribute [local go_sem ↓] Go.wp_at_zero Go.wp_at_succ

theorem sl_one {w : World} {B : Nat} {v : Int} {x : Nat} (t : TypeId) (h : B = w.heap.size) (hv : v = x) : Sl (w.alloc (.cells #[.int .u32 v] t)) (some ⟨B, 0, none⟩) 1 (fun _ => x) := by
  subst h
  exact sl_new1 w t v x hv

set_option maxHeartbeats 1000000 in
theorem rOf_any (n : Int) (w : World) (h0 : -9223372036854775808 ≤ n) (h1 : n ≤ 9223372036854775807) :
    Calls Tryz.prog 97 #[.int .i64 n] w (IntPost n w) := by
  by_cases hn : 0 ≤ n
  · obtain ⟨v, rfl⟩ := Int.eq_ofNat_of_zero_le hn
    go_enter Tryz.func97, Tryz.ntmps97
    go_wp2_with fail
    refine gen_calls (fun w' => Below w.heap.size w w' ∧ Box w' w.heap.size (.bool false) (.slice none 0 0) ∧ Sl w' (some ⟨w.heap.size + 1, 0, none⟩) 2 (put (fun _ => v % 4294967296) 1 (v / 4294967296)))
      ⟨((Below.refl _ w).alloc (Nat.le_refl _) _).alloc (by simp) _, (Box.new _ _ _ rfl).alloc _, sl_two _ (by simp) (by omega) (by omega)⟩ ?_
    rintro w0 ⟨hb0, x0, hs⟩
    refine (rNorm_any false (some ⟨w.heap.size + 1, 0, none⟩) 2 2 v _ ⟨_, ⟨Nat.le_refl _, by omega, by omega, hs, lim_two (by omega) (by omega)⟩, by rw [val_pair, Nat.mod_add_div]; rfl⟩).mono ?_
    rintro e w3 ⟨sb, so, sn, sc, rfl, hR, hb4⟩
    have z2 := x0.later hb4
    have q1 := z2.c0; have q2 := z2.c1; have q3 := z2.fr 0; have q4 := z2.fr 1
    have hb2 := below_then hb0 (Nat.le_refl _) hb4
    have z3 := z2.set (.bool sb) (.slice so sn sc)
    have e0 := z3.c0; have e1 := z3.c1
    have hR' := Lib.hid hR; have z2' := Lib.hid z2; have hb2' := Lib.hid hb2
    clear hR z2 hb2 hb4 hs x0 hb0 z3
    go_wp2_with fail
    refine bodyPost_ret (v := .agg #[.bool sb, .slice so sn sc]) (by simp [results, Tryz.results97, go_sem, e0, e1]) rfl ?_
    exact IntPost.stored hR'.out z2'.out hb2'.out (by omega)
  · obtain ⟨v, hv⟩ : ∃ v : Nat, n = -1 - (v : Int) := ⟨(-1 - n).toNat, by omega⟩
    subst hv
    go_enter Tryz.func97, Tryz.ntmps97
    go_wp2_with fail
    refine gen_calls (fun w' => Below w.heap.size w w' ∧ Box w' w.heap.size (.bool false) (.slice none 0 0) ∧ Sl w' (some ⟨w.heap.size + 1, 0, none⟩) 2 (put (fun _ => v % 4294967296) 1 (v / 4294967296)) ∧ Sl w' (some ⟨w.heap.size + 1 + 1, 0, none⟩) 1 (fun _ => 1))
      ⟨(((Below.refl _ w).alloc (Nat.le_refl _) _).alloc (by simp) _).alloc (by simp; omega) _, ((Box.new _ _ _ rfl).alloc _).alloc _, (sl_two _ (by simp) (by omega) (by omega)).below ((Below.refl _ _).alloc (Nat.le_refl _) _), sl_one _ (by simp) rfl⟩ ?_
    rintro w0 ⟨hb0, x0, hs, ht⟩
    refine (refAdd_any (some ⟨w.heap.size + 1, 0, none⟩) (some ⟨w.heap.size + 1 + 1, 0, none⟩) 2 2 1 1 _ (fun _ => 1) _ ⟨Nat.le_refl _, by omega, by omega, hs, lim_two (by omega) (by omega)⟩ ⟨Nat.le_refl _, by omega, by omega, ht, fun _ _ => (by decide : 1 < 4294967296)⟩ (by decide)).mono ?_
    have ev : val (fun _ => 1) 1 = 1 := by simp [val, pw]
    rw [val_pair, Nat.mod_add_div, ev]
    rintro e w1 ⟨co, cn, cc, c, rfl, g1, g2, g3, g4, hb⟩
    have y0 := Lib.hid (x0.later hb)
    have hb1 := Lib.hid (below_then hb0 (Nat.le_refl _) hb)
    have hW := Lib.hid (show Whole w1 true co cn cc (-1 - (v : Int)) from ⟨c, g4.arg g3 g1 g2 (Nat.lt_of_lt_of_le (m := pw 3) (by have e : pw 3 = 79228162514264337593543950336 := rfl; omega) (pw_le (by omega))), by rw [g4.val, sgn_true]; omega⟩)
    clear g3 g4 hb hs ht x0 hb0 ev
    go_wp2_with fail
    refine (rNorm_any true co cn cc (-1 - (v : Int)) _ hW.out).mono ?_
    rintro e w3 ⟨sb, so, sn, sc, rfl, hR, hb4⟩
    have z2 := y0.out.later hb4
    have q1 := z2.c0; have q2 := z2.c1; have q3 := z2.fr 0; have q4 := z2.fr 1
    have hb2 := below_then hb1.out (Nat.le_refl _) hb4
    have z3 := z2.set (.bool sb) (.slice so sn sc)
    have e0 := z3.c0; have e1 := z3.c1
    have hR' := Lib.hid hR; have z2' := Lib.hid z2; have hb2' := Lib.hid hb2
    clear hR z2 hb2 hb4 z3
    go_wp2_with fail
    refine bodyPost_ret (v := .agg #[.bool sb, .slice so sn sc]) (by simp [results, Tryz.results97, go_sem, e0, e1]) rfl ?_
    exact IntPost.stored hR'.out z2'.out hb2'.out (by omega)

end Go.Proofs.YtaepelipkkmeaaaGreat
namespace Go.Proofs.YtaepelipkkmeaaaGreat

open Go.RowKit Num

/-- What Same tells of any limbs. -/
def SameBPost (n m : Nat) (f g : Nat → Nat) (w : World) (e : Ending) (w' : World) : Prop := ∃ r, e = .returned (.bool r) ∧ (r = true ↔ n = m ∧ ∀ j, j < n → f j = g j) ∧ Below w.heap.size w w'

def Same4BPost (b c : Bool) (n m k l : Nat) (f g h i : Nat → Nat) (w : World) (e : Ending) (w' : World) : Prop := ∃ r, e = .returned (.bool r) ∧ (r = true ↔ b = c ∧ (n = m ∧ ∀ j, j < n → f j = g j) ∧ (k = l ∧ ∀ j, j < k → h j = i j)) ∧ Below w.heap.size w w'

set_option maxHeartbeats 1000000 in
/-- Same, of any limbs. -/
theorem sameB_any (ao bo : Option Addr) (n nc m mc : Nat) (f g : Nat → Nat) (w : World) (hn : n ≤ 9223372036854775807) (hf : Sl w ao n f) (hg : Sl w bo m g) :
    Calls Tryz.prog 79 #[.slice ao n nc, .slice bo m mc] w (SameBPost n m f g w) := by
  by_cases hnm : n = m
  · subst hnm
    go_enter Tryz.func79, Tryz.ntmps79
    go_wp2_with fail
    go_loopw [5] (fun i wr => ∃ j : Nat, j ≤ n ∧ i = .int .i64 j ∧ Hid (∀ i, i < j → f i = g i) ∧ ∃ q, wr = w.drewN q) (fun i _ => n - (intOf i).toNat)
    case atStart => exact ⟨0, Nat.zero_le _, rfl, Lib.hid (fun i hi => absurd hi (Nat.not_lt_zero _)), 0, rfl⟩
    case round =>
      obtain ⟨j, hj, rfl, heq, q, rfl⟩ := hrel
      by_cases hlt : j < n
      · rcases hf with h | ⟨b, off, rfl, hc⟩
        · omega
        rcases hg with h | ⟨b', off', rfl, hc'⟩
        · omega
        have c1 := hc j hlt
        have c2 := hc' j hlt
        clear hc hc'
        by_cases he : f j = g j
        · rw [← he] at c2
          have heq' : Hid (∀ i, i < j + 1 → f i = g i) := Lib.hid (fun i hi => by
            by_cases hij : i < j
            · exact heq.out i hij
            · have : i = j := by omega
              subst this; exact he)
          clear he heq
          go_wp2_with fail
          go_quiet (fail)
          go_wp2_with fail
          go_roundw
          case rel => exact ⟨j + 1, by omega, by go_num, heq', _, rfl⟩
          case measure => simp [intOf]; omega
        · have he' : ((f j : Int) == (g j : Int)) = false := by rw [beq_eq_false_iff_ne]; omega
          have hid := Lib.hid he
          have hlt' := Lib.hid hlt
          go_wp2_with fail
          go_quiet (fail)
          go_wp2_with fail
          go_ret
          exact ⟨false, rfl, ⟨(fun h => by cases h), fun h => absurd (h.2 j hlt'.out) hid.out⟩, below_drewN (below_drewN (Below.refl _ _) _) _⟩
      · have : j = n := by omega
        subst this
        go_wp2_with fail
        go_ret
        exact ⟨true, rfl, ⟨fun _ => ⟨rfl, heq.out⟩, fun _ => rfl⟩, below_drewN (Below.refl _ _) _⟩
  · have hd : ((n : Int) == (m : Int)) = false := by rw [beq_eq_false_iff_ne]; omega
    have hnm' := Lib.hid hnm
    clear hf hg
    go_enter Tryz.func79, Tryz.ntmps79
    go_wp2_with fail
    go_ret
    exact ⟨false, rfl, ⟨(fun h => by cases h), fun h => absurd h.1 hnm'.out⟩, Below.refl _ _⟩

attribute [local go_sem ↓] Go.wp_at_zero Go.wp_at_succ

set_option maxHeartbeats 2000000 in
theorem same4B_any (ab cb : Bool) (ap aq cp cq : Option Addr) (an ac am ae cn cc cm ce : Nat) (f h g k : Nat → Nat) (w : World) (hn : an ≤ 9223372036854775807) (hm : am ≤ 9223372036854775807) (hf : Sl w ap an f) (hh : Sl w aq am h) (hg : Sl w cp cn g) (hk : Sl w cq cm k) :
    Calls Tryz.prog 21 #[.agg #[.bool ab, .slice ap an ac, .slice aq am ae], .agg #[.bool cb, .slice cp cn cc, .slice cq cm ce]] w (Same4BPost ab cb an cn am cm f g h k w) := by
  have hf' := Lib.hid hf; have hh' := Lib.hid hh; have hg' := Lib.hid hg; have hk' := Lib.hid hk
  clear hf hh hg hk
  by_cases hb : ab = cb
  · subst hb
    go_enter Tryz.func21, Tryz.ntmps21
    go_wp2_with fail
    refine gen_calls (fun w' => Below w.heap.size w w' ∧ Box3 w' w.heap.size (.bool ab) (.slice ap an ac) (.slice aq am ae) ∧ Box3 w' (w.heap.size + 1) (.bool ab) (.slice cp cn cc) (.slice cq cm ce))
      ⟨(((Below.refl _ _).alloc (Nat.le_refl _) _).alloc (by first | (simp; done) | (simp; omega)) _), ((Box3.new _ _ _ _ rfl).alloc _), (Box3.new _ _ _ _ (by first | (simp; done) | (simp; omega)))⟩ ?_
    rintro w0 ⟨hb0, x0, x1⟩
    refine (sameB_any ap cp an ac cn cc f g _ hn (hf'.out.below hb0) (hg'.out.below hb0)).mono ?_
    rintro e w1 ⟨r, rfl, hr, hb⟩
    have bb := Lib.hid (below_then hb0 (Nat.le_refl _) hb)
    have x0 := x0.later hb; have x1 := x1.later hb
    have p0 := x0.c2; have p1 := x1.c2
    replace hr := Lib.hid hr
    clear hb hb0 x0 x1
    cases r
    · go_wp2_with fail
      go_ret
      exact ⟨false, rfl, ⟨(fun h => by cases h), fun h => absurd (hr.out.2 h.2.1) (by decide)⟩, bb.out⟩
    · go_wp2_with fail
      refine (sameB_any aq cq am ae cm ce h k _ hm (hh'.out.below bb.out) (hk'.out.below bb.out)).mono ?_
      rintro e w2 ⟨s, rfl, hs, hb⟩
      have bb := Lib.hid (below_then bb.out (Nat.le_refl _) hb)
      replace hs := Lib.hid hs
      clear hb p0 p1
      go_wp2_with fail
      go_ret
      exact ⟨s, rfl, ⟨fun e => ⟨rfl, hr.out.1 (by first | exact rfl | trivial), hs.out.1 e⟩, fun h => hs.out.2 h.2.2⟩, bb.out⟩
  · have hd : (ab == cb) = false := by simp [hb]
    have hb' := Lib.hid hb
    clear hb
    go_enter Tryz.func21, Tryz.ntmps21
    go_wp2_with fail
    go_ret
    exact ⟨false, rfl, ⟨(fun h => by cases h), fun h => absurd h.1 hb'.out⟩, (((Below.refl _ _).alloc (Nat.le_refl _) _).alloc (by simp) _)⟩

theorem Right.same {w : World} {b c : Bool} {ao bo : Option Addr} {n nc m mc : Nat} {x : Int} (A : Right w b ao n nc x) (B : Right w c bo m mc x) : b = c := A.neg.trans B.neg.symm

theorem same4_any (ab : Bool) (ap aq : Option Addr) (an ac am ae : Nat) (P : Int) (Q : Nat) (cb : Bool) (cp cq : Option Addr) (cn cc cm ce : Nat) (w : World) (A : Rt w ab ap an ac aq am ae P Q) (B : Rt w cb cp cn cc cq cm ce P Q) :
    Calls Tryz.prog 21 #[.agg #[.bool ab, .slice ap an ac, .slice aq am ae], .agg #[.bool cb, .slice cp cn cc, .slice cq cm ce]] w (Says (.bool true) w) := by
  have e := A.top.same B.top
  obtain ⟨f, f1, f2, f3, f4, _⟩ := A.top.ex
  obtain ⟨h, h1, h2, h3, h4, _⟩ := A.bot.ex
  obtain ⟨g, _, _, g3, g4, _⟩ := B.top.ex
  obtain ⟨k, _, _, k3, k4, _⟩ := B.bot.ex
  refine (same4B_any ab cb ap aq cp cq an ac am ae cn cc cm ce f h g k w (by omega) (by omega) f3 h3 g3 k3).mono ?_
  rintro e' w' ⟨r, rfl, hr, hb⟩
  have := hr.2 ⟨e, ⟨f4.len g4, f4.eq g4⟩, ⟨h4.len k4, h4.eq k4⟩⟩
  subst this
  exact ⟨rfl, hb⟩

end Go.Proofs.YtaepelipkkmeaaaGreat
