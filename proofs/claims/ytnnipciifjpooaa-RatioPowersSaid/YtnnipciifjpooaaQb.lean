/-
  ratio.upper, lower, over, long; ratio.Make.
-/
import Derived.Test.YtnnipciifjpooaaQa
import Derived.Test.YtnnipciifjpooaaRb
import Derived.Test.YtnnipciifjpooaaWc
namespace Go.Proofs.Ytnnipciifjpooaa
open Go.RowKit Num

attribute [local go_sem ↓] Go.wp_at_zero Go.wp_at_succ

set_option maxHeartbeats 1000000 in
theorem upper_any (ab : Bool) (ap aq : Option Addr) (an ac am ae : Nat) (w : World) :
    Calls Try.prog 45 #[.agg #[.bool ab, .slice ap an ac, .slice aq am ae]] w (Says (.agg #[.bool ab, .slice ap an ac]) w) := by
  go_enter Try.func45, Try.ntmps45
  go_wp2_with fail
  refine bodyPost_ret (v := .agg #[.bool ab, .slice ap an ac]) (by simp [results, Try.results45, go_sem]) rfl ?_
  exact ⟨rfl, ((Below.refl _ w).alloc (Nat.le_refl _) _).alloc (by simp) _⟩

set_option maxHeartbeats 1000000 in
theorem lower_any (ab : Bool) (ap aq : Option Addr) (an ac am ae : Nat) (w : World) :
    Calls Try.prog 46 #[.agg #[.bool ab, .slice ap an ac, .slice aq am ae]] w (Says (.agg #[.bool false, .slice aq am ae]) w) := by
  go_enter Try.func46, Try.ntmps46
  go_wp2_with fail
  refine bodyPost_ret (v := .agg #[.bool false, .slice aq am ae]) (by simp [results, Try.results46, go_sem]) rfl ?_
  exact ⟨rfl, ((Below.refl _ w).alloc (Nat.le_refl _) _).alloc (by simp) _⟩

set_option maxHeartbeats 1000000 in
theorem long_no (ao : Option Addr) (n nc : Nat) (w : World) (h : n ≤ 32) :
    Calls Try.prog 77 #[.slice ao n nc] w (Says (.bool false) w) := by
  have hd : decide ((32 : Int) < (n : Int)) = false := by rw [decide_eq_false_iff_not]; omega
  go_enter Try.func77, Try.ntmps77
  go_wp2_with fail
  go_ret
  exact ⟨rfl, Below.refl _ w⟩

set_option maxHeartbeats 1000000 in
theorem long_yes (ao : Option Addr) (n nc : Nat) (w : World) (h : 32 < n) :
    Calls Try.prog 77 #[.slice ao n nc] w (Says (.bool true) w) := by
  have hd : decide ((32 : Int) < (n : Int)) = true := by rw [decide_eq_true_iff]; omega
  go_enter Try.func77, Try.ntmps77
  go_wp2_with fail
  go_ret
  exact ⟨rfl, Below.refl _ w⟩

set_option maxHeartbeats 1000000 in
theorem over_any (b : Bool) (ao bo : Option Addr) (n nc m mc : Nat) (x : Int) (g : Nat → Nat) (w : World) (A : Right w b ao n nc x) (B : Arg w bo m mc g) :
    Calls Try.prog 60 #[.agg #[.bool b, .slice ao n nc], .slice bo m mc] w (RatPost x (val g m) w) := by
  have A' := Lib.hid A; have B' := Lib.hid B
  clear A B
  go_enter Try.func60, Try.ntmps60
  go_wp2_with fail
  refine gen_wp (fun w' => Below w.heap.size w w' ∧ Box w' w.heap.size (.bool b) (.slice ao n nc) ∧ Box3 w' (w.heap.size + 1) (.bool false) (.slice none 0 0) (.slice none 0 0))
    ⟨(((Below.refl _ _).alloc (Nat.le_refl _) _).alloc (by first | (simp; done) | (simp; omega)) _), ((Box.new _ _ _ rfl).alloc _), (Box3.new _ _ _ _ (by first | (simp; done) | (simp; omega)))⟩ ?_
  rintro w0 ⟨bb, x0, x1⟩
  have bb := bb.drew; have x0 := x0.drew; have x1 := x1.drew
  have sa0 := True.intro
  go_region_held3 (fun w' => w'.cell? ⟨w.heap.size, 0, none⟩ = some (.bool b) ∧ w'.cell? ⟨w.heap.size, 1, none⟩ = some (.slice ao n nc))
    (first | with_reducible exact ⟨x0.c0, x0.c1⟩ | with_reducible exact ⟨(x0.other3 (by omega) _ _ _).c0, (x0.other3 (by omega) _ _ _).c1⟩ | go_keep)
    (first
    | (go_at_call 86; clear sa0; refine (norm_any bo m mc g _ (B'.out.below bb)).mono ?_; rintro e w' ⟨co, cn, cc, c, rfl, h1, h2, h3, h4, hb⟩; have bb := below_then bb (Nat.le_refl _) hb; have x0 := x0.later hb; have x1 := x1.later hb; clear hb; have q0 := x1.c0; have q1 := x1.c1; have q2 := x1.c2; have q3 := x1.fr 0; have q4 := x1.fr 1; have q5 := x1.fr 2; have sa1 := True.intro))
  have z := x1.set (.bool b) (.slice ao n nc) (.slice co cn cc)
  have e0 := z.c0; have e1 := z.c1; have e2 := z.c2
  have hR : Hid (Rt w' b ao n nc co cn cc x (val g m)) := Lib.hid ⟨A'.out.below bb, canon_right (b := false) h1 h2 h3 h4 (.inr rfl)⟩
  have x1' := Lib.hid x1; have bb' := Lib.hid bb
  clear z h3 h4 x1 bb x0 A' B'
  go_wp2_with fail
  refine bodyPost_ret (v := .agg #[.bool b, .slice ao n nc, .slice co cn cc]) (by simp [results, Try.results60, go_sem, e0, e1, e2]) rfl ?_
  exact RatPost.stored hR.out x1'.out bb'.out (by omega)

theorem make_bad {p q e : Int} {w w' : World} {E : Ending} (h : mkE p q = e) (he : e ≠ 0) (k : ResPost 0 0 e w E w') : MakePost p q w E w' := by
  subst h
  show ResPost (mkT p q) (mkB p q) (mkE p q) w E w'
  rw [(mk_bad he).1, (mk_bad he).2]
  exact k
theorem make_good {p q : Int} {w w' : World} {E : Ending} (h : mkE p q = 0) (k : ResPost (mkT p q) (mkB p q) 0 w E w') : MakePost p q w E w' := by
  show ResPost (mkT p q) (mkB p q) (mkE p q) w E w'
  rw [h]
  exact k
theorem whole_abs {w : World} {b : Bool} {ao : Option Addr} {n nc : Nat} {x : Int} (h : Whole w b ao n nc x) : ∃ f, Arg w ao n nc f ∧ val f n = x.natAbs := by
  obtain ⟨f, A, rfl⟩ := h.ex
  exact ⟨f, A, by rw [sgn_abs]⟩
theorem mkE_three {p q : Int} (h : q = 0) : mkE p q = 3 := mk_three.2 h
theorem mkE_seven {p q : Int} (h : q ≠ 0) (k : pw 32 ≤ p.natAbs / mkG p q ∨ pw 32 ≤ q.natAbs / mkG p q) : mkE p q = 7 := by
  unfold mkE
  rw [if_neg h, if_neg (by omega)]
theorem canon_long {v n : Nat} {f : Nat → Nat} (c : Canon v n f) (h : 32 < n) : pw 32 ≤ v := by
  apply Nat.le_of_not_lt
  intro hl
  have := c.len_le hl
  omega
theorem canon_short {v n : Nat} {f : Nat → Nat} (c : Canon v n f) (h : n ≤ 32) : v < pw 32 := Nat.lt_of_lt_of_le c.lt_pw (pw_le h)
theorem sign_small (p q : Int) : IntKind.i64.wrap (p.sign * q.sign) = p.sign * q.sign := by
  have e : (p * q).sign = p.sign * q.sign := Int.sign_mul ..
  rw [← e]
  rcases Int.lt_trichotomy (p * q) 0 with h | h | h
  · rw [Int.sign_eq_neg_one_of_neg h]; rfl
  · rw [h]; rfl
  · rw [Int.sign_eq_one_of_pos h]; rfl

set_option maxRecDepth 20000 in
set_option maxHeartbeats 4000000 in
theorem make_any (b c : Bool) (ao bo : Option Addr) (n nc m mc : Nat) (p q : Int) (w : World) (A : Whole w b ao n nc p) (B : Whole w c bo m mc q) :
    Calls Try.prog 47 #[.agg #[.bool b, .slice ao n nc], .agg #[.bool c, .slice bo m mc]] w (MakePost p q w) := by
  have A' := Lib.hid A; have B' := Lib.hid B
  clear A B
  go_enter Try.func47, Try.ntmps47
  go_wp2_with fail
  refine gen_calls (fun w' => Below w.heap.size w w' ∧ Box w' w.heap.size (.bool b) (.slice ao n nc) ∧ Box w' (w.heap.size + 1) (.bool c) (.slice bo m mc) ∧ Box3 w' (w.heap.size + 2) (.bool false) (.slice none 0 0) (.slice none 0 0))
    ⟨((((Below.refl _ _).alloc (Nat.le_refl _) _).alloc (by first | (simp; done) | (simp; omega)) _).alloc (by first | (simp; done) | (simp; omega)) _), (((Box.new _ _ _ rfl).alloc _).alloc _), ((Box.new _ _ _ (by first | (simp; done) | (simp; omega))).alloc _), (Box3.new _ _ _ _ (by first | (simp; done) | (simp; omega)))⟩ ?_
  rintro w0 ⟨hb0, x0, x1, x2⟩
  refine (wSign_any c bo m mc q _ (B'.out.below hb0)).mono ?_
  by_cases hq : q = 0
  · have hs : q.sign = 0 := by rw [hq]; rfl
    rw [hs]
    have hE := Lib.hid (mkE_three (p := p) hq)
    clear hs hq
    rintro e w1 ⟨rfl, hb⟩
    have x2 := x2.later hb
    have bb := Lib.hid (below_then hb0 (Nat.le_refl _) hb)
    have x2' := Lib.hid x2
    have q0 := x2.c0; have q1 := x2.c1; have q2 := x2.c2; have q3 := x2.fr 0; have q4 := x2.fr 1; have q5 := x2.fr 2
    have z := x2.set (.bool false) (.slice none 0 0) (.slice none 0 0)
    have e0 := z.c0; have e1 := z.c1; have e2 := z.c2
    clear x0 x1 x2 hb hb0 z A' B'
    go_wp2_with fail
    refine bodyPost_ret (v := .tuple #[.agg #[.bool false, .slice none 0 0, .slice none 0 0], .int .i64 3]) (by simp [results, Try.results47, go_sem, e0, e1, e2]) rfl ?_
    exact make_bad hE.out (by decide) (ResPost.stored (rt_zero _) x2'.out bb.out (by omega))
  have hs : ¬ q.sign = 0 := fun e => hq (Int.sign_eq_zero_iff_zero.1 e)
  have hq' := Lib.hid hq
  clear hq
  rintro e w1 ⟨rfl, hb⟩
  have x0 := x0.later hb; have x1 := x1.later hb; have x2 := Lib.hid (x2.later hb)
  have bb := Lib.hid (below_then hb0 (Nat.le_refl _) hb)
  have A1 := Lib.hid (A'.out.below bb.out); have B1 := Lib.hid (B'.out.below bb.out)
  have p0 := x0.c1; have p1 := x1.c1
  have x0' := Lib.hid x0; have x1' := Lib.hid x1
  clear hb hb0 A' B' x0 x1
  go_wp2_with fail
  clear p0 p1 hs
  obtain ⟨f, hF, hf⟩ := whole_abs A1.out
  obtain ⟨g, hG, hg⟩ := whole_abs B1.out
  have hF := Lib.hid hF; have hf := Lib.hid hf; have hG := Lib.hid hG; have hg := Lib.hid hg
  refine (gcd_any ao bo n nc m mc f g _ hF.out hG.out).mono ?_
  rw [hf.out, hg.out]
  rintro e w2 ⟨go, gn, gc, gf, rfl, g1, g2, g3, g4, hb⟩
  have g4 : Hid (Canon (mkG p q) gn gf) := Lib.hid g4
  have hfew : Hid (mkG p q < pw 1000000) := Lib.hid (Nat.lt_of_le_of_lt (Nat.le_of_dvd (by have := hq'.out; omega) (Nat.gcd_dvd_right _ _)) (by rw [← hg.out]; exact small2 hG.out.few (val_lt hG.out.lim)))
  have gA := Lib.hid (g4.out.arg g3 g1 g2 hfew.out)
  have bb := Lib.hid (below_then bb.out (Nat.le_refl _) hb)
  have x0 := x0'.out.later hb; have x1 := x1'.out.later hb; have x2 := Lib.hid (x2.out.later hb)
  have hF := Lib.hid (hF.out.below hb); have hG := Lib.hid (hG.out.below hb); have A1 := Lib.hid (A1.out.below hb); have B1 := Lib.hid (B1.out.below hb)
  have p0 := x0.c1
  have x0' := Lib.hid x0; have x1' := Lib.hid x1
  clear hb g3 hfew x0 x1
  go_wp2_with fail
  clear p0
  refine (divMod_any ao go n nc gn gc f gf _ hF.out gA.out).mono ?_
  rw [hf.out, g4.out.val]
  rintro e w3 ⟨hb, h⟩
  have hg0 : Hid (mkG p q ≠ 0) := Lib.hid (Nat.pos_iff_ne_zero.1 (mkG_pos hq'.out))
  rcases h with ⟨h, _⟩ | ⟨_, to_, tn, tc, tf, ro, rn, rc, rf, rfl, t1, t2, _, _, t3, t4, _, _⟩
  · exact absurd h hg0.out
  have t3 := Lib.hid t3; have t4 := Lib.hid t4
  have bb := Lib.hid (below_then bb.out (Nat.le_refl _) hb)
  have x0 := x0'.out.later hb; have x1 := x1'.out.later hb; have x2 := Lib.hid (x2.out.later hb)
  have hG := Lib.hid (hG.out.below hb); have A1 := Lib.hid (A1.out.below hb); have B1 := Lib.hid (B1.out.below hb); have gA := Lib.hid (gA.out.below hb)
  have p0 := x1.c1
  have x0' := Lib.hid x0; have x1' := Lib.hid x1
  clear hb x0 x1 hF
  go_wp2_with fail
  clear p0
  refine (divMod_any bo go m mc gn gc g gf _ hG.out gA.out).mono ?_
  rw [hg.out, g4.out.val]
  rintro e w4 ⟨hb, h⟩
  rcases h with ⟨h, _⟩ | ⟨_, uo, un, uc, uf, ro', rn', rc', rf', rfl, u1, u2, _, _, u3, u4, _, _⟩
  · exact absurd h hg0.out
  have u3 := Lib.hid u3; have u4 := Lib.hid u4; have t3 := Lib.hid (t3.out.below hb)
  have bb := Lib.hid (below_then bb.out (Nat.le_refl _) hb)
  have x0' := Lib.hid (x0'.out.later hb); have x1' := Lib.hid (x1'.out.later hb); have x2 := Lib.hid (x2.out.later hb)
  have A1 := Lib.hid (A1.out.below hb); have B1 := Lib.hid (B1.out.below hb)
  clear hb hG gA
  by_cases ht : 32 < tn
  · have hE := Lib.hid (mkE_seven hq'.out (.inl (canon_long t4.out ht)))
    go_wp2_with fail
    refine (long_yes to_ tn tc _ ht).mono ?_
    rintro e w5 ⟨rfl, hb⟩
    have bb := Lib.hid (below_then bb.out (Nat.le_refl _) hb)
    have x2 := x2.out.later hb
    have x2' := Lib.hid x2
    have q0 := x2.c0; have q1 := x2.c1; have q2 := x2.c2; have q3 := x2.fr 0; have q4 := x2.fr 1; have q5 := x2.fr 2
    have z := x2.set (.bool false) (.slice none 0 0) (.slice none 0 0)
    have e0 := z.c0; have e1 := z.c1; have e2 := z.c2
    clear x2 hb z ht
    go_wp2_with fail
    refine bodyPost_ret (v := .tuple #[.agg #[.bool false, .slice none 0 0, .slice none 0 0], .int .i64 7]) (by simp [results, Try.results47, go_sem, e0, e1, e2]) rfl ?_
    exact make_bad hE.out (by decide) (ResPost.stored (rt_zero _) x2'.out bb.out (by omega))
  have ht' := Lib.hid ht
  clear ht
  go_wp2_with fail
  refine (long_no to_ tn tc _ (Nat.le_of_not_lt ht'.out)).mono ?_
  rintro e w5 ⟨rfl, hb⟩
  have bb := Lib.hid (below_then bb.out (Nat.le_refl _) hb)
  have x0' := Lib.hid (x0'.out.later hb); have x1' := Lib.hid (x1'.out.later hb); have x2 := Lib.hid (x2.out.later hb)
  have A1 := Lib.hid (A1.out.below hb); have B1 := Lib.hid (B1.out.below hb); have t3 := Lib.hid (t3.out.below hb); have u3 := Lib.hid (u3.out.below hb)
  clear hb
  by_cases hu : 32 < un
  · have hE := Lib.hid (mkE_seven hq'.out (.inr (canon_long u4.out hu)))
    go_wp2_with fail
    refine (long_yes uo un uc _ hu).mono ?_
    rintro e w6 ⟨rfl, hb⟩
    have bb := Lib.hid (below_then bb.out (Nat.le_refl _) hb)
    have x2 := x2.out.later hb
    have x2' := Lib.hid x2
    have q0 := x2.c0; have q1 := x2.c1; have q2 := x2.c2; have q3 := x2.fr 0; have q4 := x2.fr 1; have q5 := x2.fr 2
    have z := x2.set (.bool false) (.slice none 0 0) (.slice none 0 0)
    have e0 := z.c0; have e1 := z.c1; have e2 := z.c2
    clear x2 hb z hu
    go_wp2_with fail
    refine bodyPost_ret (v := .tuple #[.agg #[.bool false, .slice none 0 0, .slice none 0 0], .int .i64 7]) (by simp [results, Try.results47, go_sem, e0, e1, e2]) rfl ?_
    exact make_bad hE.out (by decide) (ResPost.stored (rt_zero _) x2'.out bb.out (by omega))
  have hu' := Lib.hid hu
  clear hu
  go_wp2_with fail
  refine (long_no uo un uc _ (Nat.le_of_not_lt hu'.out)).mono ?_
  rintro e w6 ⟨rfl, hb⟩
  have bb := Lib.hid (below_then bb.out (Nat.le_refl _) hb)
  have x0' := Lib.hid (x0'.out.later hb); have x1' := Lib.hid (x1'.out.later hb); have x2 := Lib.hid (x2.out.later hb)
  have A1 := Lib.hid (A1.out.below hb); have B1 := Lib.hid (B1.out.below hb); have t3 := Lib.hid (t3.out.below hb); have u3 := Lib.hid (u3.out.below hb)
  have hE : Hid (mkE p q = 0) := Lib.hid (mkE_ok.2 ⟨hq'.out, canon_short t4.out (Nat.le_of_not_lt ht'.out), canon_short u4.out (Nat.le_of_not_lt hu'.out)⟩)
  clear hb
  go_wp2_with fail
  have bb := bb.out.drew; have x0 := x0'.out.drew; have x1 := x1'.out.drew; have x2 := x2.out.drew
  have A1 := A1.out.below (Below.refl _ _).drew; have B1 := B1.out.below (Below.refl _ _).drew
  have t3 := t3.out.below (Below.refl _ _).drew; have u3 := u3.out.below (Below.refl _ _).drew
  clear x0' x1'
  have sb0 := True.intro
  go_region_held3 (fun w' => w'.cell? ⟨w.heap.size, 0, none⟩ = some (.bool b) ∧ w'.cell? ⟨w.heap.size, 1, none⟩ = some (.slice ao n nc) ∧ w'.cell? ⟨(w.heap.size + 1), 0, none⟩ = some (.bool c) ∧ w'.cell? ⟨(w.heap.size + 1), 1, none⟩ = some (.slice bo m mc))
    (first | with_reducible exact ⟨x0.c0, x0.c1, x1.c0, x1.c1⟩ | with_reducible exact ⟨(x0.other3 (by omega) _ _ _).c0, (x0.other3 (by omega) _ _ _).c1, (x1.other3 (by omega) _ _ _).c0, (x1.other3 (by omega) _ _ _).c1⟩ | go_keep)
    (first
    | (go_at_call 53; clear sb0; refine (wSign_any b ao n nc p _ A1).mono ?_; rintro e w' ⟨rfl, hb⟩; have bb := below_then bb (Nat.le_refl _) hb; have x0 := x0.later hb; have x1 := x1.later hb; have x2 := x2.later hb; have A1 := A1.below hb; have B1 := B1.below hb; have t3 := t3.below hb; have u3 := u3.below hb; clear hb; have sb1 := True.intro)
    | (go_at_call 53; clear sb1; refine (wSign_any c bo m mc q _ B1).mono ?_; rintro e w' ⟨rfl, hb⟩; have bb := below_then bb (Nat.le_refl _) hb; have x0 := x0.later hb; have x1 := x1.later hb; have x2 := x2.later hb; have A1 := A1.below hb; have B1 := B1.below hb; have t3 := t3.below hb; have u3 := u3.below hb; clear hb; have q0 := x2.c0; have q1 := x2.c1; have q2 := x2.c2; have q3 := x2.fr 0; have q4 := x2.fr 1; have q5 := x2.fr 2; have sb2 := True.intro))
  have z := x2.set (.bool (decide (p.sign * q.sign < 0))) (.slice to_ tn tc) (.slice uo un uc)
  have e0 := z.c0; have e1 := z.c1; have e2 := z.c2
  have hR : Hid (Rt w' (decide (p.sign * q.sign < 0)) to_ tn tc uo un uc (mkT p q) (mkB p q)) := Lib.hid ⟨by
    rw [mkT_ok hE.out]
    refine canon_right t1 t2 t3 t4.out ?_
    by_cases h0 : 0 < tn
    · exact .inl h0
    · refine .inr ?_
      have : tn = 0 := by omega
      have e := t4.out.ne_zero.1 this
      have hp : p = 0 := by
        rcases Nat.div_eq_zero_iff.1 e with h | h
        · exact absurd h hg0.out
        · have hd : mkG p q ∣ p.natAbs := Nat.gcd_dvd_left _ _
          have := Nat.eq_zero_of_dvd_of_lt hd h
          omega
      rw [hp]; simp, by
    rw [mkB_ok hE.out]
    exact canon_right (b := false) u1 u2 u3 u4.out (.inr rfl)⟩
  have x2' := Lib.hid x2; have bb' := Lib.hid bb
  clear z x2 bb x0 x1 t3 u3 A1 B1
  go_wp2_with fail
  refine bodyPost_ret (v := .tuple #[.agg #[.bool (decide (p.sign * q.sign < 0)), .slice to_ tn tc, .slice uo un uc], .int .i64 0]) (by simp [results, Try.results47, go_sem, sign_small, e0, e1, e2]) rfl ?_
  have := ResPost.stored (E := 0) hR.out x2'.out bb'.out (Nat.le_add_right _ 2)
  refine make_good hE.out ?_
  simpa only [sign_small] using this

end Go.Proofs.Ytnnipciifjpooaa
