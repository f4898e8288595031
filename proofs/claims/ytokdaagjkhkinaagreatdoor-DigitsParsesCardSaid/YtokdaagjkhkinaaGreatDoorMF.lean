/-
  scrimref02.Same of any limbs; scrimref04.Same, Right.
  ratio.Mul, Div, Add, Sub.
  ratio.Floor, Ceil, Mod.
  scrimref04.Whole, Of, Neg, Mul, Div, Add, Sub, Cmp.
  scrimlaw04.part, alike, awake.
  What the laws of ratio ask for: a number as it is handed in; which ones are right; Make where it goes; brackets.
  slices.Equal of any limbs; ratio.Int, Gcd; scrimref04.IsWhole, Gcd.
  digits.Print.
  scrimlaw05.awake.
  A slice of 32-bit numbers that came in, as the walks speak of it.
-/
import Derived.Test.YtokdaagjkhkinaaGreatDoorME
import Derived.OpenShut
namespace Go.Proofs.YtokdaagjkhkinaaGreatDoor
open Go.RowKit Num

/-- What Same tells of any limbs. -/
def SameBPost (n m : Nat) (f g : Nat → Nat) (w : World) (e : Ending) (w' : World) : Prop := ∃ r, e = .returned (.bool r) ∧ (r = true ↔ n = m ∧ ∀ j, j < n → f j = g j) ∧ Below w.heap.size w w'

def Same4BPost (b c : Bool) (n m k l : Nat) (f g h i : Nat → Nat) (w : World) (e : Ending) (w' : World) : Prop := ∃ r, e = .returned (.bool r) ∧ (r = true ↔ b = c ∧ (n = m ∧ ∀ j, j < n → f j = g j) ∧ (k = l ∧ ∀ j, j < k → h j = i j)) ∧ Below w.heap.size w w'

set_option maxHeartbeats 1000000 in
/-- Same, of any limbs. -/
theorem sameB_any (ao bo : Option Addr) (n nc m mc : Nat) (f g : Nat → Nat) (w : World) (hn : n ≤ 9223372036854775807) (hf : Sl w ao n f) (hg : Sl w bo m g) :
    Calls Tryz.prog 27 #[.slice ao n nc, .slice bo m mc] w (SameBPost n m f g w) := by
  by_cases hnm : n = m
  · subst hnm
    go_enter Tryz.func27, Tryz.ntmps27
    go_wp2_with fail
    go_loopw [5] (fun i wr => ∃ j : Nat, j ≤ n ∧ i = .int .i64 j ∧ Hid (∀ i, i < j → f i = g i) ∧ ∃ q, wr = w.drewN q) (fun i _ => n - (intOf i).toNat)
    case atStart => exact ⟨0, Nat.zero_le _, rfl, Lib.hid (fun i hi => absurd hi (Nat.not_lt_zero _)), 0, rfl⟩
    case round =>
      obtain ⟨j, hj, rfl, heq, q, rfl⟩ := hrel
      by_cases hlt : j < n
      · rcases hf with h | ⟨b, off, rfl, hc⟩
        · omega
        rcases hg with h | ⟨b', off', rfl, hc'⟩
        · omega
        have c1 := hc j hlt
        have c2 := hc' j hlt
        clear hc hc'
        by_cases he : f j = g j
        · rw [← he] at c2
          have heq' : Hid (∀ i, i < j + 1 → f i = g i) := Lib.hid (fun i hi => by
            by_cases hij : i < j
            · exact heq.out i hij
            · have : i = j := by omega
              subst this; exact he)
          clear he heq
          go_wp2_with fail
          go_quiet (fail)
          go_wp2_with fail
          go_roundw
          case rel => exact ⟨j + 1, by omega, by go_num, heq', _, rfl⟩
          case measure => simp [intOf]; omega
        · have he' : ((f j : Int) == (g j : Int)) = false := by rw [beq_eq_false_iff_ne]; omega
          have hid := Lib.hid he
          have hlt' := Lib.hid hlt
          go_wp2_with fail
          go_quiet (fail)
          go_wp2_with fail
          go_ret
          exact ⟨false, rfl, ⟨(fun h => by cases h), fun h => absurd (h.2 j hlt'.out) hid.out⟩, below_drewN (below_drewN (Below.refl _ _) _) _⟩
      · have : j = n := by omega
        subst this
        go_wp2_with fail
        go_ret
        exact ⟨true, rfl, ⟨fun _ => ⟨rfl, heq.out⟩, fun _ => rfl⟩, below_drewN (Below.refl _ _) _⟩
  · have hd : ((n : Int) == (m : Int)) = false := by rw [beq_eq_false_iff_ne]; omega
    have hnm' := Lib.hid hnm
    clear hf hg
    go_enter Tryz.func27, Tryz.ntmps27
    go_wp2_with fail
    go_ret
    exact ⟨false, rfl, ⟨(fun h => by cases h), fun h => absurd h.1 hnm'.out⟩, Below.refl _ _⟩

attribute [local go_sem ↓] Go.wp_at_zero Go.wp_at_succ

set_option maxHeartbeats 2000000 in
theorem same4B_any (ab cb : Bool) (ap aq cp cq : Option Addr) (an ac am ae cn cc cm ce : Nat) (f h g k : Nat → Nat) (w : World) (hn : an ≤ 9223372036854775807) (hm : am ≤ 9223372036854775807) (hf : Sl w ap an f) (hh : Sl w aq am h) (hg : Sl w cp cn g) (hk : Sl w cq cm k) :
    Calls Tryz.prog 11 #[.agg #[.bool ab, .slice ap an ac, .slice aq am ae], .agg #[.bool cb, .slice cp cn cc, .slice cq cm ce]] w (Same4BPost ab cb an cn am cm f g h k w) := by
  have hf' := Lib.hid hf; have hh' := Lib.hid hh; have hg' := Lib.hid hg; have hk' := Lib.hid hk
  clear hf hh hg hk
  by_cases hb : ab = cb
  · subst hb
    go_enter Tryz.func11, Tryz.ntmps11
    go_wp2_with fail
    refine gen_calls (fun w' => Below w.heap.size w w' ∧ Box3 w' w.heap.size (.bool ab) (.slice ap an ac) (.slice aq am ae) ∧ Box3 w' (w.heap.size + 1) (.bool ab) (.slice cp cn cc) (.slice cq cm ce))
      ⟨(((Below.refl _ _).alloc (Nat.le_refl _) _).alloc (by first | (simp; done) | (simp; omega)) _), ((Box3.new _ _ _ _ rfl).alloc _), (Box3.new _ _ _ _ (by first | (simp; done) | (simp; omega)))⟩ ?_
    rintro w0 ⟨hb0, x0, x1⟩
    refine (sameB_any ap cp an ac cn cc f g _ hn (hf'.out.below hb0) (hg'.out.below hb0)).mono ?_
    rintro e w1 ⟨r, rfl, hr, hb⟩
    have bb := Lib.hid (below_then hb0 (Nat.le_refl _) hb)
    have x0 := x0.later hb; have x1 := x1.later hb
    have p0 := x0.c2; have p1 := x1.c2
    replace hr := Lib.hid hr
    clear hb hb0 x0 x1
    cases r
    · go_wp2_with fail
      go_ret
      exact ⟨false, rfl, ⟨(fun h => by cases h), fun h => absurd (hr.out.2 h.2.1) (by decide)⟩, bb.out⟩
    · go_wp2_with fail
      refine (sameB_any aq cq am ae cm ce h k _ hm (hh'.out.below bb.out) (hk'.out.below bb.out)).mono ?_
      rintro e w2 ⟨s, rfl, hs, hb⟩
      have bb := Lib.hid (below_then bb.out (Nat.le_refl _) hb)
      replace hs := Lib.hid hs
      clear hb p0 p1
      go_wp2_with fail
      go_ret
      exact ⟨s, rfl, ⟨fun e => ⟨rfl, hr.out.1 (by first | exact rfl | trivial), hs.out.1 e⟩, fun h => hs.out.2 h.2.2⟩, bb.out⟩
  · have hd : (ab == cb) = false := by simp [hb]
    have hb' := Lib.hid hb
    clear hb
    go_enter Tryz.func11, Tryz.ntmps11
    go_wp2_with fail
    go_ret
    exact ⟨false, rfl, ⟨(fun h => by cases h), fun h => absurd h.1 hb'.out⟩, (((Below.refl _ _).alloc (Nat.le_refl _) _).alloc (by simp) _)⟩

theorem Right.same {w : World} {b c : Bool} {ao bo : Option Addr} {n nc m mc : Nat} {x : Int} (A : Right w b ao n nc x) (B : Right w c bo m mc x) : b = c := A.neg.trans B.neg.symm

theorem same4_any (ab : Bool) (ap aq : Option Addr) (an ac am ae : Nat) (P : Int) (Q : Nat) (cb : Bool) (cp cq : Option Addr) (cn cc cm ce : Nat) (w : World) (A : Rt w ab ap an ac aq am ae P Q) (B : Rt w cb cp cn cc cq cm ce P Q) :
    Calls Tryz.prog 11 #[.agg #[.bool ab, .slice ap an ac, .slice aq am ae], .agg #[.bool cb, .slice cp cn cc, .slice cq cm ce]] w (Says (.bool true) w) := by
  have e := A.top.same B.top
  obtain ⟨f, f1, f2, f3, f4, _⟩ := A.top.ex
  obtain ⟨h, h1, h2, h3, h4, _⟩ := A.bot.ex
  obtain ⟨g, _, _, g3, g4, _⟩ := B.top.ex
  obtain ⟨k, _, _, k3, k4, _⟩ := B.bot.ex
  refine (same4B_any ab cb ap aq cp cq an ac am ae cn cc cm ce f h g k w (by omega) (by omega) f3 h3 g3 k3).mono ?_
  rintro e' w' ⟨r, rfl, hr, hb⟩
  have := hr.2 ⟨e, ⟨f4.len g4, f4.eq g4⟩, ⟨h4.len k4, h4.eq k4⟩⟩
  subst this
  exact ⟨rfl, hb⟩

theorem Sl.whole {w : World} {b : Bool} {ao : Option Addr} {n nc : Nat} {f : Nat → Nat} (A : Arg w ao n nc f) : Whole w b ao n nc (sgn b (val f n)) := ⟨f, A, rfl⟩

theorem arg_small {w : World} {b : Bool} {ao : Option Addr} {n nc : Nat} {f : Nat → Nat} (A : Arg w ao n nc f) (h : n ≤ 32) : (sgn b (val f n)).natAbs < pw 32 := by
  rw [sgn_abs]
  exact Nat.lt_of_lt_of_le (val_lt A.lim) (pw_le h)

/-- What Right tells: true of a number that is right, and of none else. -/
def RightPost (ab : Bool) (ap : Option Addr) (an ac : Nat) (aq : Option Addr) (am ae : Nat) (w : World) (e : Ending) (w' : World) : Prop :=
  ∃ r, e = .returned (.bool r) ∧ (r = true → ∃ P Q, Low P Q ∧ Rt w ab ap an ac aq am ae P Q) ∧ (∀ P Q, Low P Q → Rt w ab ap an ac aq am ae P Q → r = true) ∧ Below w.heap.size w w'

theorem Right.len_le32 {w : World} {b : Bool} {ao : Option Addr} {n nc : Nat} {x : Int} (h : Right w b ao n nc x) (hx : x.natAbs < pw 32) : n ≤ 32 := h.le_len hx

theorem Right.canon {w : World} {b : Bool} {ao : Option Addr} {n nc : Nat} {x : Int} {f : Nat → Nat} (h : Right w b ao n nc x) (A : Arg w ao n nc f) : Canon x.natAbs n f := by
  obtain ⟨g, _, _, hs, cg, e⟩ := h.ex
  have he : ∀ j, j < n → f j = g j := by
    intro j hj
    rcases A.sl with rfl | ⟨d, off, rfl, hc⟩
    · omega
    · rcases hs with rfl | ⟨d', off', e', hc'⟩
      · omega
      · injection e' with e'
        injection e' with e1 e2
        subst e1 e2
        have := (hc j hj).symm.trans (hc' j hj)
        injection this with this
        injection this with _ this
        omega
  refine ⟨A.lim, ?_, (val_congr he).trans cg.val⟩
  rcases cg.top with h0 | h0
  · exact .inl h0
  · by_cases hn : n = 0
    · exact .inl hn
    · refine .inr ?_
      rw [he (n - 1) (by omega)]; exact h0

theorem Right.val_is {w : World} {b : Bool} {ao : Option Addr} {n nc : Nat} {x : Int} {f : Nat → Nat} (h : Right w b ao n nc x) (A : Arg w ao n nc f) : sgn b (val f n) = x := by
  rw [(h.canon A).val, h.neg, sgn_self]

set_option maxRecDepth 20000 in
set_option maxHeartbeats 4000000 in
theorem right4_any (ab : Bool) (ap aq : Option Addr) (an ac am ae : Nat) (f h : Nat → Nat) (w : World) (A : Arg w ap an ac f) (B : Arg w aq am ae h) :
    Calls Tryz.prog 6 #[.agg #[.bool ab, .slice ap an ac, .slice aq am ae]] w (RightPost ab ap an ac aq am ae w) := by
  have A' := Lib.hid A; have B' := Lib.hid B
  clear A B
  by_cases ht : 32 < an
  · have hd : decide ((32 : Int) < (an : Int)) = true := by rw [decide_eq_true_iff]; omega
    have ht' := Lib.hid ht
    clear ht
    go_enter Tryz.func6, Tryz.ntmps6
    go_wp2_with fail
    go_ret
    exact ⟨false, rfl, (fun h => by cases h), fun P Q l R => absurd (R.top.le_len l.abs_lt) (Nat.not_le.2 ht'.out), (Below.refl _ _).alloc (Nat.le_refl _) _⟩
  have hd : decide ((32 : Int) < (an : Int)) = false := by rw [decide_eq_false_iff_not]; omega
  have ht' := Lib.hid (Nat.le_of_not_lt ht)
  clear ht
  by_cases hu : 32 < am
  · have hd2 : decide ((32 : Int) < (am : Int)) = true := by rw [decide_eq_true_iff]; omega
    have hu' := Lib.hid hu
    clear hu
    go_enter Tryz.func6, Tryz.ntmps6
    go_wp2_with fail
    go_ret
    exact ⟨false, rfl, (fun h => by cases h), fun P Q l R => absurd (R.bot.le_len l.bot_lt) (Nat.not_le.2 hu'.out), (Below.refl _ _).alloc (Nat.le_refl _) _⟩
  have hd2 : decide ((32 : Int) < (am : Int)) = false := by rw [decide_eq_false_iff_not]; omega
  have hu' := Lib.hid (Nat.le_of_not_lt hu)
  clear hu
  go_enter Tryz.func6, Tryz.ntmps6
  go_wp2_with fail
  refine gen_wp (fun w' => Below w.heap.size w w' ∧ Box3 w' w.heap.size (.bool ab) (.slice ap an ac) (.slice aq am ae))
    ⟨((Below.refl _ _).alloc (Nat.le_refl _) _), (Box3.new _ _ _ _ rfl)⟩ ?_
  rintro u0 ⟨bb, x0⟩
  obtain ⟨p, hp⟩ : ∃ p, Hid (sgn ab (val f an) = p) := ⟨_, Lib.hid rfl⟩
  obtain ⟨q, hq⟩ : ∃ q, Hid (sgn false (val h am) = q) := ⟨_, Lib.hid rfl⟩
  have hp32 : Hid (p.natAbs < pw 32) := Lib.hid (by rw [← hp.out]; exact arg_small A'.out ht'.out)
  have hq32 : Hid (q.natAbs < pw 32) := Lib.hid (by rw [← hq.out]; exact arg_small B'.out hu'.out)
  have A : Whole u0 ab ap an ac p := ⟨f, A'.out.below bb, hp.out⟩
  have B : Whole u0 false aq am ae q := ⟨h, B'.out.below bb, hq.out⟩
  go_cut [3, 4] from 23 to 30 (fun s t wx => ∃ Y gb gp gn gc gq gm ge, s = .pointer (some ⟨Y, 0, none⟩) ∧ t = .int .i64 (mkE p q) ∧ Box3 wx Y (.bool gb) (.slice gp gn gc) (.slice gq gm ge) ∧ Box3 wx w.heap.size (.bool ab) (.slice ap an ac) (.slice aq am ae) ∧ Rt wx gb gp gn gc gq gm ge (mkT p q) (mkB p q) ∧ Below w.heap.size w wx)
  case first =>
    have lx0 := x0.lt
    have bs := bb.size
    have sa0 := True.intro
    go_region_held3 (fun w' => w'.cell? ⟨w.heap.size, 0, none⟩ = some (.bool ab) ∧ w'.cell? ⟨w.heap.size, 1, none⟩ = some (.slice ap an ac) ∧ w'.cell? ⟨w.heap.size, 2, none⟩ = some (.slice aq am ae))
      (first | with_reducible exact ⟨(x0.drew).c0, (x0.drew).c1, (x0.drew).c2⟩ | with_reducible exact ⟨((x0.alloc _).drew).c0, ((x0.alloc _).drew).c1, ((x0.alloc _).drew).c2⟩ | with_reducible exact ⟨x0.c0, x0.c1, x0.c2⟩ | with_reducible exact ⟨(x0.alloc _).c0, (x0.alloc _).c1, (x0.alloc _).c2⟩ | with_reducible exact ⟨(x0.other3 (by omega) _ _ _).c0, (x0.other3 (by omega) _ _ _).c1, (x0.other3 (by omega) _ _ _).c2⟩ | go_keep)
      (first
      | (go_at_call 17; clear sa0; refine (rTop_any ab ap aq an ac am ae p _ ?_).mono ?_; (first | with_reducible exact (A.drew) | with_reducible exact ((A.alloc _).drew)); rintro e u1 ⟨eb, eo, en, ec, rfl, h1, hb⟩; have hc : Below u0.heap.size u0 u1 := (by first | exact (Below.refl _ _).drew.trans hb | exact ((Below.refl _ _).alloc (by first | exact Nat.le_refl _ | (simp; done) | (simp; omega)) _).drew.trans (hb.mono (by first | (simp; done) | (simp; omega)))); have hz0 := hc.size; have x0 := x0.later hc; have A := A.below hc; have B := B.below hc; have bb := below_then bb (Nat.le_refl _) hc; (first | (with_reducible have m10 := made13' hb) | skip); (try have k10 := m10.lt); clear hb hc; have sa1 := True.intro)
      | (go_at_call 18; clear sa1; refine (rBot_any ab ap aq an ac am ae q _ ?_).mono ?_; (first | with_reducible exact B | with_reducible exact (B.alloc _)); rintro e u2 ⟨fb, fo, fn, fc, rfl, h2, hb⟩; have hc : Below u1.heap.size u1 u2 := (by first | with_reducible exact hb | exact ((Below.refl _ _).alloc (by first | exact Nat.le_refl _ | (simp; done) | (simp; omega)) _).trans (hb.mono (by first | (simp; done) | (simp; omega)))); have hz1 := hc.size; have x0 := x0.later hc; have A := A.below hc; have B := B.below hc; have h1 := h1.below hc; have bb := below_then bb (Nat.le_refl _) hc; (try have m10 := m10.later hc); (first | (with_reducible have m20 := made13 hb) | skip); (try have k10 := m10.lt); (try have k20 := m20.lt); clear hb hc; have sa2 := True.intro)
      | (go_at_call 16; clear sa2; refine (rMake_any eb fb eo fo en ec fn fc p q _ ?_ ?_ 32 (by omega) hp32.out hq32.out).mono ?_; (first | with_reducible exact (h1).whole32 hp32.out | with_reducible exact ((h1.alloc _)).whole32 hp32.out); (first | with_reducible exact (h2).whole32 hq32.out | with_reducible exact ((h2.alloc _)).whole32 hq32.out); rintro e u3 ⟨gb, gp, gn, gc, gq, gm, ge, rfl, G, hb⟩; have hc : Below u2.heap.size u2 u3 := (by first | with_reducible exact hb | exact ((Below.refl _ _).alloc (by first | exact Nat.le_refl _ | (simp; done) | (simp; omega)) _).trans (hb.mono (by first | (simp; done) | (simp; omega)))); have hz2 := hc.size; have x0 := x0.later hc; have A := A.below hc; have B := B.below hc; have h1 := h1.below hc; have h2 := h2.below hc; have bb := below_then bb (Nat.le_refl _) hc; (try have m10 := m10.later hc); (try have m20 := m20.later hc); (first | (with_reducible have m30 := made13 hb) | skip); (try have k10 := m10.lt); (try have k20 := m20.lt); (try have k30 := m30.lt); (try (have f100 := m10.c0; have f101 := m10.c1; have f102 := m10.fr 0; have f103 := m10.fr 1; have f104 := m10.c2; have f105 := m10.fr 2)); (try (have f200 := m20.c0; have f201 := m20.c1; have f202 := m20.fr 0; have f203 := m20.fr 1; have f204 := m20.c2; have f205 := m20.fr 2)); (try (have f300 := m30.c0; have f301 := m30.c1; have f302 := m30.fr 0; have f303 := m30.fr 1; have f304 := m30.c2; have f305 := m30.fr 2)); clear hb hc; have sa3 := True.intro))
    · go_wp2_with fail; go_meet; exact ⟨_, gb, gp, gn, gc, gq, gm, ge, rfl, rfl, (Box3.new _ _ _ _ (by first | (simp; done) | rfl)), (x0.alloc _), (G.alloc _), (Below.alloc bb (by first | omega | (simp; omega) | (simp; done)) _)⟩
    · go_wp2_with fail; go_meet; exact ⟨_, gb, gp, gn, gc, gq, gm, ge, rfl, rfl, (m30.set _ _ _), (x0.other3 (by omega) _ _ _), (G.box3 m30 _ _ _), (below_set3 bb (by omega) _ _ _)⟩
    · go_wp2_with fail; go_meet; exact ⟨_, gb, gp, gn, gc, gq, gm, ge, rfl, rfl, (m20.set _ _ _), (x0.other3 (by omega) _ _ _), (G.box3 m20 _ _ _), (below_set3 bb (by omega) _ _ _)⟩
    · go_wp2_with fail; go_meet; exact ⟨_, gb, gp, gn, gc, gq, gm, ge, rfl, rfl, (m10.set _ _ _), (x0.other3 (by omega) _ _ _), (G.box3 m10 _ _ _), (below_set3 bb (by omega) _ _ _)⟩
  case rest =>
    obtain ⟨Y, gb, gp, gn, gc, gq, gm, ge, rfl, rfl, y, x0, G, bb⟩ := hcut
    have yes : Hid (∀ P Q, Low P Q → Rt w ab ap an ac aq am ae P Q → p = P ∧ q = Q) := Lib.hid (fun P Q l R => ⟨hp.out.symm.trans (R.top.val_is A'.out), hq.out.symm.trans (R.bot.val_is B'.out)⟩)
    obtain ⟨E, hE⟩ : ∃ E, Hid (mkE p q = E) := ⟨_, Lib.hid rfl⟩
    rw [hE.out]
    by_cases h0 : E = 0
    · subst h0
      have p0 := y.c0; have p1 := y.c1; have p2 := y.c2; have p3 := x0.c0; have p4 := x0.c1; have p5 := x0.c2
      replace bb := Lib.hid bb
      obtain ⟨g, g1, g2, g3, g4, g5⟩ := G.top.ex
      obtain ⟨k, k1, k2, k3, k4, k5⟩ := G.bot.ex
      replace g3 := Lib.hid g3; replace k3 := Lib.hid k3; replace g4 := Lib.hid g4; replace k4 := Lib.hid k4; replace g5 := Lib.hid g5; clear k5
      have A1 := Lib.hid (A'.out.below bb.out); have B1 := Lib.hid (B'.out.below bb.out)
      have hn : an ≤ 9223372036854775807 := by have := A'.out.len; have := A'.out.cap; omega
      have hm : am ≤ 9223372036854775807 := by have := B'.out.len; have := B'.out.cap; omega
      have hn' := Lib.hid hn; have hm' := Lib.hid hm
      clear y x0 G hn hm A B
      go_wp2_with fail
      refine (same4B_any ab gb ap aq gp gq an ac am ae gn gc gm ge f h g k _ hn'.out hm'.out A1.out.sl B1.out.sl g3.out k3.out).mono ?_
      rintro e w2 ⟨r, rfl, hr, hb⟩
      have bb2 := Lib.hid (below_then bb.out (Nat.le_refl _) hb)
      replace hr := Lib.hid hr
      clear hb p0 p1 p2 p3 p4 p5
      go_wp2_with fail
      go_ret
      refine ⟨r, rfl, ?_, ?_, bb2.out⟩
      · intro e
        obtain ⟨rfl, ⟨rfl, h2⟩, rfl, h4⟩ := hr.out.1 e
        exact ⟨mkT p q, mkB p q, mk_low hE.out, ⟨g, A'.out.len, A'.out.cap, A'.out.sl.congr h2, g4.out, g5.out⟩, ⟨k, B'.out.len, B'.out.cap, B'.out.sl.congr h4, k4.out, by simp⟩⟩
      · intro P Q l R
        obtain ⟨e1, e2⟩ := yes.out P Q l R
        subst e1 e2
        obtain ⟨_, e3, e4⟩ := mk_self l
        have cf := R.top.canon A'.out; have ch := R.bot.canon B'.out
        have g4 := g4.out; have k4 := k4.out; have g5 := g5.out
        rw [e3] at g4 g5; rw [e4] at k4
        exact hr.out.2 ⟨R.top.neg.trans g5.symm, ⟨cf.len g4, cf.eq g4⟩, ch.len k4, ch.eq k4⟩
    · have h0' := Lib.hid h0
      clear y x0 G A B
      go_wp2_with fail
      go_ret
      refine ⟨false, rfl, (fun h => by cases h), ?_, bb⟩
      intro P Q l R
      obtain ⟨e1, e2⟩ := yes.out P Q l R
      subst e1 e2
      exact absurd (hE.out.symm.trans (mk_self l).1) h0'.out

end Go.Proofs.YtokdaagjkhkinaaGreatDoor

namespace Go.Proofs.YtokdaagjkhkinaaGreatDoor
open Go.RowKit Num

attribute [local go_sem ↓] Go.wp_at_zero Go.wp_at_succ

theorem sum_64 {x y : Int} (hx : x.natAbs < pw 64) (hy : y.natAbs < pw 64) : (x + y).natAbs < pw 65 := add_abs hx hy

end Go.Proofs.YtokdaagjkhkinaaGreatDoor

namespace Go.Proofs.YtokdaagjkhkinaaGreatDoor
open Go.RowKit Num

attribute [local go_sem ↓] Go.wp_at_zero Go.wp_at_succ

/-- A quotient, rounded down, and a rest come back. -/
def FDivPost (x y : Int) (w : World) (e : Ending) (w' : World) : Prop :=
  ∃ b ao n nc c bo m mc, e = .returned (.tuple #[.agg #[.bool b, .slice ao n nc], .agg #[.bool c, .slice bo m mc], .bool true]) ∧ Right w' b ao n nc (x.fdiv y) ∧ Right w' c bo m mc (x.fmod y) ∧ Below w.heap.size w w'

theorem IDivPost.nz {x y : Int} {w w' : World} {e : Ending} (hy : y ≠ 0) (h : IDivPost x y w e w') : FDivPost x y w e w' := by
  obtain ⟨hb, ⟨h0, _⟩ | ⟨_, b, ao, n, nc, c, bo, m, mc, rfl, h1, h2⟩⟩ := h
  · exact absurd h0 hy
  · exact ⟨b, ao, n, nc, c, bo, m, mc, rfl, h1, h2, hb⟩

/-- What is left of a number by another one: the top, the bottom, the error. -/
abbrev modF (P : Int) (Q : Nat) (R : Int) (S : Nat) : Int := (mkT (R * Q) (S * P)).fdiv (mkB (R * Q) (S * P))

abbrev modT (P : Int) (Q : Nat) (R : Int) (S : Nat) : Int := mkT (P * modF P Q R S) Q

abbrev modB (P : Int) (Q : Nat) (R : Int) (S : Nat) : Nat := mkB (P * modF P Q R S) Q

def modRes (P : Int) (Q : Nat) (R : Int) (S : Nat) : Int × Nat × Int :=
  if P = 0 then (R, S, 0) else if mkE (R * Q) (S * P) ≠ 0 then (0, 0, mkE (R * Q) (S * P)) else
  if mkE (P * modF P Q R S) Q ≠ 0 then (0, 0, mkE (P * modF P Q R S) Q) else
  (mkT (R * modB P Q R S + -modT P Q R S * S) (S * modB P Q R S), mkB (R * modB P Q R S + -modT P Q R S * S) (S * modB P Q R S), mkE (R * modB P Q R S + -modT P Q R S * S) (S * modB P Q R S))

def ModPost (P : Int) (Q : Nat) (R : Int) (S : Nat) := ResPost (modRes P Q R S).1 (modRes P Q R S).2.1 (modRes P Q R S).2.2

theorem mod_zero {P R : Int} {Q S : Nat} {w w' : World} {e : Ending} (h : P = 0) (k : ResPost R S 0 w e w') : ModPost P Q R S w e w' := by
  unfold ModPost modRes
  rw [if_pos h]; exact k

theorem mod_one {P R : Int} {Q S : Nat} {w w' : World} {e : Ending} {E : Int} (h : P ≠ 0) (h1 : mkE (R * Q) (S * P) = E) (hE : E ≠ 0) (k : ResPost 0 0 E w e w') : ModPost P Q R S w e w' := by
  unfold ModPost modRes
  rw [if_neg h, if_pos (by rw [h1]; exact hE), h1]; exact k

theorem mod_two {P R : Int} {Q S : Nat} {w w' : World} {e : Ending} {E : Int} (h : P ≠ 0) (h1 : mkE (R * Q) (S * P) = 0) (h2 : mkE (P * modF P Q R S) Q = E) (hE : E ≠ 0) (k : ResPost 0 0 E w e w') : ModPost P Q R S w e w' := by
  unfold ModPost modRes
  rw [if_neg h, if_neg (by rw [h1]; decide), if_pos (by rw [h2]; exact hE), h2]; exact k

theorem mod_ok {P R : Int} {Q S : Nat} {w w' : World} {e : Ending} (h : P ≠ 0) (h1 : mkE (R * Q) (S * P) = 0) (h2 : mkE (P * modF P Q R S) Q = 0) (k : MakePost (R * modB P Q R S + -modT P Q R S * S) (S * modB P Q R S) w e w') : ModPost P Q R S w e w' := by
  unfold ModPost modRes
  rw [if_neg h, if_neg (by rw [h1]; decide), if_neg (by rw [h2]; decide)]; exact k

theorem make_zero {p q : Int} {w w' : World} {E : Ending} (h : mkE p q = 0) (k : MakePost p q w E w') : ResPost (mkT p q) (mkB p q) 0 w E w' := by
  have k : ResPost (mkT p q) (mkB p q) (mkE p q) w E w' := k
  rwa [h] at k

theorem make_nz {p q e : Int} {w w' : World} {E : Ending} (h : mkE p q = e) (he : e ≠ 0) (k : MakePost p q w E w') : ResPost 0 0 e w E w' := by
  subst h
  have k : ResPost (mkT p q) (mkB p q) (mkE p q) w E w' := k
  rwa [(mk_bad he).1, (mk_bad he).2] at k

end Go.Proofs.YtokdaagjkhkinaaGreatDoor

namespace Go.Proofs.YtokdaagjkhkinaaGreatDoor
open Go.RowKit Num

attribute [local go_sem ↓] Go.wp_at_zero Go.wp_at_succ

set_option maxHeartbeats 1000000 in
theorem rWhole_any (b : Bool) (ao : Option Addr) (n nc : Nat) (x : Int) (w : World) (A : Whole w b ao n nc x) :
    Calls Tryz.prog 32 #[.agg #[.bool b, .slice ao n nc]] w (RatPost x 1 w) := by
  have A' := Lib.hid A
  clear A
  go_enter Tryz.func32, Tryz.ntmps32
  go_wp2_with fail
  refine gen_calls (fun w' => Below w.heap.size w w' ∧ Box w' w.heap.size (.bool b) (.slice ao n nc) ∧ Box3 w' (w.heap.size + 1) (.bool false) (.slice none 0 0) (.slice none 0 0))
    ⟨(((Below.refl _ _).alloc (Nat.le_refl _) _).alloc (by first | (simp; done) | (simp; omega)) _), ((Box.new _ _ _ rfl).alloc _), (Box3.new _ _ _ _ (by first | (simp; done) | (simp; omega)))⟩ ?_
  rintro w0 ⟨hb0, x0, x1⟩
  refine (rNorm_any b ao n nc x _ (A'.out.below hb0)).mono ?_
  rintro e w1 ⟨eb, eo, en, ec, rfl, h1, hb⟩
  have x1 := x1.later hb
  have bb := Lib.hid (below_then hb0 (Nat.le_refl _) hb)
  have h1' := Lib.hid h1; have x1' := Lib.hid x1
  clear x0 x1 h1 hb hb0
  go_upto_region 2 with fail
  refine gen_wp (fun w' => Below w.heap.size w w' ∧ Box3 w' (w.heap.size + 1) (.bool false) (.slice none 0 0) (.slice none 0 0) ∧ Box w' w1.heap.size (.bool eb) (.slice eo en ec) ∧ Right w' eb eo en ec x) ⟨bb.out.alloc bb.out.size _, x1'.out.alloc _, Box.new _ _ _ rfl, h1'.out.alloc _⟩ ?_
  clear bb x1' h1'
  rintro w2 ⟨bb, x1, y, h1⟩
  have p0 := y.c0; have p1 := y.c1; have lx := x1.lt
  have q0 := x1.c0; have q1 := x1.c1; have q2 := x1.c2; have q3 := x1.fr 0; have q4 := x1.fr 1; have q5 := x1.fr 2
  have e0 : ∀ o, ((((w2.setCell ⟨w.heap.size + 1, 0, none⟩ (.bool eb)).setCell ⟨w.heap.size + 1, 1, none⟩ (.slice eo en ec)).setCell ⟨w.heap.size + 1, 2, none⟩ (.slice (some ⟨w2.heap.size, 0, none⟩) 1 1)).alloc o).cell? ⟨w.heap.size + 1, 0, none⟩ = some (.bool eb) := fun o => ((x1.set _ _ _).alloc o).c0
  have e1 : ∀ o, ((((w2.setCell ⟨w.heap.size + 1, 0, none⟩ (.bool eb)).setCell ⟨w.heap.size + 1, 1, none⟩ (.slice eo en ec)).setCell ⟨w.heap.size + 1, 2, none⟩ (.slice (some ⟨w2.heap.size, 0, none⟩) 1 1)).alloc o).cell? ⟨w.heap.size + 1, 1, none⟩ = some (.slice eo en ec) := fun o => ((x1.set _ _ _).alloc o).c1
  have e2 : ∀ o, ((((w2.setCell ⟨w.heap.size + 1, 0, none⟩ (.bool eb)).setCell ⟨w.heap.size + 1, 1, none⟩ (.slice eo en ec)).setCell ⟨w.heap.size + 1, 2, none⟩ (.slice (some ⟨w2.heap.size, 0, none⟩) 1 1)).alloc o).cell? ⟨w.heap.size + 1, 2, none⟩ = some (.slice (some ⟨w2.heap.size, 0, none⟩) 1 1) := fun o => ((x1.set _ _ _).alloc o).c2
  have bb' := Lib.hid bb; have x1' := Lib.hid x1; have h1' := Lib.hid h1
  clear bb x1 h1 y
  go_wp2_with fail
  refine bodyPost_ret (v := .agg #[.bool eb, .slice eo en ec, .slice (some ⟨w2.heap.size, 0, none⟩) 1 1]) (by simp [results, Tryz.results32, go_sem, e0, e1, e2]) rfl ?_
  exact ⟨_, _, _, _, _, _, _, rfl, ⟨(h1'.out.box3 x1'.out _ _ _).alloc _, ⟨fun _ => 1, Nat.le_refl _, by omega, sl_one _ (by simp) rfl, ⟨fun _ _ => (by decide : 1 < 4294967296), .inr (by decide), rfl⟩, rfl⟩⟩, (below_set3 bb'.out (by omega) _ _ _).alloc (by have := bb'.out.size; simp; omega) _⟩

set_option maxHeartbeats 1000000 in
theorem of4_any (x : Int) (w : World) (h0 : -9223372036854775808 ≤ x) (h1 : x ≤ 9223372036854775807) :
    Calls Tryz.prog 13 #[.int .i64 x] w (RatPost x 1 w) := by
  have hx := Lib.hid (int_32 h0 h1)
  have k0 := Lib.hid h0; have k1 := Lib.hid h1
  clear h0 h1
  go_enter Tryz.func13, Tryz.ntmps13
  go_wp2_with fail
  refine gen_calls (fun w' => Below w.heap.size w w' ∧ Box3 w' w.heap.size (.bool false) (.slice none 0 0) (.slice none 0 0))
    ⟨((Below.refl _ _).alloc (Nat.le_refl _) _), (Box3.new _ _ _ _ rfl)⟩ ?_
  rintro w0 ⟨hb0, x0⟩
  refine (rOf_any x _ k0.out k1.out).mono ?_
  rintro e w1 ⟨eb, eo, en, ec, rfl, h1, hb⟩
  have x0 := x0.later hb; have bb := below_then hb0 (Nat.le_refl _) hb
  clear hb0 hb
  go_wp2_with fail
  refine (rWhole_any eb eo en ec x _ (h1.whole32 hx.out)).mono ?_
  rintro e w2 ⟨gb, gp, gn, gc, gq, gm, ge, rfl, hR, hb⟩
  have bb := Lib.hid (below_then bb (Nat.le_refl _) hb)
  have x0 := x0.later hb
  have x0' := Lib.hid x0; have hR' := Lib.hid hR
  have q0 := x0.c0; have q1 := x0.c1; have q2 := x0.c2; have q3 := x0.fr 0; have q4 := x0.fr 1; have q5 := x0.fr 2
  have z := x0.set (.bool gb) (.slice gp gn gc) (.slice gq gm ge)
  have e0 := z.c0; have e1 := z.c1; have e2 := z.c2
  clear x0 hb z hR
  go_wp2_with fail
  refine bodyPost_ret (v := .agg #[.bool gb, .slice gp gn gc, .slice gq gm ge]) (by simp [results, Tryz.results13, go_sem, e0, e1, e2]) rfl ?_
  exact RatPost.stored hR'.out x0'.out bb.out (by omega)

theorem Right.flip {w : World} {b : Bool} {ao : Option Addr} {n nc : Nat} {x : Int} (h : Right w b ao n nc x) (hx : x ≠ 0) : Right w (!b) ao n nc (-x) := by
  obtain ⟨f, h1, h2, h3, h4, rfl⟩ := h.ex
  refine ⟨f, h1, h2, h3, by rw [Int.natAbs_neg]; exact h4, ?_⟩
  rw [← decide_not, decide_eq_decide]
  omega

theorem Right.len_zero {w : World} {b : Bool} {ao : Option Addr} {n nc : Nat} {x : Int} (h : Right w b ao n nc x) : n = 0 ↔ x = 0 := by
  obtain ⟨f, _, _, _, h4, _⟩ := h.ex
  rw [h4.ne_zero]; omega

set_option maxHeartbeats 4000000 in
theorem rMul4_any (ab : Bool) (ap aq : Option Addr) (an ac am ae : Nat) (P : Int) (Q : Nat) (cb : Bool) (cp cq : Option Addr) (cn cc cm ce : Nat) (R : Int) (S : Nat) (w : World) (A : Rt w ab ap an ac aq am ae P Q) (lA : Low P Q) (B : Rt w cb cp cn cc cq cm ce R S) (lB : Low R S) :
    Calls Tryz.prog 14 #[.agg #[.bool ab, .slice ap an ac, .slice aq am ae], .agg #[.bool cb, .slice cp cn cc, .slice cq cm ce]] w (MakePost (P * R) ((Q : Int) * S) w) := by
  have lA' := Lib.hid lA; have lB' := Lib.hid lB
  have A' := Lib.hid A; have B' := Lib.hid B
  clear lA A lB B
  go_enter Tryz.func14, Tryz.ntmps14
  go_wp2_with fail
  refine gen_wp (fun w' => Below w.heap.size w w' ∧ Box3 w' w.heap.size (.bool ab) (.slice ap an ac) (.slice aq am ae) ∧ Box3 w' (w.heap.size + 1) (.bool cb) (.slice cp cn cc) (.slice cq cm ce) ∧ Box3 w' (w.heap.size + 2) (.bool false) (.slice none 0 0) (.slice none 0 0))
    ⟨((((Below.refl _ _).alloc (Nat.le_refl _) _).alloc (by first | (simp; done) | (simp; omega)) _).alloc (by first | (simp; done) | (simp; omega)) _), (((Box3.new _ _ _ _ rfl).alloc _).alloc _), ((Box3.new _ _ _ _ (by first | (simp; done) | (simp; omega))).alloc _), (Box3.new _ _ _ _ (by first | (simp; done) | (simp; omega)))⟩ ?_
  rintro w0 ⟨bb, x0, x1, x2⟩
  have bb := bb.drew; have x0 := x0.drew; have x1 := x1.drew; have x2 := x2.drew
  have A := A'.out.below bb; have B := B'.out.below bb
  clear A' B'
  have sa0 := True.intro
  go_region_held3 (fun w' => w'.cell? ⟨w.heap.size, 0, none⟩ = some (.bool ab) ∧ w'.cell? ⟨w.heap.size, 1, none⟩ = some (.slice ap an ac) ∧ w'.cell? ⟨w.heap.size, 2, none⟩ = some (.slice aq am ae) ∧ w'.cell? ⟨(w.heap.size + 1), 0, none⟩ = some (.bool cb) ∧ w'.cell? ⟨(w.heap.size + 1), 1, none⟩ = some (.slice cp cn cc) ∧ w'.cell? ⟨(w.heap.size + 1), 2, none⟩ = some (.slice cq cm ce))
    (first | with_reducible exact ⟨x0.c0, x0.c1, x0.c2, x1.c0, x1.c1, x1.c2⟩ | with_reducible exact ⟨(x0.other3 (by omega) _ _ _).c0, (x0.other3 (by omega) _ _ _).c1, (x0.other3 (by omega) _ _ _).c2, (x1.other3 (by omega) _ _ _).c0, (x1.other3 (by omega) _ _ _).c1, (x1.other3 (by omega) _ _ _).c2⟩ | go_keep)
    (first
    | (go_at_call 17; clear sa0; refine (rTop_any ab ap aq an ac am ae P _ (A.upper lA'.out)).mono ?_; rintro e w' ⟨nb, no, nn, nc, rfl, n1, hb⟩; have bb := below_then bb (Nat.le_refl _) hb; have x0 := x0.later hb; have x1 := x1.later hb; have x2 := x2.later hb; have A := A.below hb; have B := B.below hb; clear hb; have sa1 := True.intro)
    | (go_at_call 17; clear sa1; refine (rTop_any cb cp cq cn cc cm ce R _ (B.upper lB'.out)).mono ?_; rintro e w' ⟨fb, fo, fn, fc, rfl, f1, hb⟩; have bb := below_then bb (Nat.le_refl _) hb; have x0 := x0.later hb; have x1 := x1.later hb; have x2 := x2.later hb; have A := A.below hb; have B := B.below hb; have n1 := n1.below hb; clear hb; have sa2 := True.intro)
    | (go_at_call 33; clear sa2; refine (rMul_any nb fb no fo nn nc fn fc P R _ (n1.whole32 lA'.out.abs_lt) (f1.whole32 lB'.out.abs_lt) 32 (by omega) lA'.out.abs_lt lB'.out.abs_lt).mono ?_; rintro e w' ⟨mb, mo, mn, mc, rfl, m1, hb⟩; have bb := below_then bb (Nat.le_refl _) hb; have x0 := x0.later hb; have x1 := x1.later hb; have x2 := x2.later hb; have A := A.below hb; have B := B.below hb; have n1 := n1.below hb; have f1 := f1.below hb; clear hb; have sa3 := True.intro)
    | (go_at_call 18; clear sa3; refine (rBot_any ab ap aq an ac am ae Q _ (A.lower lA'.out)).mono ?_; rintro e w' ⟨vb, vo, vn, vc, rfl, v1, hb⟩; have bb := below_then bb (Nat.le_refl _) hb; have x0 := x0.later hb; have x1 := x1.later hb; have x2 := x2.later hb; have A := A.below hb; have B := B.below hb; have n1 := n1.below hb; have f1 := f1.below hb; have m1 := m1.below hb; clear hb; have sa4 := True.intro)
    | (go_at_call 18; clear sa4; refine (rBot_any cb cp cq cn cc cm ce S _ (B.lower lB'.out)).mono ?_; rintro e w' ⟨jb, jo, jn, jc, rfl, j1, hb⟩; have bb := below_then bb (Nat.le_refl _) hb; have x0 := x0.later hb; have x1 := x1.later hb; have x2 := x2.later hb; have A := A.below hb; have B := B.below hb; have n1 := n1.below hb; have f1 := f1.below hb; have m1 := m1.below hb; have v1 := v1.below hb; clear hb; have sa5 := True.intro)
    | (go_at_call 33; clear sa5; refine (rMul_any vb jb vo jo vn vc jn jc Q S _ (v1.whole32 lA'.out.bot_lt) (j1.whole32 lB'.out.bot_lt) 32 (by omega) lA'.out.bot_lt lB'.out.bot_lt).mono ?_; rintro e w' ⟨kb, ko, kn, kc, rfl, k1, hb⟩; have bb := below_then bb (Nat.le_refl _) hb; have x0 := x0.later hb; have x1 := x1.later hb; have x2 := x2.later hb; have A := A.below hb; have B := B.below hb; have n1 := n1.below hb; have f1 := f1.below hb; have m1 := m1.below hb; have v1 := v1.below hb; have j1 := j1.below hb; clear hb; have sa6 := True.intro)
    | (go_at_call 16; clear sa6; refine (rMake_any mb kb mo ko mn mc kn kc (P * R) ((Q : Int) * S) _ (m1.whole (mul_32 lA'.out.abs_lt lB'.out.abs_lt) (by omega)) (k1.whole (mul_32 lA'.out.bot_lt lB'.out.bot_lt) (by omega)) 64 (by omega) (mul_32 lA'.out.abs_lt lB'.out.abs_lt) (mul_32 lA'.out.bot_lt lB'.out.bot_lt)).mono ?_; rintro e w' ⟨gb, gp, gn, gc, gq, gm, ge, rfl, hR, hb⟩; have bb := below_then bb (Nat.le_refl _) hb; have x0 := x0.later hb; have x1 := x1.later hb; have x2 := x2.later hb; have A := A.below hb; have B := B.below hb; have n1 := n1.below hb; have f1 := f1.below hb; have m1 := m1.below hb; have v1 := v1.below hb; have j1 := j1.below hb; have k1 := k1.below hb; clear hb; have q0 := x2.c0; have q1 := x2.c1; have q2 := x2.c2; have q3 := x2.fr 0; have q4 := x2.fr 1; have q5 := x2.fr 2; have sa7 := True.intro))
  have z := x2.set (.bool gb) (.slice gp gn gc) (.slice gq gm ge)
  have e0 := z.c0; have e1 := z.c1; have e2 := z.c2
  have x2' := Lib.hid x2; have bb' := Lib.hid bb; have hR' := Lib.hid hR
  clear z x2 bb x0 x1 A B hR f1 j1 k1 m1 n1 v1
  go_wp2_with fail
  refine bodyPost_ret (v := .tuple #[.agg #[.bool gb, .slice gp gn gc, .slice gq gm ge], .int .i64 (mkE (P * R) ((Q : Int) * S))]) (by simp [results, Tryz.results14, go_sem, e0, e1, e2]) rfl ?_
  exact ResPost.stored hR'.out x2'.out bb'.out (by omega)

set_option maxHeartbeats 4000000 in
theorem rDiv4_any (ab : Bool) (ap aq : Option Addr) (an ac am ae : Nat) (P : Int) (Q : Nat) (cb : Bool) (cp cq : Option Addr) (cn cc cm ce : Nat) (R : Int) (S : Nat) (w : World) (A : Rt w ab ap an ac aq am ae P Q) (lA : Low P Q) (B : Rt w cb cp cn cc cq cm ce R S) (lB : Low R S) :
    Calls Tryz.prog 15 #[.agg #[.bool ab, .slice ap an ac, .slice aq am ae], .agg #[.bool cb, .slice cp cn cc, .slice cq cm ce]] w (MakePost (P * S) ((Q : Int) * R) w) := by
  have lA' := Lib.hid lA; have lB' := Lib.hid lB
  have A' := Lib.hid A; have B' := Lib.hid B
  clear lA A lB B
  go_enter Tryz.func15, Tryz.ntmps15
  go_wp2_with fail
  refine gen_wp (fun w' => Below w.heap.size w w' ∧ Box3 w' w.heap.size (.bool ab) (.slice ap an ac) (.slice aq am ae) ∧ Box3 w' (w.heap.size + 1) (.bool cb) (.slice cp cn cc) (.slice cq cm ce) ∧ Box3 w' (w.heap.size + 2) (.bool false) (.slice none 0 0) (.slice none 0 0))
    ⟨((((Below.refl _ _).alloc (Nat.le_refl _) _).alloc (by first | (simp; done) | (simp; omega)) _).alloc (by first | (simp; done) | (simp; omega)) _), (((Box3.new _ _ _ _ rfl).alloc _).alloc _), ((Box3.new _ _ _ _ (by first | (simp; done) | (simp; omega))).alloc _), (Box3.new _ _ _ _ (by first | (simp; done) | (simp; omega)))⟩ ?_
  rintro w0 ⟨bb, x0, x1, x2⟩
  have bb := bb.drew; have x0 := x0.drew; have x1 := x1.drew; have x2 := x2.drew
  have A := A'.out.below bb; have B := B'.out.below bb
  clear A' B'
  have sb0 := True.intro
  go_region_held3 (fun w' => w'.cell? ⟨w.heap.size, 0, none⟩ = some (.bool ab) ∧ w'.cell? ⟨w.heap.size, 1, none⟩ = some (.slice ap an ac) ∧ w'.cell? ⟨w.heap.size, 2, none⟩ = some (.slice aq am ae) ∧ w'.cell? ⟨(w.heap.size + 1), 0, none⟩ = some (.bool cb) ∧ w'.cell? ⟨(w.heap.size + 1), 1, none⟩ = some (.slice cp cn cc) ∧ w'.cell? ⟨(w.heap.size + 1), 2, none⟩ = some (.slice cq cm ce))
    (first | with_reducible exact ⟨x0.c0, x0.c1, x0.c2, x1.c0, x1.c1, x1.c2⟩ | with_reducible exact ⟨(x0.other3 (by omega) _ _ _).c0, (x0.other3 (by omega) _ _ _).c1, (x0.other3 (by omega) _ _ _).c2, (x1.other3 (by omega) _ _ _).c0, (x1.other3 (by omega) _ _ _).c1, (x1.other3 (by omega) _ _ _).c2⟩ | go_keep)
    (first
    | (go_at_call 17; clear sb0; refine (rTop_any ab ap aq an ac am ae P _ (A.upper lA'.out)).mono ?_; rintro e w' ⟨nb, no, nn, nc, rfl, n1, hb⟩; have bb := below_then bb (Nat.le_refl _) hb; have x0 := x0.later hb; have x1 := x1.later hb; have x2 := x2.later hb; have A := A.below hb; have B := B.below hb; clear hb; have sb1 := True.intro)
    | (go_at_call 18; clear sb1; refine (rBot_any cb cp cq cn cc cm ce S _ (B.lower lB'.out)).mono ?_; rintro e w' ⟨fb, fo, fn, fc, rfl, f1, hb⟩; have bb := below_then bb (Nat.le_refl _) hb; have x0 := x0.later hb; have x1 := x1.later hb; have x2 := x2.later hb; have A := A.below hb; have B := B.below hb; have n1 := n1.below hb; clear hb; have sb2 := True.intro)
    | (go_at_call 33; clear sb2; refine (rMul_any nb fb no fo nn nc fn fc P S _ (n1.whole32 lA'.out.abs_lt) (f1.whole32 lB'.out.bot_lt) 32 (by omega) lA'.out.abs_lt lB'.out.bot_lt).mono ?_; rintro e w' ⟨mb, mo, mn, mc, rfl, m1, hb⟩; have bb := below_then bb (Nat.le_refl _) hb; have x0 := x0.later hb; have x1 := x1.later hb; have x2 := x2.later hb; have A := A.below hb; have B := B.below hb; have n1 := n1.below hb; have f1 := f1.below hb; clear hb; have sb3 := True.intro)
    | (go_at_call 18; clear sb3; refine (rBot_any ab ap aq an ac am ae Q _ (A.lower lA'.out)).mono ?_; rintro e w' ⟨vb, vo, vn, vc, rfl, v1, hb⟩; have bb := below_then bb (Nat.le_refl _) hb; have x0 := x0.later hb; have x1 := x1.later hb; have x2 := x2.later hb; have A := A.below hb; have B := B.below hb; have n1 := n1.below hb; have f1 := f1.below hb; have m1 := m1.below hb; clear hb; have sb4 := True.intro)
    | (go_at_call 17; clear sb4; refine (rTop_any cb cp cq cn cc cm ce R _ (B.upper lB'.out)).mono ?_; rintro e w' ⟨jb, jo, jn, jc, rfl, j1, hb⟩; have bb := below_then bb (Nat.le_refl _) hb; have x0 := x0.later hb; have x1 := x1.later hb; have x2 := x2.later hb; have A := A.below hb; have B := B.below hb; have n1 := n1.below hb; have f1 := f1.below hb; have m1 := m1.below hb; have v1 := v1.below hb; clear hb; have sb5 := True.intro)
    | (go_at_call 33; clear sb5; refine (rMul_any vb jb vo jo vn vc jn jc Q R _ (v1.whole32 lA'.out.bot_lt) (j1.whole32 lB'.out.abs_lt) 32 (by omega) lA'.out.bot_lt lB'.out.abs_lt).mono ?_; rintro e w' ⟨kb, ko, kn, kc, rfl, k1, hb⟩; have bb := below_then bb (Nat.le_refl _) hb; have x0 := x0.later hb; have x1 := x1.later hb; have x2 := x2.later hb; have A := A.below hb; have B := B.below hb; have n1 := n1.below hb; have f1 := f1.below hb; have m1 := m1.below hb; have v1 := v1.below hb; have j1 := j1.below hb; clear hb; have sb6 := True.intro)
    | (go_at_call 16; clear sb6; refine (rMake_any mb kb mo ko mn mc kn kc (P * S) ((Q : Int) * R) _ (m1.whole (mul_32 lA'.out.abs_lt lB'.out.bot_lt) (by omega)) (k1.whole (mul_32 lA'.out.bot_lt lB'.out.abs_lt) (by omega)) 64 (by omega) (mul_32 lA'.out.abs_lt lB'.out.bot_lt) (mul_32 lA'.out.bot_lt lB'.out.abs_lt)).mono ?_; rintro e w' ⟨gb, gp, gn, gc, gq, gm, ge, rfl, hR, hb⟩; have bb := below_then bb (Nat.le_refl _) hb; have x0 := x0.later hb; have x1 := x1.later hb; have x2 := x2.later hb; have A := A.below hb; have B := B.below hb; have n1 := n1.below hb; have f1 := f1.below hb; have m1 := m1.below hb; have v1 := v1.below hb; have j1 := j1.below hb; have k1 := k1.below hb; clear hb; have q0 := x2.c0; have q1 := x2.c1; have q2 := x2.c2; have q3 := x2.fr 0; have q4 := x2.fr 1; have q5 := x2.fr 2; have sb7 := True.intro))
  have z := x2.set (.bool gb) (.slice gp gn gc) (.slice gq gm ge)
  have e0 := z.c0; have e1 := z.c1; have e2 := z.c2
  have x2' := Lib.hid x2; have bb' := Lib.hid bb; have hR' := Lib.hid hR
  clear z x2 bb x0 x1 A B hR f1 j1 k1 m1 n1 v1
  go_wp2_with fail
  refine bodyPost_ret (v := .tuple #[.agg #[.bool gb, .slice gp gn gc, .slice gq gm ge], .int .i64 (mkE (P * S) ((Q : Int) * R))]) (by simp [results, Tryz.results15, go_sem, e0, e1, e2]) rfl ?_
  exact ResPost.stored hR'.out x2'.out bb'.out (by omega)

theorem grow_65 {x : Int} (h : x.natAbs < pw 64) : x.natAbs < pw 65 := Nat.lt_of_lt_of_le h (pw_le (by omega))

theorem cmp_diff (x y : Int) : (x - y).sign = cmpI x y := by
  unfold cmpI
  rcases Int.lt_trichotomy x y with h | h | h
  · rw [Int.sign_eq_neg_one_of_neg (by omega)]; simp [h] <;> omega
  · rw [h, Int.sub_self]; simp
  · rw [Int.sign_eq_one_of_pos (by omega)]; simp [Int.not_lt.2 (Int.le_of_lt h)] <;> omega

end Go.Proofs.YtokdaagjkhkinaaGreatDoor

namespace Go.Proofs.YtokdaagjkhkinaaGreatDoor
open Go.RowKit Num

attribute [local go_sem ↓] Go.wp_at_zero Go.wp_at_succ

theorem canon_lit {v : Nat} (h0 : v ≠ 0) (h : v < 4294967296) : Canon v 1 (fun _ => v) := ⟨fun _ _ => h, .inr h0, by simp [val, pw]⟩

theorem rt_one {W : World} {x y : Nat} (hx0 : x ≠ 0) (hx : x < 4294967296) (hy0 : y ≠ 0) (hy : y < 4294967296) {b d : Nat} (h : Sl W (some ⟨b, 0, none⟩) 1 (fun _ => x)) (k : Sl W (some ⟨d, 0, none⟩) 1 (fun _ => y)) :
    Rt W false (some ⟨b, 0, none⟩) 1 1 (some ⟨d, 0, none⟩) 1 1 x y :=
  ⟨⟨fun _ => x, Nat.le_refl _, by omega, h, canon_lit hx0 hx, by simp⟩, ⟨fun _ => y, Nat.le_refl _, by omega, k, canon_lit hy0 hy, by simp⟩⟩

theorem low_part {n : Nat} (h0 : n ≠ 0) (h : n < 4294967296) : Low 1 n := ⟨h0, Nat.gcd_one_left _, Nat.lt_of_lt_of_le (by decide : 1 < pw 1) (pw_le (by omega)), Nat.lt_of_lt_of_le (m := pw 1) (by simpa [pw] using h) (pw_le (by omega))⟩

theorem make_lit {p q : Int} {T : Int} {B : Nat} {E : Int} {w w' : World} {e : Ending} (h : (mkT p q, mkB p q, mkE p q) = (T, B, E)) (k : MakePost p q w e w') : ResPost T B E w e w' := by
  injection h with h1 h2; injection h2 with h2 h3
  subst h1 h2 h3; exact k

theorem mod_lit {P R : Int} {Q S : Nat} {T : Int} {B : Nat} {E : Int} {w w' : World} {e : Ending} (h : modRes P Q R S = (T, B, E)) (k : ModPost P Q R S w e w') : ResPost T B E w e w' := by
  unfold ModPost at k
  rw [h] at k; exact k

theorem rt_new1 (W : World) (t t' : TypeId) : Rt ((W.alloc (.cells #[.int .u32 5] t)).alloc (.cells #[.int .u32 6] t')).drew false (some ⟨W.heap.size, 0, none⟩) 1 1 (some ⟨W.heap.size + 1, 0, none⟩) 1 1 5 6 :=
  rt_one (x := 5) (y := 6) (by decide) (by decide) (by decide) (by decide) (((sl_one (x := 5) _ rfl rfl).below ((Below.refl _ _).alloc (Nat.le_refl _) _)).below (Below.refl _ _).drew) ((sl_one (x := 6) _ (by simp) rfl).below (Below.refl _ _).drew)

theorem rt_new2 (W : World) (t t' : TypeId) : Rt ((W.alloc (.cells #[.int .u32 6] t)).alloc (.cells #[.int .u32 5] t')).drew false (some ⟨W.heap.size + 1, 0, none⟩) 1 1 (some ⟨W.heap.size, 0, none⟩) 1 1 5 6 :=
  rt_one (x := 5) (y := 6) (by decide) (by decide) (by decide) (by decide) ((sl_one (x := 5) _ (by simp) rfl).below (Below.refl _ _).drew) (((sl_one (x := 6) _ rfl rfl).below ((Below.refl _ _).alloc (Nat.le_refl _) _)).below (Below.refl _ _).drew)

theorem lit_sum : (mkT ((1 : Int) * ((3 : Nat) : Int) + (1 : Int) * ((2 : Nat) : Int)) (((2 : Nat) : Int) * ((3 : Nat) : Int)), mkB ((1 : Int) * ((3 : Nat) : Int) + (1 : Int) * ((2 : Nat) : Int)) (((2 : Nat) : Int) * ((3 : Nat) : Int)), mkE ((1 : Int) * ((3 : Nat) : Int) + (1 : Int) * ((2 : Nat) : Int)) (((2 : Nat) : Int) * ((3 : Nat) : Int))) = ((5 : Int), (6 : Nat), (0 : Int)) := by decide +kernel

theorem lit_mod : modRes 3 1 (-7) 1 = (2, 1, 0) := by decide +kernel

end Go.Proofs.YtokdaagjkhkinaaGreatDoor

namespace Go.Proofs.YtokdaagjkhkinaaGreatDoor
open Go.RowKit Num

attribute [local go_sem ↓] Go.wp_at_zero Go.wp_at_succ

/-- A slice of limbs as it is handed in, of any length. -/
structure In (w : World) (ao : Option Addr) (n nc : Nat) (f : Nat → Nat) : Prop where
  len : n ≤ nc
  cap : nc ≤ 9223372036854775807
  sl : Sl w ao n f
  lim : Lim f n

theorem In.below {w w' : World} {ao : Option Addr} {n nc : Nat} {f : Nat → Nat} (h : In w ao n nc f) (hb : Below w.heap.size w w') : In w' ao n nc f := ⟨h.len, h.cap, h.sl.below hb, h.lim⟩

theorem In.arg {w : World} {ao : Option Addr} {n nc : Nat} {f : Nat → Nat} (h : In w ao n nc f) (hn : n ≤ 32) : Arg w ao n nc f := ⟨h.len, h.cap, by omega, h.sl, h.lim⟩

set_option maxHeartbeats 1000000 in
theorem right4_long (ab : Bool) (ap aq : Option Addr) (an ac am ae : Nat) (w : World) (h : 32 < an ∨ 32 < am) :
    Calls Tryz.prog 6 #[.agg #[.bool ab, .slice ap an ac, .slice aq am ae]] w (RightPost ab ap an ac aq am ae w) := by
  by_cases ht : 32 < an
  · have hd : decide ((32 : Int) < (an : Int)) = true := by rw [decide_eq_true_iff]; omega
    have ht' := Lib.hid ht
    clear ht h
    go_enter Tryz.func6, Tryz.ntmps6
    go_wp2_with fail
    go_ret
    exact ⟨false, rfl, (fun h => by cases h), fun P Q l R => absurd (R.top.le_len l.abs_lt) (Nat.not_le.2 ht'.out), (Below.refl _ _).alloc (Nat.le_refl _) _⟩
  have hd : decide ((32 : Int) < (an : Int)) = false := by rw [decide_eq_false_iff_not]; omega
  have hu' : Hid (32 < am) := Lib.hid (h.resolve_left ht)
  have hd2 : decide ((32 : Int) < (am : Int)) = true := by have := hu'.out; rw [decide_eq_true_iff]; omega
  clear ht h
  go_enter Tryz.func6, Tryz.ntmps6
  go_wp2_with fail
  go_ret
  exact ⟨false, rfl, (fun h => by cases h), fun P Q l R => absurd (R.bot.le_len l.bot_lt) (Nat.not_le.2 hu'.out), (Below.refl _ _).alloc (Nat.le_refl _) _⟩

theorem right4_in (ab : Bool) (ap aq : Option Addr) (an ac am ae : Nat) (f g : Nat → Nat) (w : World) (A : In w ap an ac f) (B : In w aq am ae g) :
    Calls Tryz.prog 6 #[.agg #[.bool ab, .slice ap an ac, .slice aq am ae]] w (RightPost ab ap an ac aq am ae w) := by
  by_cases h : 32 < an ∨ 32 < am
  · exact right4_long ab ap aq an ac am ae w h
  · exact right4_any ab ap aq an ac am ae f g w (A.arg (by omega)) (B.arg (by omega))

theorem Right.arg {w : World} {b : Bool} {ao : Option Addr} {n nc : Nat} {x : Int} (h : Right w b ao n nc x) (hx : x.natAbs < pw 32) : ∃ f, Arg w ao n nc f := by
  obtain ⟨f, h1, h2, h3, h4, _⟩ := h.ex
  exact ⟨f, h1, h2, Nat.le_trans (h4.len_le hx) (by omega), h3, h4.lim⟩

theorem right4_yes (ab : Bool) (ap aq : Option Addr) (an ac am ae : Nat) (P : Int) (Q : Nat) (w : World) (A : Rt w ab ap an ac aq am ae P Q) (l : Low P Q) :
    Calls Tryz.prog 6 #[.agg #[.bool ab, .slice ap an ac, .slice aq am ae]] w (Says (.bool true) w) := by
  obtain ⟨f, F⟩ := A.top.arg l.abs_lt
  obtain ⟨g, G⟩ := A.bot.arg l.bot_lt
  refine (right4_any ab ap aq an ac am ae f g w F G).mono ?_
  rintro e w' ⟨r, rfl, _, h, hb⟩
  have := h P Q l A
  subst this
  exact ⟨rfl, hb⟩

/-- What Make tells where it goes: a number in lowest terms that is p by q. -/
def OkPost (p q : Int) (w : World) (e : Ending) (w' : World) : Prop := ∃ T B, Low T B ∧ T * q = p * B ∧ T.natAbs ≤ p.natAbs ∧ B ≤ q.natAbs ∧ ResPost T B 0 w e w'

theorem make_goes {p q : Int} {w w' : World} {e : Ending} (h : mkE p q = 0) (k : MakePost p q w e w') : OkPost p q w e w' := ⟨mkT p q, mkB p q, mk_low h, mk_cross h, mkT_le _ _, mkB_le _ _, make_zero h k⟩

theorem make_is {p q : Int} {P : Int} {Q : Nat} {w w' : World} {e : Ending} (a : Low P Q) (hq : q ≠ 0) (h : p * Q = P * q) (k : MakePost p q w e w') : ResPost P Q 0 w e w' := by
  obtain ⟨h1, h2, h3⟩ := mk_of_low a hq h
  have k : ResPost (mkT p q) (mkB p q) (mkE p q) w e w' := k
  rwa [h1, h2, h3] at k

theorem ok_unique {T T' p p' q q' : Int} {B B' : Nat} (a : Low T B) (a' : Low T' B') (c : T * q = p * B) (c' : T' * q' = p' * B') (hq : q ≠ 0) (hq' : q' ≠ 0) (h : p * q' = p' * q) : T = T' ∧ B = B' := by
  refine low_unique a a' ?_
  refine Int.eq_of_mul_eq_mul_right hq (Int.eq_of_mul_eq_mul_right hq' ?_)
  grind

theorem nz_mul {Q S : Nat} (a : Q ≠ 0) (b : S ≠ 0) : (Q : Int) * S ≠ 0 := Int.mul_ne_zero (by omega) (by omega)

theorem back_add {T P R : Int} {B Q S : Nat} (c : T * (Q * S) = (P * S + R * Q) * B) : (T * S + -R * B) * Q = P * (B * S) := by grind

theorem back_div {T P R : Int} {B Q S : Nat} (c : T * (Q * R) = (P * S) * B) : (T * R) * Q = P * (B * S) := by grind

theorem add_brackets {P R V Tab Tbc : Int} {Q S U Bab Bbc : Nat} (hS : S ≠ 0) (h1 : Tab * (Q * S) = (P * S + R * Q) * Bab) (h2 : Tbc * (S * U) = (R * U + V * S) * Bbc) :
    (Tab * U + V * Bab) * (Q * Bbc) = (P * Bbc + Tbc * Q) * (Bab * U) := by
  have h0 : (S : Int) ≠ 0 := by omega
  refine Int.eq_of_mul_eq_mul_left h0 ?_
  grind

theorem mul_brackets {P R V Tbc Tq Tr : Int} {Q S U Bbc Bq Br : Nat} (hS : S ≠ 0) (hU : U ≠ 0) (h2 : Tbc * (S * U) = (R * U + V * S) * Bbc) (hq : Tq * (Q * S) = (P * R) * Bq) (hr : Tr * (Q * U) = (P * V) * Br) :
    (P * Tbc) * (Bq * Br) = (Tq * Br + Tr * Bq) * (Q * Bbc) := by
  have h0 : (S : Int) ≠ 0 := by omega
  have h1 : (U : Int) ≠ 0 := by omega
  refine Int.eq_of_mul_eq_mul_left h0 (Int.eq_of_mul_eq_mul_left h1 ?_)
  grind

theorem cmp_zero {P : Int} {Q : Nat} {w w' : World} {e : Ending} (k : Says (.int .i64 (cmpI (P * ((1 : Nat) : Int)) ((0 : Int) * Q))) w e w') : Says (.int .i64 P.sign) w e w' := by
  have e0 : cmpI (P * ((1 : Nat) : Int)) ((0 : Int) * Q) = P.sign := by
    rw [← cmp_diff]
    have : P * ((1 : Nat) : Int) - 0 * (Q : Int) = P := by omega
    rw [this]
  rwa [e0] at k

end Go.Proofs.YtokdaagjkhkinaaGreatDoor

namespace Go.Proofs.YtokdaagjkhkinaaGreatDoor
open Go.RowKit Num

set_option maxHeartbeats 1000000 in
/-- Equal, of any limbs. -/
theorem eqB_any (ao bo : Option Addr) (n nc m mc : Nat) (f g : Nat → Nat) (w : World) (hn : n ≤ 9223372036854775807) (hf : Sl w ao n f) (hg : Sl w bo m g) :
    Calls Tryz.prog 42 #[.slice ao n nc, .slice bo m mc] w (SameBPost n m f g w) := by
  by_cases hnm : n = m
  · subst hnm
    go_enter Tryz.func42, Tryz.ntmps42
    go_wp2_with fail
    go_loopw [13] (fun i wr => ∃ j : Nat, j ≤ n ∧ i = .int .i64 j ∧ Hid (∀ i, i < j → f i = g i) ∧ ∃ q, wr = w.drewN q) (fun i _ => n - (intOf i).toNat)
    case atStart => exact ⟨0, Nat.zero_le _, rfl, Lib.hid (fun i hi => absurd hi (Nat.not_lt_zero _)), 0, rfl⟩
    case round =>
      obtain ⟨j, hj, rfl, heq, q, rfl⟩ := hrel
      by_cases hlt : j < n
      · rcases hf with h | ⟨b, off, rfl, hc⟩
        · omega
        rcases hg with h | ⟨b', off', rfl, hc'⟩
        · omega
        have c1 := hc j hlt
        have c2 := hc' j hlt
        clear hc hc'
        by_cases he : f j = g j
        · rw [← he] at c2
          have heq' : Hid (∀ i, i < j + 1 → f i = g i) := Lib.hid (fun i hi => by
            by_cases hij : i < j
            · exact heq.out i hij
            · have : i = j := by omega
              subst this; exact he)
          clear he heq
          go_wp2_with fail
          go_quiet (fail)
          go_wp2_with fail
          go_roundw
          case rel => exact ⟨j + 1, by omega, by go_num, heq', _, rfl⟩
          case measure => simp [intOf]; omega
        · have he' : ((f j : Int) == (g j : Int)) = false := by rw [beq_eq_false_iff_ne]; omega
          have hid := Lib.hid he
          have hlt' := Lib.hid hlt
          go_wp2_with fail
          go_quiet (fail)
          go_wp2_with fail
          go_ret
          exact ⟨false, rfl, ⟨(fun h => by cases h), fun h => absurd (h.2 j hlt'.out) hid.out⟩, below_drewN (below_drewN (Below.refl _ _) _) _⟩
      · have : j = n := by omega
        subst this
        go_wp2_with fail
        go_ret
        exact ⟨true, rfl, ⟨fun _ => ⟨rfl, heq.out⟩, fun _ => rfl⟩, below_drewN (Below.refl _ _) _⟩
  · have hd : ((n : Int) == (m : Int)) = false := by rw [beq_eq_false_iff_ne]; omega
    have hnm' := Lib.hid hnm
    clear hf hg
    go_enter Tryz.func42, Tryz.ntmps42
    go_wp2_with fail
    go_ret
    exact ⟨false, rfl, ⟨(fun h => by cases h), fun h => absurd h.1 hnm'.out⟩, Below.refl _ _⟩

attribute [local go_sem ↓] Go.wp_at_zero Go.wp_at_succ

/-- A number's bottom is 1, or it isn't: the limbs. -/
theorem one_or {w : World} {b : Bool} {ao : Option Addr} {n nc Q : Nat} (h : Right w b ao n nc (Q : Int)) : ∃ f, n ≤ nc ∧ nc ≤ 9223372036854775807 ∧ Sl w ao n f ∧ Lim f n ∧ ((Q = 1 ∧ n = 1 ∧ f 0 = 1) ∨ (Q ≠ 1 ∧ (n = 1 → f 0 ≠ 1))) := by
  obtain ⟨f, h1, h2, h3, h4, _⟩ := h.ex
  rw [Int.natAbs_natCast] at h4
  refine ⟨f, h1, h2, h3, h4.lim, ?_⟩
  have c1 : Canon 1 1 (fun _ => 1) := ⟨fun _ _ => (by decide : 1 < 4294967296), .inr (by decide), rfl⟩
  by_cases hQ : Q = 1
  · subst hQ
    have e := h4.len c1
    exact .inl ⟨rfl, e, by have := h4.eq c1 0 (by omega); exact this⟩
  · refine .inr ⟨hQ, fun e h0 => hQ ?_⟩
    have := h4.val
    rw [e] at this
    simpa [val, pw, h0] using this.symm

/-- What Int tells: the top, if the bottom is 1. -/
def IntOfPost (P : Int) (Q : Nat) (w : World) (e : Ending) (w' : World) : Prop :=
  ∃ b ao n nc, e = .returned (.tuple #[.agg #[.bool b, .slice ao n nc], .bool (decide (Q = 1))]) ∧ Right w' b ao n nc (if Q = 1 then P else 0) ∧ Below w.heap.size w w'

set_option maxHeartbeats 2000000 in
theorem int_any (ab : Bool) (ap aq : Option Addr) (an ac am ae : Nat) (P : Int) (Q : Nat) (w : World) (A : Rt w ab ap an ac aq am ae P Q) (lA : Low P Q) :
    Calls Tryz.prog 20 #[.agg #[.bool ab, .slice ap an ac, .slice aq am ae]] w (IntOfPost P Q w) := by
  obtain ⟨h, h1, h2, h3, h4, h5⟩ := one_or A.bot
  have lA' := Lib.hid lA
  have A' := Lib.hid A
  replace h3 := Lib.hid h3; replace h4 := Lib.hid h4; replace h5 := Lib.hid h5
  clear lA A
  go_enter Tryz.func20, Tryz.ntmps20
  go_upto_region 1 with fail
  refine gen_wp (fun w' => Below w.heap.size w w' ∧ Box3 w' w.heap.size (.bool ab) (.slice ap an ac) (.slice aq am ae) ∧ Box w' (w.heap.size + 1) (.bool false) (.slice none 0 0))
    ⟨(((Below.refl _ _).alloc (Nat.le_refl _) _).alloc (by first | (simp; done) | (simp; omega)) _), ((Box3.new _ _ _ _ rfl).alloc _), (Box.new _ _ _ (by first | (simp; done) | (simp; omega)))⟩ ?_
  rintro w0 ⟨bb, x0, x1⟩
  have p0 := x0.c2
  replace x0 := Lib.hid x0; replace x1 := Lib.hid x1; replace bb := Lib.hid bb
  go_wp2_with fail
  refine gen_calls (fun w' => Below w.heap.size w w' ∧ Box3 w' w.heap.size (.bool ab) (.slice ap an ac) (.slice aq am ae) ∧ Box w' (w.heap.size + 1) (.bool false) (.slice none 0 0) ∧ Sl w' (some ⟨w0.heap.size, 0, none⟩) 1 (fun _ => 1)) ⟨bb.out.alloc bb.out.size _, x0.out.alloc _, x1.out.alloc _, sl_new1 w0 _ _ _ rfl⟩ ?_
  clear bb x0 x1 p0
  rintro w1 ⟨bb, x0, x1, hs⟩
  refine (eqB_any aq (some ⟨w0.heap.size, 0, none⟩) am ae 1 1 h (fun _ => 1) _ (by omega) (h3.out.below bb) hs).mono ?_
  rintro e w2 ⟨r, rfl, hr, hb⟩
  replace hr := Lib.hid hr
  replace x0 := x0.later hb; replace x1 := Lib.hid (x1.later hb); replace bb := Lib.hid (below_then bb (Nat.le_refl _) hb)
  clear hb hs h1 h2
  rcases h5.out with ⟨hQ, he, hz⟩ | ⟨hQ, hz⟩
  · have : r = true := hr.out.2 ⟨he, fun j hj => (by have hj0 : j = 0 := (by omega); subst hj0; exact hz)⟩
    subst this hQ
    clear he hz hr h5
    have p0 := x0.c0; have p1 := x0.c1; have p2 := x0.c2
    clear x0
    go_wp2_with fail
    refine (upper_any ab ap aq an ac am ae _).mono ?_
    rintro e w3 ⟨rfl, hb⟩
    replace x1 := Lib.hid (x1.out.later hb); replace bb := Lib.hid (below_then bb.out (Nat.le_refl _) hb)
    clear hb p0 p1 p2
    go_wp2_with fail
    refine (wNorm_any ab ap an ac P _ ((A'.out.below bb.out).upper lA'.out)).mono ?_
    rintro e w4 ⟨eb, eo, en, ec, rfl, hR, hb⟩
    replace x1 := x1.out.later hb; replace bb := Lib.hid (below_then bb.out (Nat.le_refl _) hb)
    replace hR := Lib.hid hR
    have x1' := Lib.hid x1
    have q0 := x1.c0; have q1 := x1.c1; have q2 := x1.fr 0; have q3 := x1.fr 1
    have z := x1.set (.bool eb) (.slice eo en ec)
    have e0 := z.c0; have e1 := z.c1
    clear x1 hb z
    go_wp2_with fail
    refine bodyPost_ret (v := .tuple #[.agg #[.bool eb, .slice eo en ec], .bool true]) (by simp [results, Tryz.results20, go_sem, e0, e1]) rfl ?_
    exact ⟨eb, eo, en, ec, by simp, by rw [if_pos rfl]; exact hR.out.box x1'.out _ _, below_set bb.out (by omega) _ _⟩
  · have : r = false := by
      cases r
      · rfl
      · exact absurd ((hr.out.1 rfl).2 0 (by have := (hr.out.1 rfl).1; omega)) (hz (hr.out.1 rfl).1)
    subst this
    have hQ' := Lib.hid hQ
    clear hQ hz hr h5 x0
    replace x1 := x1.out
    have x1' := Lib.hid x1
    have q0 := x1.c0; have q1 := x1.c1; have q2 := x1.fr 0; have q3 := x1.fr 1
    have z := x1.set (.bool false) (.slice none 0 0)
    have e0 := z.c0; have e1 := z.c1
    clear x1 z
    go_wp2_with fail
    refine bodyPost_ret (v := .tuple #[.agg #[.bool false, .slice none 0 0], .bool false]) (by simp [results, Tryz.results20, go_sem, e0, e1]) rfl ?_
    exact ⟨false, none, 0, 0, by simp [hQ'.out], by rw [if_neg hQ'.out]; exact (zero_right _).box x1'.out _ _, below_set bb.out (by omega) _ _⟩

set_option maxHeartbeats 2000000 in
theorem isWhole_any (ab : Bool) (ap aq : Option Addr) (an ac am ae : Nat) (P : Int) (Q : Nat) (w : World) (A : Rt w ab ap an ac aq am ae P Q) :
    Calls Tryz.prog 26 #[.agg #[.bool ab, .slice ap an ac, .slice aq am ae]] w (Says (.bool (decide (Q = 1))) w) := by
  obtain ⟨h, h1, h2, h3, h4, h5⟩ := one_or A.bot
  clear A
  rcases h5 with ⟨hQ, rfl, hz⟩ | ⟨hQ, hz⟩
  · subst hQ
    rcases h3 with h | ⟨b, off, rfl, hc⟩
    · omega
    have c1 := hc 0 (by omega)
    rw [Nat.add_zero] at c1
    rw [hz] at c1
    have hl := World.block_lt_of_cell? w _ c1
    have hne : ∀ o : Obj, (w.alloc o).cell? ⟨b, off, none⟩ = some (.int .u32 ((1 : Nat) : Int)) := fun o => (((Below.refl _ w).alloc (Nat.le_refl _) o).cell hl).trans c1
    clear hc hz h4 h1 h2
    go_enter Tryz.func26, Tryz.ntmps26
    go_wp2_with fail
    go_ret
    exact ⟨by simp, (Below.refl _ w).alloc (Nat.le_refl _) _⟩
  · by_cases h0 : am = 1
    · subst h0
      rcases h3 with h | ⟨b, off, rfl, hc⟩
      · omega
      have c1 := hc 0 (by omega)
      rw [Nat.add_zero] at c1
      have hz' : ((h 0 : Int) == 1) = false := by rw [beq_eq_false_iff_ne]; have := hz rfl; omega
      have hl := World.block_lt_of_cell? w _ c1
      have hne : ∀ o : Obj, (w.alloc o).cell? ⟨b, off, none⟩ = some (.int .u32 (h 0)) := fun o => (((Below.refl _ w).alloc (Nat.le_refl _) o).cell hl).trans c1
      have hQ' := Lib.hid hQ
      clear hc hz h4 h1 h2 hQ
      go_enter Tryz.func26, Tryz.ntmps26
      go_wp2_with fail
      go_ret
      exact ⟨by simp [hQ'.out], (Below.refl _ w).alloc (Nat.le_refl _) _⟩
    · have hd : ((am : Int) == 1) = false := by rw [beq_eq_false_iff_ne]; omega
      have hQ' := Lib.hid hQ
      clear hz h3 h4 h1 h2 hQ h0
      go_enter Tryz.func26, Tryz.ntmps26
      go_wp2_with fail
      go_ret
      exact ⟨by simp [hQ'.out], (Below.refl _ w).alloc (Nat.le_refl _) _⟩

end Go.Proofs.YtokdaagjkhkinaaGreatDoor

namespace Go.Proofs.YtokdaagjkhkinaaGreatDoor
open Go.RowKit Num

attribute [local go_sem ↓] Go.wp_at_zero Go.wp_at_succ

def PrintPost (P : Int) (Q : Nat) (w : World) (e : Ending) (w' : World) : Prop := ∃ s : ByteArray, e = .returned (.string s) ∧ Printed P Q s.data.toList ∧ Below w.heap.size w w'

/-- The digits of a whole number's limbs. -/
def DecPost (v : Nat) (w : World) (e : Ending) (w' : World) : Prop := ∃ s : ByteArray, e = .returned (.string s) ∧ DecL v s.data.toList ∧ s.size ≤ 2000 ∧ Below w.heap.size w w'

theorem dec_post {v : Nat} {w w' : World} {e : Ending} (hv : v < pw 32) (h : TextPost v w e w') : DecPost v w e w' := by
  obtain ⟨k, d, s, rfl, h1, h2, h3⟩ := h
  have hd : DecL v s.data.toList := ⟨k, d, h1, h2⟩
  exact ⟨s, rfl, hd, by rw [Lib.size_eq]; exact hd.small (pw_more hv), h3⟩

theorem natText_any (b : Bool) (ao : Option Addr) (n nc : Nat) (x : Int) (w : World) (h : Right w b ao n nc x) (hx : x.natAbs < pw 32) :
    Calls Tryz.prog 19 #[.slice ao n nc] w (DecPost x.natAbs w) := by
  obtain ⟨f, F⟩ := h.arg hx
  have hc := h.canon F
  have k := text_any ao n nc f w F 32 (h.len_le32 hx) (by omega)
  rw [hc.val] at k
  exact k.mono fun _ _ => dec_post hx

theorem refText5_any (b : Bool) (ao : Option Addr) (n nc : Nat) (x : Int) (w : World) (h : Right w b ao n nc x) (hx : x.natAbs < pw 32) :
    Calls Tryz.prog 25 #[.slice ao n nc] w (DecPost x.natAbs w) := by
  obtain ⟨f, F⟩ := h.arg hx
  have hc := h.canon F
  have k := refText_any ao n nc f w F (by have := h.len_le32 hx; omega)
  rw [hc.val] at k
  exact k.mono fun _ _ => dec_post hx

theorem printed_mk {P : Int} {Q : Nat} {a b : List UInt8} (h1 : DecL P.natAbs a) (h2 : DecL Q b) : Printed P Q ((if P < 0 then [194, 175] else []) ++ a ++ (if Q = 1 then [] else 114 :: b)) := ⟨a, b, h1, h2, rfl⟩

theorem dec_digit {d : Nat} (h0 : 0 < d) (h : d < 10) : DecL d [UInt8.ofNat (48 + d)] :=
  ⟨1, fun _ => d, ⟨fun _ _ => h, .inr (by show d ≠ 0; omega), by simp [dval]⟩, rfl⟩

theorem dec_one : DecL 1 [49] := dec_digit (d := 1) (by decide) (by decide)

theorem printed_whole {P : Int} {a : List UInt8} (h1 : DecL P.natAbs a) (hP : ¬ P < 0) : Printed P 1 a := ⟨a, _, h1, dec_one, by simp [hP]⟩

theorem printed_whole_neg {P : Int} {a : List UInt8} (h1 : DecL P.natAbs a) (hP : P < 0) : Printed P 1 ([194, 175] ++ a) := ⟨a, _, h1, dec_one, by simp [hP]⟩

theorem printed_by {P : Int} {Q : Nat} {a b : List UInt8} (h1 : DecL P.natAbs a) (h2 : DecL Q b) (hP : ¬ P < 0) (hQ : ¬ Q = 1) : Printed P Q (a ++ 114 :: b) := ⟨a, b, h1, h2, by simp [hP, hQ]⟩

theorem printed_by_neg {P : Int} {Q : Nat} {a b : List UInt8} (h1 : DecL P.natAbs a) (h2 : DecL Q b) (hP : P < 0) (hQ : ¬ Q = 1) : Printed P Q ([194, 175] ++ a ++ 114 :: b) := ⟨a, b, h1, h2, by simp [hP, hQ]⟩

set_option maxRecDepth 20000 in
set_option maxHeartbeats 2000000 in
theorem print5_any (ab : Bool) (ap aq : Option Addr) (an ac am ae : Nat) (P : Int) (Q : Nat) (w : World) (A : Rt w ab ap an ac aq am ae P Q) (lA : Low P Q) :
    Calls Tryz.prog 8 #[.agg #[.bool ab, .slice ap an ac, .slice aq am ae]] w (PrintPost P Q w) := by
  have lA' := Lib.hid lA
  have A' := Lib.hid A
  have hab' := Lib.hid A.top.neg
  clear A lA
  go_enter Tryz.func8, Tryz.ntmps8
  go_wp2_with fail
  refine gen_calls (fun w' => Below w.heap.size w w' ∧ Box3 w' w.heap.size (.bool ab) (.slice ap an ac) (.slice aq am ae))
    ⟨((Below.refl _ _).alloc (Nat.le_refl _) _), (Box3.new _ _ _ _ rfl)⟩ ?_
  rintro w0 ⟨bb, x0⟩
  refine (natText_any ab ap an ac P _ (A'.out.below bb).top lA'.out.abs_lt).mono ?_
  rintro e w1 ⟨s, rfl, hs, hn, hb⟩
  have x1 := x0.later hb
  have bb1 := Lib.hid (below_then bb (Nat.le_refl _) hb)
  have hs' := Lib.hid hs
  have x1' := Lib.hid x1
  clear hb bb x0 hs
  have q0 := x1.c0; have q1 := x1.c1; have q2 := x1.c2; have q3 := x1.fr 0; have q4 := x1.fr 1; have q5 := x1.fr 2
  clear x1
  by_cases hP : P < 0
  · have hP' := Lib.hid hP
    have hab := hab'.out
    rw [decide_eq_true hP] at hab
    clear hab'
    subst hab
    clear hP
    go_wp2_with fail
    refine (int_any true ap aq an ac am ae P Q _ (A'.out.below bb1.out) lA'.out).mono ?_
    rintro e w2 ⟨ib, ip, il, ic, rfl, _, hb⟩
    have x2 := x1'.out.later hb
    have bb2 := Lib.hid (below_then bb1.out (Nat.le_refl _) hb)
    have x2' := Lib.hid x2
    clear hb bb1 x1'
    clear q0 q1 q2 q3 q4 q5
    have q0 := x2.c0; have q1 := x2.c1; have q2 := x2.c2; have q3 := x2.fr 0; have q4 := x2.fr 1; have q5 := x2.fr 2
    clear x2
    by_cases hQ : Q = 1
    · have dQ : decide (Q = 1) = true := decide_eq_true hQ
      have hQ' := Lib.hid hQ
      clear hQ
      rw [dQ]
      go_wp2_with fail
      go_ret
      exact ⟨_, rfl, by rw [hQ'.out]; rw [list_append]; exact printed_whole_neg hs'.out hP'.out, bb2.out.alloc bb2.out.size _⟩
    · have dQ : decide (Q = 1) = false := decide_eq_false hQ
      have hQ' := Lib.hid hQ
      clear hQ
      rw [dQ]
      have e2 : ∀ o, (w2.alloc o).cell? ⟨w.heap.size, 2, none⟩ = some (.slice aq am ae) := fun o => ((x2'.out).alloc o).c2
      go_wp2_with fail
      refine gen_calls (fun w' => Below w.heap.size w w') (bb2.out.alloc bb2.out.size _) ?_
      intro w3 bb3
      refine (natText_any false aq am ae Q _ (A'.out.below bb3).bot lA'.out.bot_lt).mono ?_
      rintro e w4 ⟨t, rfl, ht, tn, hb⟩
      have bb4 := Lib.hid (below_then bb3 (Nat.le_refl _) hb)
      have ht' := Lib.hid ht
      clear hb bb3 bb2 x2' ht e2 q0 q1 q2 q3 q4 q5
      go_wp2_with fail
      go_ret
      exact ⟨_, rfl, by rw [list_append, list_append, list_append]; exact printed_by_neg hs'.out ht'.out (by have := hP'.out; omega) hQ'.out, bb4.out⟩
  · have hP' := Lib.hid hP
    have hab := hab'.out
    rw [decide_eq_false hP] at hab
    clear hab'
    subst hab
    clear hP
    go_wp2_with fail
    refine (int_any false ap aq an ac am ae P Q _ (A'.out.below bb1.out) lA'.out).mono ?_
    rintro e w2 ⟨ib, ip, il, ic, rfl, _, hb⟩
    have x2 := x1'.out.later hb
    have bb2 := Lib.hid (below_then bb1.out (Nat.le_refl _) hb)
    have x2' := Lib.hid x2
    clear hb bb1 x1'
    clear q0 q1 q2 q3 q4 q5
    have q0 := x2.c0; have q1 := x2.c1; have q2 := x2.c2; have q3 := x2.fr 0; have q4 := x2.fr 1; have q5 := x2.fr 2
    clear x2
    by_cases hQ : Q = 1
    · have dQ : decide (Q = 1) = true := decide_eq_true hQ
      have hQ' := Lib.hid hQ
      clear hQ
      rw [dQ]
      go_wp2_with fail
      go_ret
      exact ⟨_, rfl, by rw [hQ'.out]; exact printed_whole hs'.out (by have := hP'.out; omega), bb2.out.alloc bb2.out.size _⟩
    · have dQ : decide (Q = 1) = false := decide_eq_false hQ
      have hQ' := Lib.hid hQ
      clear hQ
      rw [dQ]
      have e2 : ∀ o, (w2.alloc o).cell? ⟨w.heap.size, 2, none⟩ = some (.slice aq am ae) := fun o => ((x2'.out).alloc o).c2
      go_wp2_with fail
      refine gen_calls (fun w' => Below w.heap.size w w') (bb2.out.alloc bb2.out.size _) ?_
      intro w3 bb3
      refine (natText_any false aq am ae Q _ (A'.out.below bb3).bot lA'.out.bot_lt).mono ?_
      rintro e w4 ⟨t, rfl, ht, tn, hb⟩
      have bb4 := Lib.hid (below_then bb3 (Nat.le_refl _) hb)
      have ht' := Lib.hid ht
      clear hb bb3 bb2 x2' ht e2 q0 q1 q2 q3 q4 q5
      go_wp2_with fail
      go_ret
      exact ⟨_, rfl, by rw [list_append, list_append]; exact printed_by hs'.out ht'.out (by have := hP'.out; omega) hQ'.out, bb4.out⟩

end Go.Proofs.YtokdaagjkhkinaaGreatDoor

namespace Go.Proofs.YtokdaagjkhkinaaGreatDoor
open Go.RowKit Num

attribute [local go_sem ↓] Go.wp_at_zero Go.wp_at_succ

theorem parsed_1 : ParsedPost [194, 175, 51, 114, 50] = ResPost (-3) 2 0 := by
  have e : rd (Lib.hasPrefix [194, 175, 51, 114, 50] [194, 175]) (Lib.trimPrefix [194, 175, 51, 114, 50] [194, 175]) = (-3, 2, 0) := by decide +kernel
  unfold ParsedPost ReadPost
  rw [e]

theorem parsed_2 : ParsedPost [194, 175, 49, 46, 53] = ResPost (-3) 2 0 := by
  have e : rd (Lib.hasPrefix [194, 175, 49, 46, 53] [194, 175]) (Lib.trimPrefix [194, 175, 49, 46, 53] [194, 175]) = (-3, 2, 0) := by decide +kernel
  unfold ParsedPost ReadPost
  rw [e]

theorem parsed_3 : ParsedPost [49, 114, 48] = ResPost 0 0 3 := by
  have e : rd (Lib.hasPrefix [49, 114, 48] [194, 175]) (Lib.trimPrefix [49, 114, 48] [194, 175]) = (0, 0, 3) := by decide +kernel
  unfold ParsedPost ReadPost
  rw [e]

theorem low_32 : Low (-3) 2 := by
  have e : mkE (-3) 2 = 0 := by decide +kernel
  have h := mk_low e
  have e1 : mkT (-3) 2 = -3 := by decide +kernel
  have e2 : mkB (-3) 2 = 2 := by decide +kernel
  rw [e1, e2] at h
  exact h

theorem printed_32 : Printed (-3) 2 [194, 175, 51, 114, 50] :=
  printed_by_neg (a := [51]) (b := [50]) (dec_digit (d := 3) (by decide) (by decide)) (dec_digit (d := 2) (by decide) (by decide)) (by decide) (by decide)

set_option maxRecDepth 20000 in
set_option maxHeartbeats 2000000 in
theorem awake5_any (w : World) : Calls Tryz.prog 7 #[] w (Says (.bool true) w) := by
  have c1 := parse5_any (ByteArray.mk #[194, 175, 51, 114, 50])
  have c2 := parse5_any (ByteArray.mk #[194, 175, 49, 46, 53])
  have c3 := parse5_any (ByteArray.mk #[49, 114, 48])
  rw [show (ByteArray.mk #[194, 175, 51, 114, 50]).data.toList = [194, 175, 51, 114, 50] from rfl, parsed_1] at c1
  rw [show (ByteArray.mk #[194, 175, 49, 46, 53]).data.toList = [194, 175, 49, 46, 53] from rfl, parsed_2] at c2
  rw [show (ByteArray.mk #[49, 114, 48]).data.toList = [49, 114, 48] from rfl, parsed_3] at c3
  go_enter Tryz.func7, Tryz.ntmps7
  go_wp2_with fail
  refine (c1 _).mono ?_
  rintro e w1 ⟨ab, ap, an, ac, aq, am, ae, rfl, hA, bb1⟩
  obtain rfl : ab = true := hA.top.neg
  have hA' := Lib.hid hA; have bb1' := Lib.hid bb1
  clear hA bb1 c1
  go_wp2_with fail
  refine gen_calls (fun w' => Below w.heap.size w w' ∧ Box3 w' w1.heap.size (.bool true) (.slice ap an ac) (.slice aq am ae) ∧ Rt w' true ap an ac aq am ae (-3) 2)
    ⟨bb1'.out.alloc bb1'.out.size _, Box3.new _ _ _ _ rfl, hA'.out.alloc _⟩ ?_
  clear hA' bb1'
  rintro w2 ⟨b2, x2, A2⟩
  refine (c2 _).mono ?_
  rintro e w3 ⟨cb, cp, cn, cc, cq, cm, ce, rfl, hB, hb⟩
  have b3' := Lib.hid (below_then b2 (Nat.le_refl _) hb)
  have x3' := Lib.hid (x2.later hb)
  have A3' := Lib.hid (A2.below hb)
  have B3' := Lib.hid hB
  clear b2 x2 A2 hB hb c2
  go_wp2_with fail
  refine gen_calls (fun w' => Below w.heap.size w w' ∧ Box3 w' w1.heap.size (.bool true) (.slice ap an ac) (.slice aq am ae) ∧ Rt w' true ap an ac aq am ae (-3) 2 ∧ Box3 w' w3.heap.size (.bool cb) (.slice cp cn cc) (.slice cq cm ce) ∧ Rt w' cb cp cn cc cq cm ce (-3) 2)
    ⟨b3'.out.alloc b3'.out.size _, x3'.out.alloc _, A3'.out.alloc _, Box3.new _ _ _ _ rfl, B3'.out.alloc _⟩ ?_
  clear b3' x3' A3' B3'
  rintro w4 ⟨b4, x4, A4, y4, B4⟩
  refine (c3 _).mono ?_
  rintro e w5 ⟨db, dp, dn, dc, dq, dm, de, rfl, hD, hb⟩
  have b5' := Lib.hid (below_then b4 (Nat.le_refl _) hb)
  have x5' := Lib.hid (x4.later hb)
  have A5' := Lib.hid (A4.below hb)
  have y5' := Lib.hid (y4.later hb)
  have B5' := Lib.hid (B4.below hb)
  clear b4 x4 A4 y4 B4 hb c3 hD
  go_upto_region 4 with fail
  refine gen_wp (fun w' => Below w.heap.size w w' ∧ Box3 w' w1.heap.size (.bool true) (.slice ap an ac) (.slice aq am ae) ∧ Rt w' true ap an ac aq am ae (-3) 2 ∧ Box3 w' w3.heap.size (.bool cb) (.slice cp cn cc) (.slice cq cm ce) ∧ Rt w' cb cp cn cc cq cm ce (-3) 2)
    ⟨b5'.out.alloc b5'.out.size _, x5'.out.alloc _, A5'.out.alloc _, y5'.out.alloc _, B5'.out.alloc _⟩ ?_
  clear b5' x5' A5' y5' B5'
  rintro w6 ⟨b6, x6, A6, y6, B6⟩
  have b6' := Lib.hid b6; have x6' := Lib.hid x6; have A6' := Lib.hid A6; have B6' := Lib.hid B6
  have p0 := x6.c0; have p1 := x6.c1; have p2 := x6.c2
  have q0 := y6.c0; have q1 := y6.c1; have q2 := y6.c2
  clear b6 x6 A6 y6 B6
  go_wp2_with fail
  refine (same4_any true ap aq an ac am ae (-3) 2 cb cp cq cn cc cm ce _ A6'.out B6'.out).mono ?_
  rintro e w7 ⟨rfl, hb⟩
  have b7' := Lib.hid (below_then b6'.out (Nat.le_refl _) hb)
  have x7 := x6'.out.later hb
  have A7' := Lib.hid (A6'.out.below hb)
  clear hb b6' x6' A6' B6' p0 p1 p2 q0 q1 q2
  have p0 := x7.c0; have p1 := x7.c1; have p2 := x7.c2
  clear x7
  go_wp2_with fail
  refine (print5_any true ap aq an ac am ae (-3) 2 _ A7'.out low_32).mono ?_
  rintro e w8 ⟨s, rfl, hs, hb⟩
  obtain rfl : s = ByteArray.mk #[194, 175, 51, 114, 50] := bytes_eq (hs.uniq printed_32)
  have b8' := Lib.hid (below_then b7'.out (Nat.le_refl _) hb)
  clear hs hb b7' A7' p0 p1 p2
  go_wp2_with fail
  go_ret
  exact ⟨rfl, b8'.out⟩

end Go.Proofs.YtokdaagjkhkinaaGreatDoor

namespace Go.Proofs.YtokdaagjkhkinaaGreatDoor
open Go.RowKit Num

theorem wf_u32 {x : Int} (h : (Lit.int .u32 x).wf = true) : 0 ≤ x ∧ x < 4294967296 := by
  have := bounds_u32 h
  omega

theorem row_in (w : World) (a : Option Addr) (len cap : Nat) (zs : List Int)
    (h : (a = none ∧ len = 0 ∧ cap = 0 ∧ zs = []) ∨
      ∃ x, a = some x ∧ len ≤ cap ∧ cap ≤ maxLen ∧ zs.length = cap ∧ (∀ i, i < zs.length → w.cell? (x.add i) = some (.int .u32 (zs.getD i 0))) ∧ ∀ n ∈ zs, (Lit.int .u32 n).wf = true) :
    ∃ f : Nat → Nat, len ≤ cap ∧ cap ≤ 9223372036854775807 ∧ Sl w a len f ∧ Lim f len := by
  rcases h with ⟨rfl, rfl, rfl, rfl⟩ | ⟨x, rfl, hl, hm, hz, hc, hw⟩
  · exact ⟨fun _ => 0, Nat.le_refl _, by omega, .inl rfl, fun _ h => by omega⟩
  · refine ⟨fun j => (zs.getD j 0).toNat, hl, by unfold maxLen at hm; omega, ?_, ?_⟩
    · by_cases h0 : len = 0
      · exact .inl h0
      · obtain ⟨b, off, rfl, hc'⟩ := ints_at hc (by omega)
        refine .inr ⟨b, off, rfl, fun j hj => ?_⟩
        have hj' : j < zs.length := by omega
        have hb := wf_u32 (hw (zs.getD j 0) (by rw [List.getD_eq_getElem?_getD, List.getElem?_eq_getElem hj']; exact List.getElem_mem hj'))
        rw [hc' j hj', Int.toNat_of_nonneg hb.1]
    · intro j hj
      have hj' : j < zs.length := by omega
      have hb := wf_u32 (hw (zs.getD j 0) (by rw [List.getD_eq_getElem?_getD, List.getElem?_eq_getElem hj']; exact List.getElem_mem hj'))
      show (zs.getD j 0).toNat < 4294967296
      omega

end Go.Proofs.YtokdaagjkhkinaaGreatDoor
