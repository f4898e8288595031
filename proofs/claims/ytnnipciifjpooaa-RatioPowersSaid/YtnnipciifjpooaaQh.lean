/-
  scrimref02.Same of any limbs; scrimref04.Same, Right.
-/
import Derived.Test.YtnnipciifjpooaaQf
namespace Go.Proofs.Ytnnipciifjpooaa
open Go.RowKit Num

/-- What Same tells of any limbs. -/
def SameBPost (n m : Nat) (f g : Nat → Nat) (w : World) (e : Ending) (w' : World) : Prop := ∃ r, e = .returned (.bool r) ∧ (r = true ↔ n = m ∧ ∀ j, j < n → f j = g j) ∧ Below w.heap.size w w'
def Same4BPost (b c : Bool) (n m k l : Nat) (f g h i : Nat → Nat) (w : World) (e : Ending) (w' : World) : Prop := ∃ r, e = .returned (.bool r) ∧ (r = true ↔ b = c ∧ (n = m ∧ ∀ j, j < n → f j = g j) ∧ (k = l ∧ ∀ j, j < k → h j = i j)) ∧ Below w.heap.size w w'

set_option maxHeartbeats 1000000 in
/-- Same, of any limbs. -/
theorem sameB_any (ao bo : Option Addr) (n nc m mc : Nat) (f g : Nat → Nat) (w : World) (hn : n ≤ 9223372036854775807) (hf : Sl w ao n f) (hg : Sl w bo m g) :
    Calls Try.prog 56 #[.slice ao n nc, .slice bo m mc] w (SameBPost n m f g w) := by
  by_cases hnm : n = m
  · subst hnm
    go_enter Try.func56, Try.ntmps56
    go_wp2_with fail
    go_loopw [5] (fun i wr => ∃ j : Nat, j ≤ n ∧ i = .int .i64 j ∧ Hid (∀ i, i < j → f i = g i) ∧ ∃ q, wr = w.drewN q) (fun i _ => n - (intOf i).toNat)
    case atStart => exact ⟨0, Nat.zero_le _, rfl, Lib.hid (fun i hi => absurd hi (Nat.not_lt_zero _)), 0, rfl⟩
    case round =>
      obtain ⟨j, hj, rfl, heq, q, rfl⟩ := hrel
      by_cases hlt : j < n
      · rcases hf with h | ⟨b, off, rfl, hc⟩
        · omega
        rcases hg with h | ⟨b', off', rfl, hc'⟩
        · omega
        have c1 := hc j hlt
        have c2 := hc' j hlt
        clear hc hc'
        by_cases he : f j = g j
        · rw [← he] at c2
          have heq' : Hid (∀ i, i < j + 1 → f i = g i) := Lib.hid (fun i hi => by
            by_cases hij : i < j
            · exact heq.out i hij
            · have : i = j := by omega
              subst this; exact he)
          clear he heq
          go_wp2_with fail
          go_quiet (fail)
          go_wp2_with fail
          go_roundw
          case rel => exact ⟨j + 1, by omega, by go_num, heq', _, rfl⟩
          case measure => simp [intOf]; omega
        · have he' : ((f j : Int) == (g j : Int)) = false := by rw [beq_eq_false_iff_ne]; omega
          have hid := Lib.hid he
          have hlt' := Lib.hid hlt
          go_wp2_with fail
          go_quiet (fail)
          go_wp2_with fail
          go_ret
          exact ⟨false, rfl, ⟨(fun h => by cases h), fun h => absurd (h.2 j hlt'.out) hid.out⟩, below_drewN (below_drewN (Below.refl _ _) _) _⟩
      · have : j = n := by omega
        subst this
        go_wp2_with fail
        go_ret
        exact ⟨true, rfl, ⟨fun _ => ⟨rfl, heq.out⟩, fun _ => rfl⟩, below_drewN (Below.refl _ _) _⟩
  · have hd : ((n : Int) == (m : Int)) = false := by rw [beq_eq_false_iff_ne]; omega
    have hnm' := Lib.hid hnm
    clear hf hg
    go_enter Try.func56, Try.ntmps56
    go_wp2_with fail
    go_ret
    exact ⟨false, rfl, ⟨(fun h => by cases h), fun h => absurd h.1 hnm'.out⟩, Below.refl _ _⟩

attribute [local go_sem ↓] Go.wp_at_zero Go.wp_at_succ

set_option maxHeartbeats 2000000 in
theorem same4B_any (ab cb : Bool) (ap aq cp cq : Option Addr) (an ac am ae cn cc cm ce : Nat) (f h g k : Nat → Nat) (w : World) (hn : an ≤ 9223372036854775807) (hm : am ≤ 9223372036854775807) (hf : Sl w ap an f) (hh : Sl w aq am h) (hg : Sl w cp cn g) (hk : Sl w cq cm k) :
    Calls Try.prog 25 #[.agg #[.bool ab, .slice ap an ac, .slice aq am ae], .agg #[.bool cb, .slice cp cn cc, .slice cq cm ce]] w (Same4BPost ab cb an cn am cm f g h k w) := by
  have hf' := Lib.hid hf; have hh' := Lib.hid hh; have hg' := Lib.hid hg; have hk' := Lib.hid hk
  clear hf hh hg hk
  by_cases hb : ab = cb
  · subst hb
    go_enter Try.func25, Try.ntmps25
    go_wp2_with fail
    refine gen_calls (fun w' => Below w.heap.size w w' ∧ Box3 w' w.heap.size (.bool ab) (.slice ap an ac) (.slice aq am ae) ∧ Box3 w' (w.heap.size + 1) (.bool ab) (.slice cp cn cc) (.slice cq cm ce))
      ⟨(((Below.refl _ _).alloc (Nat.le_refl _) _).alloc (by first | (simp; done) | (simp; omega)) _), ((Box3.new _ _ _ _ rfl).alloc _), (Box3.new _ _ _ _ (by first | (simp; done) | (simp; omega)))⟩ ?_
    rintro w0 ⟨hb0, x0, x1⟩
    refine (sameB_any ap cp an ac cn cc f g _ hn (hf'.out.below hb0) (hg'.out.below hb0)).mono ?_
    rintro e w1 ⟨r, rfl, hr, hb⟩
    have bb := Lib.hid (below_then hb0 (Nat.le_refl _) hb)
    have x0 := x0.later hb; have x1 := x1.later hb
    have p0 := x0.c2; have p1 := x1.c2
    replace hr := Lib.hid hr
    clear hb hb0 x0 x1
    cases r
    · go_wp2_with fail
      go_ret
      exact ⟨false, rfl, ⟨(fun h => by cases h), fun h => absurd (hr.out.2 h.2.1) (by decide)⟩, bb.out⟩
    · go_wp2_with fail
      refine (sameB_any aq cq am ae cm ce h k _ hm (hh'.out.below bb.out) (hk'.out.below bb.out)).mono ?_
      rintro e w2 ⟨s, rfl, hs, hb⟩
      have bb := Lib.hid (below_then bb.out (Nat.le_refl _) hb)
      replace hs := Lib.hid hs
      clear hb p0 p1
      go_wp2_with fail
      go_ret
      exact ⟨s, rfl, ⟨fun e => ⟨rfl, hr.out.1 (by first | exact rfl | trivial), hs.out.1 e⟩, fun h => hs.out.2 h.2.2⟩, bb.out⟩
  · have hd : (ab == cb) = false := by simp [hb]
    have hb' := Lib.hid hb
    clear hb
    go_enter Try.func25, Try.ntmps25
    go_wp2_with fail
    go_ret
    exact ⟨false, rfl, ⟨(fun h => by cases h), fun h => absurd h.1 hb'.out⟩, (((Below.refl _ _).alloc (Nat.le_refl _) _).alloc (by simp) _)⟩

theorem Right.same {w : World} {b c : Bool} {ao bo : Option Addr} {n nc m mc : Nat} {x : Int} (A : Right w b ao n nc x) (B : Right w c bo m mc x) : b = c := A.neg.trans B.neg.symm
theorem same4_any (ab : Bool) (ap aq : Option Addr) (an ac am ae : Nat) (P : Int) (Q : Nat) (cb : Bool) (cp cq : Option Addr) (cn cc cm ce : Nat) (w : World) (A : Rt w ab ap an ac aq am ae P Q) (B : Rt w cb cp cn cc cq cm ce P Q) :
    Calls Try.prog 25 #[.agg #[.bool ab, .slice ap an ac, .slice aq am ae], .agg #[.bool cb, .slice cp cn cc, .slice cq cm ce]] w (Says (.bool true) w) := by
  have e := A.top.same B.top
  obtain ⟨f, f1, f2, f3, f4, _⟩ := A.top.ex
  obtain ⟨h, h1, h2, h3, h4, _⟩ := A.bot.ex
  obtain ⟨g, _, _, g3, g4, _⟩ := B.top.ex
  obtain ⟨k, _, _, k3, k4, _⟩ := B.bot.ex
  refine (same4B_any ab cb ap aq cp cq an ac am ae cn cc cm ce f h g k w (by omega) (by omega) f3 h3 g3 k3).mono ?_
  rintro e' w' ⟨r, rfl, hr, hb⟩
  have := hr.2 ⟨e, ⟨f4.len g4, f4.eq g4⟩, ⟨h4.len k4, h4.eq k4⟩⟩
  subst this
  exact ⟨rfl, hb⟩

theorem Sl.whole {w : World} {b : Bool} {ao : Option Addr} {n nc : Nat} {f : Nat → Nat} (A : Arg w ao n nc f) : Whole w b ao n nc (sgn b (val f n)) := ⟨f, A, rfl⟩
theorem arg_small {w : World} {b : Bool} {ao : Option Addr} {n nc : Nat} {f : Nat → Nat} (A : Arg w ao n nc f) (h : n ≤ 32) : (sgn b (val f n)).natAbs < pw 32 := by
  rw [sgn_abs]
  exact Nat.lt_of_lt_of_le (val_lt A.lim) (pw_le h)

/-- What Right tells: true of a number that is right, and of none else. -/
def RightPost (ab : Bool) (ap : Option Addr) (an ac : Nat) (aq : Option Addr) (am ae : Nat) (w : World) (e : Ending) (w' : World) : Prop :=
  ∃ r, e = .returned (.bool r) ∧ (r = true → ∃ P Q, Low P Q ∧ Rt w ab ap an ac aq am ae P Q) ∧ (∀ P Q, Low P Q → Rt w ab ap an ac aq am ae P Q → r = true) ∧ Below w.heap.size w w'

theorem Right.len_le32 {w : World} {b : Bool} {ao : Option Addr} {n nc : Nat} {x : Int} (h : Right w b ao n nc x) (hx : x.natAbs < pw 32) : n ≤ 32 := h.le_len hx
theorem Right.canon {w : World} {b : Bool} {ao : Option Addr} {n nc : Nat} {x : Int} {f : Nat → Nat} (h : Right w b ao n nc x) (A : Arg w ao n nc f) : Canon x.natAbs n f := by
  obtain ⟨g, _, _, hs, cg, e⟩ := h.ex
  have he : ∀ j, j < n → f j = g j := by
    intro j hj
    rcases A.sl with rfl | ⟨d, off, rfl, hc⟩
    · omega
    · rcases hs with rfl | ⟨d', off', e', hc'⟩
      · omega
      · injection e' with e'
        injection e' with e1 e2
        subst e1 e2
        have := (hc j hj).symm.trans (hc' j hj)
        injection this with this
        injection this with _ this
        omega
  refine ⟨A.lim, ?_, (val_congr he).trans cg.val⟩
  rcases cg.top with h0 | h0
  · exact .inl h0
  · by_cases hn : n = 0
    · exact .inl hn
    · refine .inr ?_
      rw [he (n - 1) (by omega)]; exact h0
theorem Right.val_is {w : World} {b : Bool} {ao : Option Addr} {n nc : Nat} {x : Int} {f : Nat → Nat} (h : Right w b ao n nc x) (A : Arg w ao n nc f) : sgn b (val f n) = x := by
  rw [(h.canon A).val, h.neg, sgn_self]

set_option maxRecDepth 20000 in
set_option maxHeartbeats 4000000 in
theorem right4_any (ab : Bool) (ap aq : Option Addr) (an ac am ae : Nat) (f h : Nat → Nat) (w : World) (A : Arg w ap an ac f) (B : Arg w aq am ae h) :
    Calls Try.prog 8 #[.agg #[.bool ab, .slice ap an ac, .slice aq am ae]] w (RightPost ab ap an ac aq am ae w) := by
  have A' := Lib.hid A; have B' := Lib.hid B
  clear A B
  by_cases ht : 32 < an
  · have hd : decide ((32 : Int) < (an : Int)) = true := by rw [decide_eq_true_iff]; omega
    have ht' := Lib.hid ht
    clear ht
    go_enter Try.func8, Try.ntmps8
    go_wp2_with fail
    go_ret
    exact ⟨false, rfl, (fun h => by cases h), fun P Q l R => absurd (R.top.le_len l.abs_lt) (Nat.not_le.2 ht'.out), (Below.refl _ _).alloc (Nat.le_refl _) _⟩
  have hd : decide ((32 : Int) < (an : Int)) = false := by rw [decide_eq_false_iff_not]; omega
  have ht' := Lib.hid (Nat.le_of_not_lt ht)
  clear ht
  by_cases hu : 32 < am
  · have hd2 : decide ((32 : Int) < (am : Int)) = true := by rw [decide_eq_true_iff]; omega
    have hu' := Lib.hid hu
    clear hu
    go_enter Try.func8, Try.ntmps8
    go_wp2_with fail
    go_ret
    exact ⟨false, rfl, (fun h => by cases h), fun P Q l R => absurd (R.bot.le_len l.bot_lt) (Nat.not_le.2 hu'.out), (Below.refl _ _).alloc (Nat.le_refl _) _⟩
  have hd2 : decide ((32 : Int) < (am : Int)) = false := by rw [decide_eq_false_iff_not]; omega
  have hu' := Lib.hid (Nat.le_of_not_lt hu)
  clear hu
  go_enter Try.func8, Try.ntmps8
  go_wp2_with fail
  refine gen_wp (fun w' => Below w.heap.size w w' ∧ Box3 w' w.heap.size (.bool ab) (.slice ap an ac) (.slice aq am ae))
    ⟨((Below.refl _ _).alloc (Nat.le_refl _) _), (Box3.new _ _ _ _ rfl)⟩ ?_
  rintro u0 ⟨bb, x0⟩
  obtain ⟨p, hp⟩ : ∃ p, Hid (sgn ab (val f an) = p) := ⟨_, Lib.hid rfl⟩
  obtain ⟨q, hq⟩ : ∃ q, Hid (sgn false (val h am) = q) := ⟨_, Lib.hid rfl⟩
  have hp32 : Hid (p.natAbs < pw 32) := Lib.hid (by rw [← hp.out]; exact arg_small A'.out ht'.out)
  have hq32 : Hid (q.natAbs < pw 32) := Lib.hid (by rw [← hq.out]; exact arg_small B'.out hu'.out)
  have A : Whole u0 ab ap an ac p := ⟨f, A'.out.below bb, hp.out⟩
  have B : Whole u0 false aq am ae q := ⟨h, B'.out.below bb, hq.out⟩
  go_cut [3, 4] from 23 to 30 (fun s t wx => ∃ Y gb gp gn gc gq gm ge, s = .pointer (some ⟨Y, 0, none⟩) ∧ t = .int .i64 (mkE p q) ∧ Box3 wx Y (.bool gb) (.slice gp gn gc) (.slice gq gm ge) ∧ Box3 wx w.heap.size (.bool ab) (.slice ap an ac) (.slice aq am ae) ∧ Rt wx gb gp gn gc gq gm ge (mkT p q) (mkB p q) ∧ Below w.heap.size w wx)
  case first =>
    have lx0 := x0.lt
    have bs := bb.size
    have sa0 := True.intro
    go_region_held3 (fun w' => w'.cell? ⟨w.heap.size, 0, none⟩ = some (.bool ab) ∧ w'.cell? ⟨w.heap.size, 1, none⟩ = some (.slice ap an ac) ∧ w'.cell? ⟨w.heap.size, 2, none⟩ = some (.slice aq am ae))
      (first | with_reducible exact ⟨(x0.drew).c0, (x0.drew).c1, (x0.drew).c2⟩ | with_reducible exact ⟨((x0.alloc _).drew).c0, ((x0.alloc _).drew).c1, ((x0.alloc _).drew).c2⟩ | with_reducible exact ⟨x0.c0, x0.c1, x0.c2⟩ | with_reducible exact ⟨(x0.alloc _).c0, (x0.alloc _).c1, (x0.alloc _).c2⟩ | with_reducible exact ⟨(x0.other3 (by omega) _ _ _).c0, (x0.other3 (by omega) _ _ _).c1, (x0.other3 (by omega) _ _ _).c2⟩ | go_keep)
      (first
      | (go_at_call 39; clear sa0; refine (rTop_any ab ap aq an ac am ae p _ ?_).mono ?_; (first | with_reducible exact (A.drew) | with_reducible exact ((A.alloc _).drew)); rintro e u1 ⟨eb, eo, en, ec, rfl, h1, hb⟩; have hc : Below u0.heap.size u0 u1 := (by first | exact (Below.refl _ _).drew.trans hb | exact ((Below.refl _ _).alloc (by first | exact Nat.le_refl _ | (simp; done) | (simp; omega)) _).drew.trans (hb.mono (by first | (simp; done) | (simp; omega)))); have hz0 := hc.size; have x0 := x0.later hc; have A := A.below hc; have B := B.below hc; have bb := below_then bb (Nat.le_refl _) hc; (first | (with_reducible have m10 := made13' hb) | skip); (try have k10 := m10.lt); clear hb hc; have sa1 := True.intro)
      | (go_at_call 40; clear sa1; refine (rBot_any ab ap aq an ac am ae q _ ?_).mono ?_; (first | with_reducible exact B | with_reducible exact (B.alloc _)); rintro e u2 ⟨fb, fo, fn, fc, rfl, h2, hb⟩; have hc : Below u1.heap.size u1 u2 := (by first | with_reducible exact hb | exact ((Below.refl _ _).alloc (by first | exact Nat.le_refl _ | (simp; done) | (simp; omega)) _).trans (hb.mono (by first | (simp; done) | (simp; omega)))); have hz1 := hc.size; have x0 := x0.later hc; have A := A.below hc; have B := B.below hc; have h1 := h1.below hc; have bb := below_then bb (Nat.le_refl _) hc; (try have m10 := m10.later hc); (first | (with_reducible have m20 := made13 hb) | skip); (try have k10 := m10.lt); (try have k20 := m20.lt); clear hb hc; have sa2 := True.intro)
      | (go_at_call 38; clear sa2; refine (rMake_any eb fb eo fo en ec fn fc p q _ ?_ ?_ 32 (by omega) hp32.out hq32.out).mono ?_; (first | with_reducible exact (h1).whole32 hp32.out | with_reducible exact ((h1.alloc _)).whole32 hp32.out); (first | with_reducible exact (h2).whole32 hq32.out | with_reducible exact ((h2.alloc _)).whole32 hq32.out); rintro e u3 ⟨gb, gp, gn, gc, gq, gm, ge, rfl, G, hb⟩; have hc : Below u2.heap.size u2 u3 := (by first | with_reducible exact hb | exact ((Below.refl _ _).alloc (by first | exact Nat.le_refl _ | (simp; done) | (simp; omega)) _).trans (hb.mono (by first | (simp; done) | (simp; omega)))); have hz2 := hc.size; have x0 := x0.later hc; have A := A.below hc; have B := B.below hc; have h1 := h1.below hc; have h2 := h2.below hc; have bb := below_then bb (Nat.le_refl _) hc; (try have m10 := m10.later hc); (try have m20 := m20.later hc); (first | (with_reducible have m30 := made13 hb) | skip); (try have k10 := m10.lt); (try have k20 := m20.lt); (try have k30 := m30.lt); (try (have f100 := m10.c0; have f101 := m10.c1; have f102 := m10.fr 0; have f103 := m10.fr 1; have f104 := m10.c2; have f105 := m10.fr 2)); (try (have f200 := m20.c0; have f201 := m20.c1; have f202 := m20.fr 0; have f203 := m20.fr 1; have f204 := m20.c2; have f205 := m20.fr 2)); (try (have f300 := m30.c0; have f301 := m30.c1; have f302 := m30.fr 0; have f303 := m30.fr 1; have f304 := m30.c2; have f305 := m30.fr 2)); clear hb hc; have sa3 := True.intro))
    · go_wp2_with fail; go_meet; exact ⟨_, gb, gp, gn, gc, gq, gm, ge, rfl, rfl, (Box3.new _ _ _ _ (by first | (simp; done) | rfl)), (x0.alloc _), (G.alloc _), (Below.alloc bb (by first | omega | (simp; omega) | (simp; done)) _)⟩
    · go_wp2_with fail; go_meet; exact ⟨_, gb, gp, gn, gc, gq, gm, ge, rfl, rfl, (m30.set _ _ _), (x0.other3 (by omega) _ _ _), (G.box3 m30 _ _ _), (below_set3 bb (by omega) _ _ _)⟩
    · go_wp2_with fail; go_meet; exact ⟨_, gb, gp, gn, gc, gq, gm, ge, rfl, rfl, (m20.set _ _ _), (x0.other3 (by omega) _ _ _), (G.box3 m20 _ _ _), (below_set3 bb (by omega) _ _ _)⟩
    · go_wp2_with fail; go_meet; exact ⟨_, gb, gp, gn, gc, gq, gm, ge, rfl, rfl, (m10.set _ _ _), (x0.other3 (by omega) _ _ _), (G.box3 m10 _ _ _), (below_set3 bb (by omega) _ _ _)⟩
  case rest =>
    obtain ⟨Y, gb, gp, gn, gc, gq, gm, ge, rfl, rfl, y, x0, G, bb⟩ := hcut
    have yes : Hid (∀ P Q, Low P Q → Rt w ab ap an ac aq am ae P Q → p = P ∧ q = Q) := Lib.hid (fun P Q l R => ⟨hp.out.symm.trans (R.top.val_is A'.out), hq.out.symm.trans (R.bot.val_is B'.out)⟩)
    obtain ⟨E, hE⟩ : ∃ E, Hid (mkE p q = E) := ⟨_, Lib.hid rfl⟩
    rw [hE.out]
    by_cases h0 : E = 0
    · subst h0
      have p0 := y.c0; have p1 := y.c1; have p2 := y.c2; have p3 := x0.c0; have p4 := x0.c1; have p5 := x0.c2
      replace bb := Lib.hid bb
      obtain ⟨g, g1, g2, g3, g4, g5⟩ := G.top.ex
      obtain ⟨k, k1, k2, k3, k4, k5⟩ := G.bot.ex
      replace g3 := Lib.hid g3; replace k3 := Lib.hid k3; replace g4 := Lib.hid g4; replace k4 := Lib.hid k4; replace g5 := Lib.hid g5; clear k5
      have A1 := Lib.hid (A'.out.below bb.out); have B1 := Lib.hid (B'.out.below bb.out)
      have hn : an ≤ 9223372036854775807 := by have := A'.out.len; have := A'.out.cap; omega
      have hm : am ≤ 9223372036854775807 := by have := B'.out.len; have := B'.out.cap; omega
      have hn' := Lib.hid hn; have hm' := Lib.hid hm
      clear y x0 G hn hm A B
      go_wp2_with fail
      refine (same4B_any ab gb ap aq gp gq an ac am ae gn gc gm ge f h g k _ hn'.out hm'.out A1.out.sl B1.out.sl g3.out k3.out).mono ?_
      rintro e w2 ⟨r, rfl, hr, hb⟩
      have bb2 := Lib.hid (below_then bb.out (Nat.le_refl _) hb)
      replace hr := Lib.hid hr
      clear hb p0 p1 p2 p3 p4 p5
      go_wp2_with fail
      go_ret
      refine ⟨r, rfl, ?_, ?_, bb2.out⟩
      · intro e
        obtain ⟨rfl, ⟨rfl, h2⟩, rfl, h4⟩ := hr.out.1 e
        exact ⟨mkT p q, mkB p q, mk_low hE.out, ⟨g, A'.out.len, A'.out.cap, A'.out.sl.congr h2, g4.out, g5.out⟩, ⟨k, B'.out.len, B'.out.cap, B'.out.sl.congr h4, k4.out, by simp⟩⟩
      · intro P Q l R
        obtain ⟨e1, e2⟩ := yes.out P Q l R
        subst e1 e2
        obtain ⟨_, e3, e4⟩ := mk_self l
        have cf := R.top.canon A'.out; have ch := R.bot.canon B'.out
        have g4 := g4.out; have k4 := k4.out; have g5 := g5.out
        rw [e3] at g4 g5; rw [e4] at k4
        exact hr.out.2 ⟨R.top.neg.trans g5.symm, ⟨cf.len g4, cf.eq g4⟩, ch.len k4, ch.eq k4⟩
    · have h0' := Lib.hid h0
      clear y x0 G A B
      go_wp2_with fail
      go_ret
      refine ⟨false, rfl, (fun h => by cases h), ?_, bb⟩
      intro P Q l R
      obtain ⟨e1, e2⟩ := yes.out P Q l R
      subst e1 e2
      exact absurd (hE.out.symm.trans (mk_self l).1) h0'.out

end Go.Proofs.Ytnnipciifjpooaa
