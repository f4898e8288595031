/-
  ratio.Pow, scrimref04.Pow.
-/
import Derived.Test.YtnnipciifjpooaaQr
import Derived.Test.YtnnipciifjpooaaRp
namespace Go.Proofs.Ytnnipciifjpooaa
open Go.RowKit Num

attribute [local go_sem ↓] Go.wp_at_zero Go.wp_at_succ

theorem powR_lt (n : Nat) : ∀ (p s v : Int), p.natAbs < pw 32 → powR n p s = some v → v.natAbs < pw 32 := by
  induction n using Nat.strongRecOn with
  | ind n ih =>
    intro p s v hp h
    by_cases h0 : n = 0
    · subst h0
      rw [powR_zero] at h
      injection h with h
      rw [← h]; exact hp
    · by_cases hs : s.natAbs < pw 32
      · by_cases h1 : n % 2 = 1
        · by_cases hq : (p * s).natAbs < pw 32
          · rw [powR_odd h0 h1 hs hq] at h
            exact ih (n / 2) (by omega) _ _ _ hq h
          · rw [powR_odd_great h0 h1 (Nat.le_of_not_lt hq)] at h; cases h
        · rw [powR_even h0 h1 hs hp] at h
          exact ih (n / 2) (by omega) _ _ _ hp h
      · rw [powR_great h0 (Nat.le_of_not_lt hs)] at h; cases h
theorem powV_lt (k x : Int) : (powV k x).natAbs < pw 32 := by
  unfold powV
  have h1 : (1 : Int).natAbs < pw 32 := Nat.lt_of_lt_of_le (by decide : 1 < pw 1) (pw_le (by omega))
  split
  · exact pw_pos _
  · cases h : powR k.toNat 1 x with
    | none => exact pw_pos _
    | some v => exact powR_lt _ _ _ _ h1 h
/-- A whole number and an error come back. -/
def PPost (T E : Int) (w : World) (e : Ending) (w' : World) : Prop :=
  ∃ b ao n nc, e = .returned (.tuple #[.agg #[.bool b, .slice ao n nc], .int .i64 E]) ∧ Right w' b ao n nc T ∧ Below w.heap.size w w'
theorem pow_split {k x E : Int} {w w' : World} {e : Ending} (h : powE k x = E) (p : PowPost k x w e w') : PPost (powV k x) E w e w' := by
  subst h; exact p
theorem grow_64 {x : Int} (h : x.natAbs < pw 32) : x.natAbs < pw 64 := Nat.lt_of_lt_of_le h (pw_le (by omega))

def pwRes (p q k : Int) : Int × Nat × Int := if powE k p ≠ 0 then (0, 0, powE k p) else if powE k q ≠ 0 then (0, 0, powE k q) else (mkT (powV k p) (powV k q), mkB (powV k p) (powV k q), mkE (powV k p) (powV k q))
def powRes (P : Int) (Q : Nat) (n : Int) : Int × Nat × Int := if n < 0 then (if P = 0 ∨ n = -9223372036854775808 then (0, 0, 3) else pwRes Q P (-n)) else pwRes P Q n
def PwPost (p q k : Int) := ResPost (pwRes p q k).1 (pwRes p q k).2.1 (pwRes p q k).2.2
def NumPowPost (P : Int) (Q : Nat) (n : Int) := ResPost (powRes P Q n).1 (powRes P Q n).2.1 (powRes P Q n).2.2
theorem pw_one {p q k E : Int} {w w' : World} {e : Ending} (h : powE k p = E) (hE : E ≠ 0) (r : ResPost 0 0 E w e w') : PwPost p q k w e w' := by
  unfold PwPost pwRes; rw [if_pos (by rw [h]; exact hE), h]; exact r
theorem pw_two {p q k E : Int} {w w' : World} {e : Ending} (h : powE k p = 0) (h2 : powE k q = E) (hE : E ≠ 0) (r : ResPost 0 0 E w e w') : PwPost p q k w e w' := by
  unfold PwPost pwRes; rw [if_neg (by rw [h]; decide), if_pos (by rw [h2]; exact hE), h2]; exact r
theorem pw_ok {p q k : Int} {w w' : World} {e : Ending} (h : powE k p = 0) (h2 : powE k q = 0) (r : MakePost (powV k p) (powV k q) w e w') : PwPost p q k w e w' := by
  unfold PwPost pwRes; rw [if_neg (by rw [h]; decide), if_neg (by rw [h2]; decide)]; exact r
theorem pow_bad {P n : Int} {Q : Nat} {w w' : World} {e : Ending} (hn : n < 0) (h : P = 0 ∨ n = -9223372036854775808) (r : ResPost 0 0 3 w e w') : NumPowPost P Q n w e w' := by
  unfold NumPowPost powRes; rw [if_pos hn, if_pos h]; exact r
theorem pow_neg {P n : Int} {Q : Nat} {w w' : World} {e : Ending} (hn : n < 0) (h : ¬ (P = 0 ∨ n = -9223372036854775808)) (r : PwPost Q P (-n) w e w') : NumPowPost P Q n w e w' := by
  unfold NumPowPost powRes; rw [if_pos hn, if_neg h]; exact r
theorem pow_pos {P n : Int} {Q : Nat} {w w' : World} {e : Ending} (hn : ¬ n < 0) (r : PwPost P Q n w e w') : NumPowPost P Q n w e w' := by
  unfold NumPowPost powRes; rw [if_neg hn]; exact r

set_option maxRecDepth 20000 in
set_option maxHeartbeats 4000000 in
theorem pow4_any (ab : Bool) (ap aq : Option Addr) (an ac am ae : Nat) (P : Int) (Q : Nat) (n : Int) (w : World) (Ra : Rt w ab ap an ac aq am ae P Q) (la : Low P Q) (n0 : -9223372036854775808 ≤ n) (n1 : n ≤ 9223372036854775807) :
    Calls Try.prog 32 #[.agg #[.bool ab, .slice ap an ac, .slice aq am ae], .int .i64 n] w (NumPowPost P Q n w) := by
  replace n0 := Lib.hid n0; replace n1 := Lib.hid n1
  replace Ra := Lib.hid Ra; replace la := Lib.hid la
  go_enter Try.func32, Try.ntmps32
  go_upto_region 1 with fail
  refine gen_wp (fun w' => Below w.heap.size w w' ∧ Box3 w' w.heap.size (.bool ab) (.slice ap an ac) (.slice aq am ae) ∧ Box3 w' (w.heap.size + 1) (.bool false) (.slice none 0 0) (.slice none 0 0))
    ⟨(((Below.refl _ _).alloc (Nat.le_refl _) _).alloc (by first | (simp; done) | (simp; omega)) _), ((Box3.new _ _ _ _ rfl).alloc _), (Box3.new _ _ _ _ (by first | (simp; done) | (simp; omega)))⟩ ?_
  rintro u0 ⟨bb, Xa, X2⟩
  replace Ra := Ra.out.below bb
  replace bb := Lib.hid bb; replace Xa := Lib.hid Xa; replace X2 := Lib.hid X2; replace Ra := Lib.hid Ra
  replace bb := bb.out; replace Xa := Xa.out; replace X2 := X2.out; replace Ra := Ra.out
  go_cut [6, 7] from 15 to 54 (fun s t wx => ∃ Y Z yb yo yn yc zb zo zn zc, s = .pointer (some ⟨Y, 0, none⟩) ∧ t = .pointer (some ⟨Z, 0, none⟩) ∧ Box wx Y (.bool yb) (.slice yo yn yc) ∧ Box wx Z (.bool zb) (.slice zo zn zc) ∧ Box3 wx w.heap.size (.bool ab) (.slice ap an ac) (.slice aq am ae) ∧ Box3 wx (w.heap.size + 1) (.bool false) (.slice none 0 0) (.slice none 0 0) ∧ Rt wx ab ap an ac aq am ae P Q ∧ Whole wx yb yo yn yc P ∧ Whole wx zb zo zn zc Q ∧ Below w.heap.size w wx ∧ w.heap.size + 1 < Y ∧ w.heap.size + 1 < Z ∧ Y ≠ Z)
  case first =>
    have lXa := Xa.lt
    have lX2 := X2.lt
    have bs := bb.size
    have sa0 := True.intro
    go_region_held3 (fun w' => w'.cell? ⟨w.heap.size, 0, none⟩ = some (.bool ab) ∧ w'.cell? ⟨w.heap.size, 1, none⟩ = some (.slice ap an ac) ∧ w'.cell? ⟨w.heap.size, 2, none⟩ = some (.slice aq am ae))
      (first | with_reducible exact ⟨(Xa.drew).c0, (Xa.drew).c1, (Xa.drew).c2⟩ | with_reducible exact ⟨((Xa.alloc _).drew).c0, ((Xa.alloc _).drew).c1, ((Xa.alloc _).drew).c2⟩ | with_reducible exact ⟨(((Xa.alloc _).alloc _).drew).c0, (((Xa.alloc _).alloc _).drew).c1, (((Xa.alloc _).alloc _).drew).c2⟩ | with_reducible exact ⟨Xa.c0, Xa.c1, Xa.c2⟩ | with_reducible exact ⟨(Xa.alloc _).c0, (Xa.alloc _).c1, (Xa.alloc _).c2⟩ | with_reducible exact ⟨((Xa.alloc _).alloc _).c0, ((Xa.alloc _).alloc _).c1, ((Xa.alloc _).alloc _).c2⟩ | with_reducible exact ⟨(Xa.other (by omega) _ _).c0, (Xa.other (by omega) _ _).c1, (Xa.other (by omega) _ _).c2⟩ | with_reducible exact ⟨((Xa.other (by omega) _ _).alloc _).c0, ((Xa.other (by omega) _ _).alloc _).c1, ((Xa.other (by omega) _ _).alloc _).c2⟩ | with_reducible exact ⟨((Xa.other (by omega) _ _).other (by omega) _ _).c0, ((Xa.other (by omega) _ _).other (by omega) _ _).c1, ((Xa.other (by omega) _ _).other (by omega) _ _).c2⟩ | go_keep)
      (first
      | (go_at_call 45; clear sa0; refine (upper_any ab ap aq an ac am ae _).mono ?_; rintro e u1 ⟨rfl, hb⟩; have hc : Below u0.heap.size u0 u1 := (by first | exact (Below.refl _ _).drew.trans hb | exact ((Below.refl _ _).alloc (by first | exact Nat.le_refl _ | (simp; done) | (simp; omega)) _).drew.trans (hb.mono (by first | (simp; done) | (simp; omega))) | exact (((Below.refl _ _).alloc (by first | exact Nat.le_refl _ | (simp; done) | (simp; omega)) _).alloc (by first | exact Nat.le_refl _ | (simp; done) | (simp; omega)) _).drew.trans (hb.mono (by first | (simp; done) | (simp; omega)))); have hz0 := hc.size; have Xa := Xa.later hc; have X2 := X2.later hc; have Ra := Ra.below hc; have bb := below_then bb (Nat.le_refl _) hc; (first | (with_reducible have mm := made2' hb; obtain ⟨m10, m11⟩ := mm) | (with_reducible have m10 := made1' hb) | skip); (try have k10 := m10.lt); (try have k11 := m11.lt); clear hb hc; have sa1 := True.intro)
      | (go_at_call 46; clear sa1; refine (lower_any ab ap aq an ac am ae _).mono ?_; rintro e u2 ⟨rfl, hb⟩; have hc : Below u1.heap.size u1 u2 := (by first | with_reducible exact hb | exact ((Below.refl _ _).alloc (by first | exact Nat.le_refl _ | (simp; done) | (simp; omega)) _).trans (hb.mono (by first | (simp; done) | (simp; omega))) | exact (((Below.refl _ _).alloc (by first | exact Nat.le_refl _ | (simp; done) | (simp; omega)) _).alloc (by first | exact Nat.le_refl _ | (simp; done) | (simp; omega)) _).trans (hb.mono (by first | (simp; done) | (simp; omega)))); have hz1 := hc.size; have Xa := Xa.later hc; have X2 := X2.later hc; have Ra := Ra.below hc; have bb := below_then bb (Nat.le_refl _) hc; (try have m10 := m10.later hc); (try have m11 := m11.later hc); (first | (with_reducible have mm := made2 hb; obtain ⟨m20, m21⟩ := mm) | (with_reducible have m20 := made1 hb) | skip); (try have k10 := m10.lt); (try have k11 := m11.lt); (try have k20 := m20.lt); (try have k21 := m21.lt); (try (have f100 := m10.c0; have f101 := m10.c1; have f102 := m10.fr 0; have f103 := m10.fr 1)); (try (have f110 := m11.c0; have f111 := m11.c1; have f112 := m11.fr 0; have f113 := m11.fr 1)); (try (have f200 := m20.c0; have f201 := m20.c1; have f202 := m20.fr 0; have f203 := m20.fr 1)); (try (have f210 := m21.c0; have f211 := m21.c1; have f212 := m21.fr 0; have f213 := m21.fr 1)); clear hb hc; have sa2 := True.intro))
    · go_wp2_with fail; go_meet; exact ⟨_, _, ab, ap, an, ac, false, aq, am, ae, rfl, rfl, ((Box.new _ _ _ (by first | (simp; done) | rfl)).alloc _), (Box.new _ _ _ (by first | (simp; done) | rfl)), ((Xa.alloc _).alloc _), ((X2.alloc _).alloc _), ((Ra.alloc _).alloc _), (((Ra.alloc _).alloc _)).upper la.out, (((Ra.alloc _).alloc _)).lower la.out, (Below.alloc (Below.alloc bb (by first | omega | (simp; omega) | (simp; done)) _) (by first | omega | (simp; omega) | (simp; done)) _), (by first | omega | (simp; omega)), (by first | omega | (simp; omega)), (by first | omega | (simp; omega) | simp)⟩
    · go_wp2_with fail; go_meet; exact ⟨_, _, ab, ap, an, ac, false, aq, am, ae, rfl, rfl, (Box.new _ _ _ (by first | (simp; done) | rfl)), ((Box.new _ _ _ (by first | (simp; done) | rfl)).alloc _), ((Xa.alloc _).alloc _), ((X2.alloc _).alloc _), ((Ra.alloc _).alloc _), (((Ra.alloc _).alloc _)).upper la.out, (((Ra.alloc _).alloc _)).lower la.out, (Below.alloc (Below.alloc bb (by first | omega | (simp; omega) | (simp; done)) _) (by first | omega | (simp; omega) | (simp; done)) _), (by first | omega | (simp; omega)), (by first | omega | (simp; omega)), (by first | omega | (simp; omega) | simp)⟩
    · go_wp2_with fail; go_meet; exact ⟨_, _, ab, ap, an, ac, false, aq, am, ae, rfl, rfl, ((m20.set _ _).alloc _), (Box.new _ _ _ (by first | (simp; done) | rfl)), ((Xa.other (by omega) _ _).alloc _), ((X2.other (by omega) _ _).alloc _), ((Ra.box m20 _ _).alloc _), (((Ra.box m20 _ _).alloc _)).upper la.out, (((Ra.box m20 _ _).alloc _)).lower la.out, (Below.alloc (below_set bb (by omega) _ _) (by first | omega | (simp; omega) | (simp; done)) _), (by first | omega | (simp; omega)), (by first | omega | (simp; omega)), (by first | omega | (simp; omega) | simp)⟩
    · go_wp2_with fail; go_meet; exact ⟨_, _, ab, ap, an, ac, false, aq, am, ae, rfl, rfl, ((m20.set _ _).other (by omega) _ _), ((m21.other (by omega) _ _).set _ _), ((Xa.other (by omega) _ _).other (by omega) _ _), ((X2.other (by omega) _ _).other (by omega) _ _), ((Ra.box m20 _ _).box (m21.other (by omega) _ _) _ _), (((Ra.box m20 _ _).box (m21.other (by omega) _ _) _ _)).upper la.out, (((Ra.box m20 _ _).box (m21.other (by omega) _ _) _ _)).lower la.out, (below_set (below_set bb (by omega) _ _) (by omega) _ _), (by first | omega | (simp; omega)), (by first | omega | (simp; omega)), (by first | omega | (simp; omega) | simp)⟩
    · go_wp2_with fail; go_meet; exact ⟨_, _, ab, ap, an, ac, false, aq, am, ae, rfl, rfl, (Box.new _ _ _ (by first | (simp; done) | rfl)), ((m20.set _ _).alloc _), ((Xa.other (by omega) _ _).alloc _), ((X2.other (by omega) _ _).alloc _), ((Ra.box m20 _ _).alloc _), (((Ra.box m20 _ _).alloc _)).upper la.out, (((Ra.box m20 _ _).alloc _)).lower la.out, (Below.alloc (below_set bb (by omega) _ _) (by first | omega | (simp; omega) | (simp; done)) _), (by first | omega | (simp; omega)), (by first | omega | (simp; omega)), (by first | omega | (simp; omega) | simp)⟩
    · go_wp2_with fail; go_meet; exact ⟨_, _, ab, ap, an, ac, false, aq, am, ae, rfl, rfl, ((m21.set _ _).other (by omega) _ _), ((m20.other (by omega) _ _).set _ _), ((Xa.other (by omega) _ _).other (by omega) _ _), ((X2.other (by omega) _ _).other (by omega) _ _), ((Ra.box m21 _ _).box (m20.other (by omega) _ _) _ _), (((Ra.box m21 _ _).box (m20.other (by omega) _ _) _ _)).upper la.out, (((Ra.box m21 _ _).box (m20.other (by omega) _ _) _ _)).lower la.out, (below_set (below_set bb (by omega) _ _) (by omega) _ _), (by first | omega | (simp; omega)), (by first | omega | (simp; omega)), (by first | omega | (simp; omega) | simp)⟩
    · go_wp2_with fail; go_meet; exact ⟨_, _, ab, ap, an, ac, false, aq, am, ae, rfl, rfl, ((m10.set _ _).alloc _), (Box.new _ _ _ (by first | (simp; done) | rfl)), ((Xa.other (by omega) _ _).alloc _), ((X2.other (by omega) _ _).alloc _), ((Ra.box m10 _ _).alloc _), (((Ra.box m10 _ _).alloc _)).upper la.out, (((Ra.box m10 _ _).alloc _)).lower la.out, (Below.alloc (below_set bb (by omega) _ _) (by first | omega | (simp; omega) | (simp; done)) _), (by first | omega | (simp; omega)), (by first | omega | (simp; omega)), (by first | omega | (simp; omega) | simp)⟩
    · go_wp2_with fail; go_meet; exact ⟨_, _, ab, ap, an, ac, false, aq, am, ae, rfl, rfl, ((m10.set _ _).other (by omega) _ _), ((m20.other (by omega) _ _).set _ _), ((Xa.other (by omega) _ _).other (by omega) _ _), ((X2.other (by omega) _ _).other (by omega) _ _), ((Ra.box m10 _ _).box (m20.other (by omega) _ _) _ _), (((Ra.box m10 _ _).box (m20.other (by omega) _ _) _ _)).upper la.out, (((Ra.box m10 _ _).box (m20.other (by omega) _ _) _ _)).lower la.out, (below_set (below_set bb (by omega) _ _) (by omega) _ _), (by first | omega | (simp; omega)), (by first | omega | (simp; omega)), (by first | omega | (simp; omega) | simp)⟩
    · go_wp2_with fail; go_meet; exact ⟨_, _, ab, ap, an, ac, false, aq, am, ae, rfl, rfl, ((m10.set _ _).other (by omega) _ _), ((m11.other (by omega) _ _).set _ _), ((Xa.other (by omega) _ _).other (by omega) _ _), ((X2.other (by omega) _ _).other (by omega) _ _), ((Ra.box m10 _ _).box (m11.other (by omega) _ _) _ _), (((Ra.box m10 _ _).box (m11.other (by omega) _ _) _ _)).upper la.out, (((Ra.box m10 _ _).box (m11.other (by omega) _ _) _ _)).lower la.out, (below_set (below_set bb (by omega) _ _) (by omega) _ _), (by first | omega | (simp; omega)), (by first | omega | (simp; omega)), (by first | omega | (simp; omega) | simp)⟩
    · go_wp2_with fail; go_meet; exact ⟨_, _, ab, ap, an, ac, false, aq, am, ae, rfl, rfl, (Box.new _ _ _ (by first | (simp; done) | rfl)), ((m10.set _ _).alloc _), ((Xa.other (by omega) _ _).alloc _), ((X2.other (by omega) _ _).alloc _), ((Ra.box m10 _ _).alloc _), (((Ra.box m10 _ _).alloc _)).upper la.out, (((Ra.box m10 _ _).alloc _)).lower la.out, (Below.alloc (below_set bb (by omega) _ _) (by first | omega | (simp; omega) | (simp; done)) _), (by first | omega | (simp; omega)), (by first | omega | (simp; omega)), (by first | omega | (simp; omega) | simp)⟩
    · go_wp2_with fail; go_meet; exact ⟨_, _, ab, ap, an, ac, false, aq, am, ae, rfl, rfl, ((m20.set _ _).other (by omega) _ _), ((m10.other (by omega) _ _).set _ _), ((Xa.other (by omega) _ _).other (by omega) _ _), ((X2.other (by omega) _ _).other (by omega) _ _), ((Ra.box m20 _ _).box (m10.other (by omega) _ _) _ _), (((Ra.box m20 _ _).box (m10.other (by omega) _ _) _ _)).upper la.out, (((Ra.box m20 _ _).box (m10.other (by omega) _ _) _ _)).lower la.out, (below_set (below_set bb (by omega) _ _) (by omega) _ _), (by first | omega | (simp; omega)), (by first | omega | (simp; omega)), (by first | omega | (simp; omega) | simp)⟩
    · go_wp2_with fail; go_meet; exact ⟨_, _, ab, ap, an, ac, false, aq, am, ae, rfl, rfl, ((m11.set _ _).other (by omega) _ _), ((m10.other (by omega) _ _).set _ _), ((Xa.other (by omega) _ _).other (by omega) _ _), ((X2.other (by omega) _ _).other (by omega) _ _), ((Ra.box m11 _ _).box (m10.other (by omega) _ _) _ _), (((Ra.box m11 _ _).box (m10.other (by omega) _ _) _ _)).upper la.out, (((Ra.box m11 _ _).box (m10.other (by omega) _ _) _ _)).lower la.out, (below_set (below_set bb (by omega) _ _) (by omega) _ _), (by first | omega | (simp; omega)), (by first | omega | (simp; omega)), (by first | omega | (simp; omega) | simp)⟩
  case rest =>
    obtain ⟨Y, Z, yb, yo, yn, yc, zb, zo, zn, zc, rfl, rfl, XY, XZ, Xa, X2, Ra, WY, WZ, bb, hY, hZ, hYZ⟩ := hcut
    replace bb := Lib.hid bb; replace Xa := Lib.hid Xa; replace X2 := Lib.hid X2; replace XY := Lib.hid XY; replace XZ := Lib.hid XZ; replace Ra := Lib.hid Ra; replace WY := Lib.hid WY; replace WZ := Lib.hid WZ
    by_cases hn : n < 0
    · have hd : decide (n < 0) = true := decide_eq_true hn
      replace hn := Lib.hid hn
      have gd : Hid (w.heap.size ≠ Y ∧ w.heap.size ≠ Z ∧ w.heap.size + 1 ≠ Y ∧ w.heap.size + 1 ≠ Z ∧ Y ≠ Z ∧ Z ≠ Y ∧ w.heap.size ≤ Y ∧ w.heap.size ≤ Z) := Lib.hid (by omega)
      by_cases hP : P = 0
      · have hs : P.sign = 0 := by rw [hP]; rfl
        have hPn : Hid (P = 0 ∨ n = -9223372036854775808) := Lib.hid (.inl hP)
        clear hP
        have p00 := Xa.out.c0; have p01 := Xa.out.c1; have p02 := Xa.out.c2
        go_wp2_with fail
        clear p00 p01 p02
        refine (sign_any ab ap aq an ac am ae P Q _ Ra.out la.out).mono ?_
        rw [hs]
        rintro e v21 ⟨rfl, hb⟩
        replace bb := Lib.hid (below_then bb.out (Nat.le_refl _) hb); replace Xa := Lib.hid (Xa.out.later hb); replace X2 := Lib.hid (X2.out.later hb); replace XY := Lib.hid (XY.out.later hb); replace XZ := Lib.hid (XZ.out.later hb); replace Ra := Lib.hid (Ra.out.below hb); replace WY := Lib.hid (WY.out.below hb); replace WZ := Lib.hid (WZ.out.below hb)
        clear hs hb Xa XY XZ Ra WY WZ
        replace X2 := X2.out
        replace bb := bb.out
        have q0 := X2.c0; have q1 := X2.c1; have q2 := X2.c2; have q3 := X2.fr 0; have q4 := X2.fr 1; have q5 := X2.fr 2
        have zz := X2.set (.bool false) (.slice none 0 0) (.slice none 0 0)
        have e0 := zz.c0; have e1 := zz.c1; have e2 := zz.c2
        have Y2 := Lib.hid X2; have bb' := Lib.hid bb
        clear zz X2 bb
        go_wp2_with fail
        refine bodyPost_ret (v := .tuple #[.agg #[.bool false, .slice none 0 0, .slice none 0 0], .int .i64 (3)]) (by simp [results, Try.results32, go_sem, e0, e1, e2]) rfl ?_
        exact pow_bad hn.out hPn.out (ResPost.stored (rt_zero _) Y2.out bb'.out (by omega))
      have hs : ¬ P.sign = 0 := fun e => hP (Int.sign_eq_zero_iff_zero.1 e)
      replace hP := Lib.hid hP
      have p00 := Xa.out.c0; have p01 := Xa.out.c1; have p02 := Xa.out.c2
      go_wp2_with fail
      clear p00 p01 p02
      refine (sign_any ab ap aq an ac am ae P Q _ Ra.out la.out).mono ?_
      rintro e v21 ⟨rfl, hb⟩
      replace bb := Lib.hid (below_then bb.out (Nat.le_refl _) hb); replace Xa := Lib.hid (Xa.out.later hb); replace X2 := Lib.hid (X2.out.later hb); replace XY := Lib.hid (XY.out.later hb); replace XZ := Lib.hid (XZ.out.later hb); replace Ra := Lib.hid (Ra.out.below hb); replace WY := Lib.hid (WY.out.below hb); replace WZ := Lib.hid (WZ.out.below hb)
      clear hb
      by_cases hm : n = -9223372036854775808
      · have hPn : Hid (P = 0 ∨ n = -9223372036854775808) := Lib.hid (.inr hm)
        have hm2 : (n == -9223372036854775808) = true := by rw [hm]; rfl
        clear hm Xa XY XZ Ra WY WZ
        replace X2 := X2.out
        replace bb := bb.out
        have q0 := X2.c0; have q1 := X2.c1; have q2 := X2.c2; have q3 := X2.fr 0; have q4 := X2.fr 1; have q5 := X2.fr 2
        have zz := X2.set (.bool false) (.slice none 0 0) (.slice none 0 0)
        have e0 := zz.c0; have e1 := zz.c1; have e2 := zz.c2
        have Y2 := Lib.hid X2; have bb' := Lib.hid bb
        clear zz X2 bb
        go_wp2_with fail
        refine bodyPost_ret (v := .tuple #[.agg #[.bool false, .slice none 0 0, .slice none 0 0], .int .i64 (3)]) (by simp [results, Try.results32, go_sem, e0, e1, e2]) rfl ?_
        exact pow_bad hn.out hPn.out (ResPost.stored (rt_zero _) Y2.out bb'.out (by omega))
      have hPn : Hid (¬ (P = 0 ∨ n = -9223372036854775808)) := Lib.hid (fun h => h.elim hP.out hm)
      have hm2 : (n == -9223372036854775808) = false := beq_eq_false_iff_ne.2 hm
      have hk1 : Hid (-n ≤ 9223372036854775807) := Lib.hid (by have := n0.out; omega)
      have hk0 : Hid (-9223372036854775808 ≤ -n) := Lib.hid (by have := n1.out; omega)
      have hw2 : IntKind.i64.wrap (-n) = -n := by have := hn.out; have := hk1.out; simp [IntKind.wrap, IntKind.bits, IntKind.signed]; omega
      have hw1 : wrap64 (-n) = -n := by rw [wrap_is]; exact hw2
      clear hm
      have pY0 := XY.out.c0; have pY1 := XY.out.c1; have pZ0 := XZ.out.c0; have pZ1 := XZ.out.c1; have fY0 := XY.out.fr 0; have fY1 := XY.out.fr 1; have fZ0 := XZ.out.fr 0; have fZ1 := XZ.out.fr 1
      have gd1 := gd.out.2.2.2.2.1; have gd2 := gd.out.2.2.2.2.2.1
      go_upto_region 6 with fail
      clear pY0 pY1 pZ0 pZ1 fY0 fY1 fZ0 fZ1 gd1 gd2 hs hm2
      refine gen_wp (fun w' => Below w.heap.size w w' ∧ Box3 w' w.heap.size (.bool ab) (.slice ap an ac) (.slice aq am ae) ∧ Box3 w' (w.heap.size + 1) (.bool false) (.slice none 0 0) (.slice none 0 0) ∧ Box w' Y (.bool zb) (.slice zo zn zc) ∧ Box w' Z (.bool yb) (.slice yo yn yc) ∧ Rt w' ab ap an ac aq am ae P Q ∧ Whole w' zb zo zn zc Q ∧ Whole w' yb yo yn yc P)
        ⟨below_set (below_set bb.out gd.out.2.2.2.2.2.2.1 _ _) gd.out.2.2.2.2.2.2.2 _ _, (Xa.out.other gd.out.1 _ _).other gd.out.2.1 _ _, (X2.out.other gd.out.2.2.1 _ _).other gd.out.2.2.2.1 _ _, (XY.out.set _ _).other gd.out.2.2.2.2.1 _ _, (XZ.out.other gd.out.2.2.2.2.2.1 _ _).set _ _, (Ra.out.box XY.out _ _).box (XZ.out.other gd.out.2.2.2.2.2.1 _ _) _ _, (WZ.out.box XY.out _ _).box (XZ.out.other gd.out.2.2.2.2.2.1 _ _) _ _, (WY.out.box XY.out _ _).box (XZ.out.other gd.out.2.2.2.2.2.1 _ _) _ _⟩ ?_
      clear bb Xa X2 XY XZ Ra WY WZ
      rintro x30 ⟨bb, Xa, X2, XY, XZ, Ra, WY, WZ⟩
      replace bb := Lib.hid bb; replace Xa := Lib.hid Xa; replace X2 := Lib.hid X2; replace XY := Lib.hid XY; replace XZ := Lib.hid XZ; replace Ra := Lib.hid Ra; replace WY := Lib.hid WY; replace WZ := Lib.hid WZ
      obtain ⟨E1, hE1⟩ : ∃ E1, Hid (powE (-n) ((Q : Int)) = E1) := ⟨_, Lib.hid rfl⟩
      obtain ⟨E2, hE2⟩ : ∃ E2, Hid (powE (-n) (P) = E2) := ⟨_, Lib.hid rfl⟩
      have p00 := XY.out.c0; have p01 := XY.out.c1
      go_wp2_with fail
      clear p00 p01
      refine ((wPow_any zb zo zn zc ((Q : Int)) (-n) _ WY.out (grow_64 la.out.bot_lt) hk0.out hk1.out).mono fun _ _ => pow_split hE1.out).mono ?_
      rintro e v22 ⟨db, do_, dn, dc, rfl, D, hb⟩
      replace bb := Lib.hid (below_then bb.out (Nat.le_refl _) hb); replace Xa := Lib.hid (Xa.out.later hb); replace X2 := Lib.hid (X2.out.later hb); replace XY := Lib.hid (XY.out.later hb); replace XZ := Lib.hid (XZ.out.later hb); replace Ra := Lib.hid (Ra.out.below hb); replace WY := Lib.hid (WY.out.below hb); replace WZ := Lib.hid (WZ.out.below hb)
      by_cases h1 : E1 = 0
      · subst h1
        replace D := Lib.hid D
        clear hb
        go_upto_region 7 with fail
        refine gen_wp (fun w' => Below w.heap.size w w' ∧ Box3 w' w.heap.size (.bool ab) (.slice ap an ac) (.slice aq am ae) ∧ Box3 w' (w.heap.size + 1) (.bool false) (.slice none 0 0) (.slice none 0 0) ∧ Box w' Y (.bool zb) (.slice zo zn zc) ∧ Box w' Z (.bool yb) (.slice yo yn yc) ∧ Box w' v22.heap.size (.bool db) (.slice do_ dn dc) ∧ Rt w' ab ap an ac aq am ae P Q ∧ Whole w' zb zo zn zc Q ∧ Whole w' yb yo yn yc P ∧ Right w' db do_ dn dc (powV (-n) ((Q : Int))))
          ⟨bb.out.alloc bb.out.size _, Xa.out.alloc _, X2.out.alloc _, XY.out.alloc _, XZ.out.alloc _, Box.new _ _ _ rfl, Ra.out.alloc _, WY.out.alloc _, WZ.out.alloc _, D.out.alloc _⟩ ?_
        clear bb Xa X2 XY XZ Ra WY WZ D
        rintro x22 ⟨bb, Xa, X2, XY, XZ, Xd, Ra, WY, WZ, D⟩
        replace bb := Lib.hid bb; replace Xa := Lib.hid Xa; replace X2 := Lib.hid X2; replace XY := Lib.hid XY; replace XZ := Lib.hid XZ; replace Xd := Lib.hid Xd; replace Ra := Lib.hid Ra; replace WY := Lib.hid WY; replace WZ := Lib.hid WZ; replace D := Lib.hid D
        go_upto_region 9 with fail
        have p00 := XZ.out.c0; have p01 := XZ.out.c1
        go_wp2_with fail
        clear p00 p01
        refine ((wPow_any yb yo yn yc (P) (-n) _ WZ.out (grow_64 la.out.abs_lt) hk0.out hk1.out).mono fun _ _ => pow_split hE2.out).mono ?_
        rintro e v23 ⟨eb, eo, en, ec, rfl, E, hb⟩
        replace bb := Lib.hid (below_then bb.out (Nat.le_refl _) hb); replace Xa := Lib.hid (Xa.out.later hb); replace X2 := Lib.hid (X2.out.later hb); replace XY := Lib.hid (XY.out.later hb); replace XZ := Lib.hid (XZ.out.later hb); replace Xd := Lib.hid (Xd.out.later hb); replace Ra := Lib.hid (Ra.out.below hb); replace WY := Lib.hid (WY.out.below hb); replace WZ := Lib.hid (WZ.out.below hb); replace D := Lib.hid (D.out.below hb)
        by_cases h2 : E2 = 0
        · subst h2
          replace E := Lib.hid E
          clear hb
          go_upto_region 10 with fail
          refine gen_wp (fun w' => Below w.heap.size w w' ∧ Box3 w' w.heap.size (.bool ab) (.slice ap an ac) (.slice aq am ae) ∧ Box3 w' (w.heap.size + 1) (.bool false) (.slice none 0 0) (.slice none 0 0) ∧ Box w' Y (.bool zb) (.slice zo zn zc) ∧ Box w' Z (.bool yb) (.slice yo yn yc) ∧ Box w' v22.heap.size (.bool db) (.slice do_ dn dc) ∧ Box w' v23.heap.size (.bool eb) (.slice eo en ec) ∧ Rt w' ab ap an ac aq am ae P Q ∧ Whole w' zb zo zn zc Q ∧ Whole w' yb yo yn yc P ∧ Right w' db do_ dn dc (powV (-n) ((Q : Int))) ∧ Right w' eb eo en ec (powV (-n) (P)))
            ⟨bb.out.alloc bb.out.size _, Xa.out.alloc _, X2.out.alloc _, XY.out.alloc _, XZ.out.alloc _, Xd.out.alloc _, Box.new _ _ _ rfl, Ra.out.alloc _, WY.out.alloc _, WZ.out.alloc _, D.out.alloc _, E.out.alloc _⟩ ?_
          clear bb Xa X2 XY XZ Xd Ra WY WZ D E
          rintro x23 ⟨bb, Xa, X2, XY, XZ, Xd, Xe, Ra, WY, WZ, D, E⟩
          replace bb := Lib.hid bb; replace Xa := Lib.hid Xa; replace X2 := Lib.hid X2; replace XY := Lib.hid XY; replace XZ := Lib.hid XZ; replace Xd := Lib.hid Xd; replace Xe := Lib.hid Xe; replace Ra := Lib.hid Ra; replace WY := Lib.hid WY; replace WZ := Lib.hid WZ; replace D := Lib.hid D; replace E := Lib.hid E
          go_upto_region 12 with fail
          have p00 := Xd.out.c0; have p01 := Xd.out.c1; have p10 := Xe.out.c0; have p11 := Xe.out.c1
          go_wp2_with fail
          clear p00 p01 p10 p11
          refine (make_any db eb do_ eo dn dc en ec (powV (-n) ((Q : Int))) (powV (-n) (P)) _ (D.out.whole32 (powV_lt (-n) ((Q : Int)))) (E.out.whole32 (powV_lt (-n) (P)))).mono ?_
          rintro e v24 ⟨zb, zp, zn, zc, zq, zm, ze, rfl, N, hb⟩
          replace bb := Lib.hid (below_then bb.out (Nat.le_refl _) hb); replace Xa := Lib.hid (Xa.out.later hb); replace X2 := Lib.hid (X2.out.later hb); replace XY := Lib.hid (XY.out.later hb); replace XZ := Lib.hid (XZ.out.later hb); replace Xd := Lib.hid (Xd.out.later hb); replace Xe := Lib.hid (Xe.out.later hb); replace Ra := Lib.hid (Ra.out.below hb); replace WY := Lib.hid (WY.out.below hb); replace WZ := Lib.hid (WZ.out.below hb); replace D := Lib.hid (D.out.below hb); replace E := Lib.hid (E.out.below hb)
          replace N := Lib.hid N
          clear hb Xa XY XZ Xd Xe Ra WY WZ D E
          replace X2 := X2.out
          replace bb := bb.out
          have q0 := X2.c0; have q1 := X2.c1; have q2 := X2.c2; have q3 := X2.fr 0; have q4 := X2.fr 1; have q5 := X2.fr 2
          have zz := X2.set (.bool zb) (.slice zp zn zc) (.slice zq zm ze)
          have e0 := zz.c0; have e1 := zz.c1; have e2 := zz.c2
          have Y2 := Lib.hid X2; have bb' := Lib.hid bb
          clear zz X2 bb
          go_wp2_with fail
          refine bodyPost_ret (v := .tuple #[.agg #[.bool zb, .slice zp zn zc, .slice zq zm ze], .int .i64 (mkE (powV (-n) ((Q : Int))) (powV (-n) (P)))]) (by simp [results, Try.results32, go_sem, e0, e1, e2]) rfl ?_
          exact pow_neg hn.out hPn.out (pw_ok hE1.out hE2.out (ResPost.stored N.out Y2.out bb'.out (by omega)))
        · replace h2 := Lib.hid h2
          replace E := Lib.hid E
          clear hb
          go_upto_region 10 with fail
          refine gen_wp (fun w' => Below w.heap.size w w' ∧ Box3 w' w.heap.size (.bool ab) (.slice ap an ac) (.slice aq am ae) ∧ Box3 w' (w.heap.size + 1) (.bool false) (.slice none 0 0) (.slice none 0 0) ∧ Box w' Y (.bool zb) (.slice zo zn zc) ∧ Box w' Z (.bool yb) (.slice yo yn yc) ∧ Box w' v22.heap.size (.bool db) (.slice do_ dn dc) ∧ Box w' v23.heap.size (.bool eb) (.slice eo en ec) ∧ Rt w' ab ap an ac aq am ae P Q ∧ Whole w' zb zo zn zc Q ∧ Whole w' yb yo yn yc P ∧ Right w' db do_ dn dc (powV (-n) ((Q : Int))) ∧ Right w' eb eo en ec (powV (-n) (P)))
            ⟨bb.out.alloc bb.out.size _, Xa.out.alloc _, X2.out.alloc _, XY.out.alloc _, XZ.out.alloc _, Xd.out.alloc _, Box.new _ _ _ rfl, Ra.out.alloc _, WY.out.alloc _, WZ.out.alloc _, D.out.alloc _, E.out.alloc _⟩ ?_
          clear bb Xa X2 XY XZ Xd Ra WY WZ D E
          rintro x23 ⟨bb, Xa, X2, XY, XZ, Xd, Xe, Ra, WY, WZ, D, E⟩
          replace bb := Lib.hid bb; replace Xa := Lib.hid Xa; replace X2 := Lib.hid X2; replace XY := Lib.hid XY; replace XZ := Lib.hid XZ; replace Xd := Lib.hid Xd; replace Xe := Lib.hid Xe; replace Ra := Lib.hid Ra; replace WY := Lib.hid WY; replace WZ := Lib.hid WZ; replace D := Lib.hid D; replace E := Lib.hid E
          have hz := h2.out
          clear Xa XY XZ Xd Xe Ra WY WZ D E
          replace X2 := X2.out
          replace bb := bb.out
          have q0 := X2.c0; have q1 := X2.c1; have q2 := X2.c2; have q3 := X2.fr 0; have q4 := X2.fr 1; have q5 := X2.fr 2
          have zz := X2.set (.bool false) (.slice none 0 0) (.slice none 0 0)
          have e0 := zz.c0; have e1 := zz.c1; have e2 := zz.c2
          have Y2 := Lib.hid X2; have bb' := Lib.hid bb
          clear zz X2 bb
          go_wp2_with fail
          refine bodyPost_ret (v := .tuple #[.agg #[.bool false, .slice none 0 0, .slice none 0 0], .int .i64 (E2)]) (by simp [results, Try.results32, go_sem, e0, e1, e2]) rfl ?_
          exact pow_neg hn.out hPn.out (pw_two hE1.out hE2.out h2.out (ResPost.stored (rt_zero _) Y2.out bb'.out (by omega)))
      · replace h1 := Lib.hid h1
        replace D := Lib.hid D
        clear hb
        go_upto_region 7 with fail
        refine gen_wp (fun w' => Below w.heap.size w w' ∧ Box3 w' w.heap.size (.bool ab) (.slice ap an ac) (.slice aq am ae) ∧ Box3 w' (w.heap.size + 1) (.bool false) (.slice none 0 0) (.slice none 0 0) ∧ Box w' Y (.bool zb) (.slice zo zn zc) ∧ Box w' Z (.bool yb) (.slice yo yn yc) ∧ Box w' v22.heap.size (.bool db) (.slice do_ dn dc) ∧ Rt w' ab ap an ac aq am ae P Q ∧ Whole w' zb zo zn zc Q ∧ Whole w' yb yo yn yc P ∧ Right w' db do_ dn dc (powV (-n) ((Q : Int))))
          ⟨bb.out.alloc bb.out.size _, Xa.out.alloc _, X2.out.alloc _, XY.out.alloc _, XZ.out.alloc _, Box.new _ _ _ rfl, Ra.out.alloc _, WY.out.alloc _, WZ.out.alloc _, D.out.alloc _⟩ ?_
        clear bb Xa X2 XY XZ Ra WY WZ D
        rintro x22 ⟨bb, Xa, X2, XY, XZ, Xd, Ra, WY, WZ, D⟩
        replace bb := Lib.hid bb; replace Xa := Lib.hid Xa; replace X2 := Lib.hid X2; replace XY := Lib.hid XY; replace XZ := Lib.hid XZ; replace Xd := Lib.hid Xd; replace Ra := Lib.hid Ra; replace WY := Lib.hid WY; replace WZ := Lib.hid WZ; replace D := Lib.hid D
        have hz := h1.out
        clear Xa XY XZ Xd Ra WY WZ D
        replace X2 := X2.out
        replace bb := bb.out
        have q0 := X2.c0; have q1 := X2.c1; have q2 := X2.c2; have q3 := X2.fr 0; have q4 := X2.fr 1; have q5 := X2.fr 2
        have zz := X2.set (.bool false) (.slice none 0 0) (.slice none 0 0)
        have e0 := zz.c0; have e1 := zz.c1; have e2 := zz.c2
        have Y2 := Lib.hid X2; have bb' := Lib.hid bb
        clear zz X2 bb
        go_wp2_with fail
        refine bodyPost_ret (v := .tuple #[.agg #[.bool false, .slice none 0 0, .slice none 0 0], .int .i64 (E1)]) (by simp [results, Try.results32, go_sem, e0, e1, e2]) rfl ?_
        exact pow_neg hn.out hPn.out (pw_one hE1.out h1.out (ResPost.stored (rt_zero _) Y2.out bb'.out (by omega)))
    · have hd : decide (n < 0) = false := decide_eq_false hn
      replace hn := Lib.hid hn
      go_upto_region 6 with fail
      clear hd
      obtain ⟨E1, hE1⟩ : ∃ E1, Hid (powE (n) (P) = E1) := ⟨_, Lib.hid rfl⟩
      obtain ⟨E2, hE2⟩ : ∃ E2, Hid (powE (n) ((Q : Int)) = E2) := ⟨_, Lib.hid rfl⟩
      have p00 := XY.out.c0; have p01 := XY.out.c1
      go_wp2_with fail
      clear p00 p01
      refine ((wPow_any yb yo yn yc (P) (n) _ WY.out (grow_64 la.out.abs_lt) n0.out n1.out).mono fun _ _ => pow_split hE1.out).mono ?_
      rintro e v21 ⟨db, do_, dn, dc, rfl, D, hb⟩
      replace bb := Lib.hid (below_then bb.out (Nat.le_refl _) hb); replace Xa := Lib.hid (Xa.out.later hb); replace X2 := Lib.hid (X2.out.later hb); replace XY := Lib.hid (XY.out.later hb); replace XZ := Lib.hid (XZ.out.later hb); replace Ra := Lib.hid (Ra.out.below hb); replace WY := Lib.hid (WY.out.below hb); replace WZ := Lib.hid (WZ.out.below hb)
      by_cases h1 : E1 = 0
      · subst h1
        replace D := Lib.hid D
        clear hb
        go_upto_region 7 with fail
        refine gen_wp (fun w' => Below w.heap.size w w' ∧ Box3 w' w.heap.size (.bool ab) (.slice ap an ac) (.slice aq am ae) ∧ Box3 w' (w.heap.size + 1) (.bool false) (.slice none 0 0) (.slice none 0 0) ∧ Box w' Y (.bool yb) (.slice yo yn yc) ∧ Box w' Z (.bool zb) (.slice zo zn zc) ∧ Box w' v21.heap.size (.bool db) (.slice do_ dn dc) ∧ Rt w' ab ap an ac aq am ae P Q ∧ Whole w' yb yo yn yc P ∧ Whole w' zb zo zn zc Q ∧ Right w' db do_ dn dc (powV (n) (P)))
          ⟨bb.out.alloc bb.out.size _, Xa.out.alloc _, X2.out.alloc _, XY.out.alloc _, XZ.out.alloc _, Box.new _ _ _ rfl, Ra.out.alloc _, WY.out.alloc _, WZ.out.alloc _, D.out.alloc _⟩ ?_
        clear bb Xa X2 XY XZ Ra WY WZ D
        rintro x21 ⟨bb, Xa, X2, XY, XZ, Xd, Ra, WY, WZ, D⟩
        replace bb := Lib.hid bb; replace Xa := Lib.hid Xa; replace X2 := Lib.hid X2; replace XY := Lib.hid XY; replace XZ := Lib.hid XZ; replace Xd := Lib.hid Xd; replace Ra := Lib.hid Ra; replace WY := Lib.hid WY; replace WZ := Lib.hid WZ; replace D := Lib.hid D
        go_upto_region 9 with fail
        have p00 := XZ.out.c0; have p01 := XZ.out.c1
        go_wp2_with fail
        clear p00 p01
        refine ((wPow_any zb zo zn zc ((Q : Int)) (n) _ WZ.out (grow_64 la.out.bot_lt) n0.out n1.out).mono fun _ _ => pow_split hE2.out).mono ?_
        rintro e v22 ⟨eb, eo, en, ec, rfl, E, hb⟩
        replace bb := Lib.hid (below_then bb.out (Nat.le_refl _) hb); replace Xa := Lib.hid (Xa.out.later hb); replace X2 := Lib.hid (X2.out.later hb); replace XY := Lib.hid (XY.out.later hb); replace XZ := Lib.hid (XZ.out.later hb); replace Xd := Lib.hid (Xd.out.later hb); replace Ra := Lib.hid (Ra.out.below hb); replace WY := Lib.hid (WY.out.below hb); replace WZ := Lib.hid (WZ.out.below hb); replace D := Lib.hid (D.out.below hb)
        by_cases h2 : E2 = 0
        · subst h2
          replace E := Lib.hid E
          clear hb
          go_upto_region 10 with fail
          refine gen_wp (fun w' => Below w.heap.size w w' ∧ Box3 w' w.heap.size (.bool ab) (.slice ap an ac) (.slice aq am ae) ∧ Box3 w' (w.heap.size + 1) (.bool false) (.slice none 0 0) (.slice none 0 0) ∧ Box w' Y (.bool yb) (.slice yo yn yc) ∧ Box w' Z (.bool zb) (.slice zo zn zc) ∧ Box w' v21.heap.size (.bool db) (.slice do_ dn dc) ∧ Box w' v22.heap.size (.bool eb) (.slice eo en ec) ∧ Rt w' ab ap an ac aq am ae P Q ∧ Whole w' yb yo yn yc P ∧ Whole w' zb zo zn zc Q ∧ Right w' db do_ dn dc (powV (n) (P)) ∧ Right w' eb eo en ec (powV (n) ((Q : Int))))
            ⟨bb.out.alloc bb.out.size _, Xa.out.alloc _, X2.out.alloc _, XY.out.alloc _, XZ.out.alloc _, Xd.out.alloc _, Box.new _ _ _ rfl, Ra.out.alloc _, WY.out.alloc _, WZ.out.alloc _, D.out.alloc _, E.out.alloc _⟩ ?_
          clear bb Xa X2 XY XZ Xd Ra WY WZ D E
          rintro x22 ⟨bb, Xa, X2, XY, XZ, Xd, Xe, Ra, WY, WZ, D, E⟩
          replace bb := Lib.hid bb; replace Xa := Lib.hid Xa; replace X2 := Lib.hid X2; replace XY := Lib.hid XY; replace XZ := Lib.hid XZ; replace Xd := Lib.hid Xd; replace Xe := Lib.hid Xe; replace Ra := Lib.hid Ra; replace WY := Lib.hid WY; replace WZ := Lib.hid WZ; replace D := Lib.hid D; replace E := Lib.hid E
          go_upto_region 12 with fail
          have p00 := Xd.out.c0; have p01 := Xd.out.c1; have p10 := Xe.out.c0; have p11 := Xe.out.c1
          go_wp2_with fail
          clear p00 p01 p10 p11
          refine (make_any db eb do_ eo dn dc en ec (powV (n) (P)) (powV (n) ((Q : Int))) _ (D.out.whole32 (powV_lt (n) (P))) (E.out.whole32 (powV_lt (n) ((Q : Int))))).mono ?_
          rintro e v23 ⟨zb, zp, zn, zc, zq, zm, ze, rfl, N, hb⟩
          replace bb := Lib.hid (below_then bb.out (Nat.le_refl _) hb); replace Xa := Lib.hid (Xa.out.later hb); replace X2 := Lib.hid (X2.out.later hb); replace XY := Lib.hid (XY.out.later hb); replace XZ := Lib.hid (XZ.out.later hb); replace Xd := Lib.hid (Xd.out.later hb); replace Xe := Lib.hid (Xe.out.later hb); replace Ra := Lib.hid (Ra.out.below hb); replace WY := Lib.hid (WY.out.below hb); replace WZ := Lib.hid (WZ.out.below hb); replace D := Lib.hid (D.out.below hb); replace E := Lib.hid (E.out.below hb)
          replace N := Lib.hid N
          clear hb Xa XY XZ Xd Xe Ra WY WZ D E
          replace X2 := X2.out
          replace bb := bb.out
          have q0 := X2.c0; have q1 := X2.c1; have q2 := X2.c2; have q3 := X2.fr 0; have q4 := X2.fr 1; have q5 := X2.fr 2
          have zz := X2.set (.bool zb) (.slice zp zn zc) (.slice zq zm ze)
          have e0 := zz.c0; have e1 := zz.c1; have e2 := zz.c2
          have Y2 := Lib.hid X2; have bb' := Lib.hid bb
          clear zz X2 bb
          go_wp2_with fail
          refine bodyPost_ret (v := .tuple #[.agg #[.bool zb, .slice zp zn zc, .slice zq zm ze], .int .i64 (mkE (powV (n) (P)) (powV (n) ((Q : Int))))]) (by simp [results, Try.results32, go_sem, e0, e1, e2]) rfl ?_
          exact pow_pos (by have := hn.out; omega) (pw_ok hE1.out hE2.out (ResPost.stored N.out Y2.out bb'.out (by omega)))
        · replace h2 := Lib.hid h2
          replace E := Lib.hid E
          clear hb
          go_upto_region 10 with fail
          refine gen_wp (fun w' => Below w.heap.size w w' ∧ Box3 w' w.heap.size (.bool ab) (.slice ap an ac) (.slice aq am ae) ∧ Box3 w' (w.heap.size + 1) (.bool false) (.slice none 0 0) (.slice none 0 0) ∧ Box w' Y (.bool yb) (.slice yo yn yc) ∧ Box w' Z (.bool zb) (.slice zo zn zc) ∧ Box w' v21.heap.size (.bool db) (.slice do_ dn dc) ∧ Box w' v22.heap.size (.bool eb) (.slice eo en ec) ∧ Rt w' ab ap an ac aq am ae P Q ∧ Whole w' yb yo yn yc P ∧ Whole w' zb zo zn zc Q ∧ Right w' db do_ dn dc (powV (n) (P)) ∧ Right w' eb eo en ec (powV (n) ((Q : Int))))
            ⟨bb.out.alloc bb.out.size _, Xa.out.alloc _, X2.out.alloc _, XY.out.alloc _, XZ.out.alloc _, Xd.out.alloc _, Box.new _ _ _ rfl, Ra.out.alloc _, WY.out.alloc _, WZ.out.alloc _, D.out.alloc _, E.out.alloc _⟩ ?_
          clear bb Xa X2 XY XZ Xd Ra WY WZ D E
          rintro x22 ⟨bb, Xa, X2, XY, XZ, Xd, Xe, Ra, WY, WZ, D, E⟩
          replace bb := Lib.hid bb; replace Xa := Lib.hid Xa; replace X2 := Lib.hid X2; replace XY := Lib.hid XY; replace XZ := Lib.hid XZ; replace Xd := Lib.hid Xd; replace Xe := Lib.hid Xe; replace Ra := Lib.hid Ra; replace WY := Lib.hid WY; replace WZ := Lib.hid WZ; replace D := Lib.hid D; replace E := Lib.hid E
          have hz := h2.out
          clear Xa XY XZ Xd Xe Ra WY WZ D E
          replace X2 := X2.out
          replace bb := bb.out
          have q0 := X2.c0; have q1 := X2.c1; have q2 := X2.c2; have q3 := X2.fr 0; have q4 := X2.fr 1; have q5 := X2.fr 2
          have zz := X2.set (.bool false) (.slice none 0 0) (.slice none 0 0)
          have e0 := zz.c0; have e1 := zz.c1; have e2 := zz.c2
          have Y2 := Lib.hid X2; have bb' := Lib.hid bb
          clear zz X2 bb
          go_wp2_with fail
          refine bodyPost_ret (v := .tuple #[.agg #[.bool false, .slice none 0 0, .slice none 0 0], .int .i64 (E2)]) (by simp [results, Try.results32, go_sem, e0, e1, e2]) rfl ?_
          exact pow_pos (by have := hn.out; omega) (pw_two hE1.out hE2.out h2.out (ResPost.stored (rt_zero _) Y2.out bb'.out (by omega)))
      · replace h1 := Lib.hid h1
        replace D := Lib.hid D
        clear hb
        go_upto_region 7 with fail
        refine gen_wp (fun w' => Below w.heap.size w w' ∧ Box3 w' w.heap.size (.bool ab) (.slice ap an ac) (.slice aq am ae) ∧ Box3 w' (w.heap.size + 1) (.bool false) (.slice none 0 0) (.slice none 0 0) ∧ Box w' Y (.bool yb) (.slice yo yn yc) ∧ Box w' Z (.bool zb) (.slice zo zn zc) ∧ Box w' v21.heap.size (.bool db) (.slice do_ dn dc) ∧ Rt w' ab ap an ac aq am ae P Q ∧ Whole w' yb yo yn yc P ∧ Whole w' zb zo zn zc Q ∧ Right w' db do_ dn dc (powV (n) (P)))
          ⟨bb.out.alloc bb.out.size _, Xa.out.alloc _, X2.out.alloc _, XY.out.alloc _, XZ.out.alloc _, Box.new _ _ _ rfl, Ra.out.alloc _, WY.out.alloc _, WZ.out.alloc _, D.out.alloc _⟩ ?_
        clear bb Xa X2 XY XZ Ra WY WZ D
        rintro x21 ⟨bb, Xa, X2, XY, XZ, Xd, Ra, WY, WZ, D⟩
        replace bb := Lib.hid bb; replace Xa := Lib.hid Xa; replace X2 := Lib.hid X2; replace XY := Lib.hid XY; replace XZ := Lib.hid XZ; replace Xd := Lib.hid Xd; replace Ra := Lib.hid Ra; replace WY := Lib.hid WY; replace WZ := Lib.hid WZ; replace D := Lib.hid D
        have hz := h1.out
        clear Xa XY XZ Xd Ra WY WZ D
        replace X2 := X2.out
        replace bb := bb.out
        have q0 := X2.c0; have q1 := X2.c1; have q2 := X2.c2; have q3 := X2.fr 0; have q4 := X2.fr 1; have q5 := X2.fr 2
        have zz := X2.set (.bool false) (.slice none 0 0) (.slice none 0 0)
        have e0 := zz.c0; have e1 := zz.c1; have e2 := zz.c2
        have Y2 := Lib.hid X2; have bb' := Lib.hid bb
        clear zz X2 bb
        go_wp2_with fail
        refine bodyPost_ret (v := .tuple #[.agg #[.bool false, .slice none 0 0, .slice none 0 0], .int .i64 (E1)]) (by simp [results, Try.results32, go_sem, e0, e1, e2]) rfl ?_
        exact pow_pos (by have := hn.out; omega) (pw_one hE1.out h1.out (ResPost.stored (rt_zero _) Y2.out bb'.out (by omega)))

set_option maxRecDepth 20000 in
set_option maxHeartbeats 4000000 in
theorem rPow4_any (ab : Bool) (ap aq : Option Addr) (an ac am ae : Nat) (P : Int) (Q : Nat) (n : Int) (w : World) (Ra : Rt w ab ap an ac aq am ae P Q) (la : Low P Q) (n0 : -9223372036854775808 ≤ n) (n1 : n ≤ 9223372036854775807) :
    Calls Try.prog 33 #[.agg #[.bool ab, .slice ap an ac, .slice aq am ae], .int .i64 n] w (NumPowPost P Q n w) := by
  replace n0 := Lib.hid n0; replace n1 := Lib.hid n1
  replace Ra := Lib.hid Ra; replace la := Lib.hid la
  go_enter Try.func33, Try.ntmps33
  go_upto_region 1 with fail
  refine gen_wp (fun w' => Below w.heap.size w w' ∧ Box3 w' w.heap.size (.bool ab) (.slice ap an ac) (.slice aq am ae) ∧ Box3 w' (w.heap.size + 1) (.bool false) (.slice none 0 0) (.slice none 0 0))
    ⟨(((Below.refl _ _).alloc (Nat.le_refl _) _).alloc (by first | (simp; done) | (simp; omega)) _), ((Box3.new _ _ _ _ rfl).alloc _), (Box3.new _ _ _ _ (by first | (simp; done) | (simp; omega)))⟩ ?_
  rintro u0 ⟨bb, Xa, X2⟩
  replace Ra := Ra.out.below bb
  replace bb := Lib.hid bb; replace Xa := Lib.hid Xa; replace X2 := Lib.hid X2; replace Ra := Lib.hid Ra
  replace bb := bb.out; replace Xa := Xa.out; replace X2 := X2.out; replace Ra := Ra.out
  go_cut [6, 7] from 16 to 58 (fun s t wx => ∃ Y Z yb yo yn yc zb zo zn zc, s = .pointer (some ⟨Y, 0, none⟩) ∧ t = .pointer (some ⟨Z, 0, none⟩) ∧ Box wx Y (.bool yb) (.slice yo yn yc) ∧ Box wx Z (.bool zb) (.slice zo zn zc) ∧ Box3 wx w.heap.size (.bool ab) (.slice ap an ac) (.slice aq am ae) ∧ Box3 wx (w.heap.size + 1) (.bool false) (.slice none 0 0) (.slice none 0 0) ∧ Rt wx ab ap an ac aq am ae P Q ∧ Whole wx yb yo yn yc P ∧ Whole wx zb zo zn zc Q ∧ Below w.heap.size w wx ∧ w.heap.size + 1 < Y ∧ w.heap.size + 1 < Z ∧ Y ≠ Z)
  case first =>
    have lXa := Xa.lt
    have lX2 := X2.lt
    have bs := bb.size
    have sb0 := True.intro
    go_region_held3 (fun w' => w'.cell? ⟨w.heap.size, 0, none⟩ = some (.bool ab) ∧ w'.cell? ⟨w.heap.size, 1, none⟩ = some (.slice ap an ac) ∧ w'.cell? ⟨w.heap.size, 2, none⟩ = some (.slice aq am ae))
      (first | with_reducible exact ⟨(Xa.drew).c0, (Xa.drew).c1, (Xa.drew).c2⟩ | with_reducible exact ⟨((Xa.alloc _).drew).c0, ((Xa.alloc _).drew).c1, ((Xa.alloc _).drew).c2⟩ | with_reducible exact ⟨(((Xa.alloc _).alloc _).drew).c0, (((Xa.alloc _).alloc _).drew).c1, (((Xa.alloc _).alloc _).drew).c2⟩ | with_reducible exact ⟨Xa.c0, Xa.c1, Xa.c2⟩ | with_reducible exact ⟨(Xa.alloc _).c0, (Xa.alloc _).c1, (Xa.alloc _).c2⟩ | with_reducible exact ⟨((Xa.alloc _).alloc _).c0, ((Xa.alloc _).alloc _).c1, ((Xa.alloc _).alloc _).c2⟩ | with_reducible exact ⟨(Xa.other (by omega) _ _).c0, (Xa.other (by omega) _ _).c1, (Xa.other (by omega) _ _).c2⟩ | with_reducible exact ⟨((Xa.other (by omega) _ _).alloc _).c0, ((Xa.other (by omega) _ _).alloc _).c1, ((Xa.other (by omega) _ _).alloc _).c2⟩ | with_reducible exact ⟨((Xa.other (by omega) _ _).other (by omega) _ _).c0, ((Xa.other (by omega) _ _).other (by omega) _ _).c1, ((Xa.other (by omega) _ _).other (by omega) _ _).c2⟩ | go_keep)
      (first
      | (go_at_call 39; clear sb0; refine (rTop_any ab ap aq an ac am ae P _ ?_).mono ?_; (first | with_reducible exact ((Ra.drew)).upper la.out | with_reducible exact (((Ra.alloc _).drew)).upper la.out | with_reducible exact ((((Ra.alloc _).alloc _).drew)).upper la.out); rintro e u1 ⟨yb, yo, yn, yc, rfl, h1, hb⟩; have hc : Below u0.heap.size u0 u1 := (by first | exact (Below.refl _ _).drew.trans hb | exact ((Below.refl _ _).alloc (by first | exact Nat.le_refl _ | (simp; done) | (simp; omega)) _).drew.trans (hb.mono (by first | (simp; done) | (simp; omega))) | exact (((Below.refl _ _).alloc (by first | exact Nat.le_refl _ | (simp; done) | (simp; omega)) _).alloc (by first | exact Nat.le_refl _ | (simp; done) | (simp; omega)) _).drew.trans (hb.mono (by first | (simp; done) | (simp; omega)))); have hz0 := hc.size; have Xa := Xa.later hc; have X2 := X2.later hc; have Ra := Ra.below hc; have bb := below_then bb (Nat.le_refl _) hc; (first | (with_reducible have mm := made2' hb; obtain ⟨m10, m11⟩ := mm) | (with_reducible have m10 := made1' hb) | skip); (try have k10 := m10.lt); (try have k11 := m11.lt); clear hb hc; have sb1 := True.intro)
      | (go_at_call 40; clear sb1; refine (rBot_any ab ap aq an ac am ae Q _ ?_).mono ?_; (first | with_reducible exact (Ra).lower la.out | with_reducible exact ((Ra.alloc _)).lower la.out | with_reducible exact (((Ra.alloc _).alloc _)).lower la.out); rintro e u2 ⟨zb, zo, zn, zc, rfl, h2, hb⟩; have hc : Below u1.heap.size u1 u2 := (by first | with_reducible exact hb | exact ((Below.refl _ _).alloc (by first | exact Nat.le_refl _ | (simp; done) | (simp; omega)) _).trans (hb.mono (by first | (simp; done) | (simp; omega))) | exact (((Below.refl _ _).alloc (by first | exact Nat.le_refl _ | (simp; done) | (simp; omega)) _).alloc (by first | exact Nat.le_refl _ | (simp; done) | (simp; omega)) _).trans (hb.mono (by first | (simp; done) | (simp; omega)))); have hz1 := hc.size; have Xa := Xa.later hc; have X2 := X2.later hc; have Ra := Ra.below hc; have h1 := h1.below hc; have bb := below_then bb (Nat.le_refl _) hc; (try have m10 := m10.later hc); (try have m11 := m11.later hc); (first | (with_reducible have mm := made2 hb; obtain ⟨m20, m21⟩ := mm) | (with_reducible have m20 := made1 hb) | skip); (try have k10 := m10.lt); (try have k11 := m11.lt); (try have k20 := m20.lt); (try have k21 := m21.lt); (try (have f100 := m10.c0; have f101 := m10.c1; have f102 := m10.fr 0; have f103 := m10.fr 1)); (try (have f110 := m11.c0; have f111 := m11.c1; have f112 := m11.fr 0; have f113 := m11.fr 1)); (try (have f200 := m20.c0; have f201 := m20.c1; have f202 := m20.fr 0; have f203 := m20.fr 1)); (try (have f210 := m21.c0; have f211 := m21.c1; have f212 := m21.fr 0; have f213 := m21.fr 1)); clear hb hc; have sb2 := True.intro))
    · go_wp2_with fail; go_meet; exact ⟨_, _, yb, yo, yn, yc, zb, zo, zn, zc, rfl, rfl, ((Box.new _ _ _ (by first | (simp; done) | rfl)).alloc _), (Box.new _ _ _ (by first | (simp; done) | rfl)), ((Xa.alloc _).alloc _), ((X2.alloc _).alloc _), ((Ra.alloc _).alloc _), (((h1.alloc _).alloc _)).whole32 la.out.abs_lt, (((h2.alloc _).alloc _)).whole32 la.out.bot_lt, (Below.alloc (Below.alloc bb (by first | omega | (simp; omega) | (simp; done)) _) (by first | omega | (simp; omega) | (simp; done)) _), (by first | omega | (simp; omega)), (by first | omega | (simp; omega)), (by first | omega | (simp; omega) | simp)⟩
    · go_wp2_with fail; go_meet; exact ⟨_, _, yb, yo, yn, yc, zb, zo, zn, zc, rfl, rfl, (Box.new _ _ _ (by first | (simp; done) | rfl)), ((Box.new _ _ _ (by first | (simp; done) | rfl)).alloc _), ((Xa.alloc _).alloc _), ((X2.alloc _).alloc _), ((Ra.alloc _).alloc _), (((h1.alloc _).alloc _)).whole32 la.out.abs_lt, (((h2.alloc _).alloc _)).whole32 la.out.bot_lt, (Below.alloc (Below.alloc bb (by first | omega | (simp; omega) | (simp; done)) _) (by first | omega | (simp; omega) | (simp; done)) _), (by first | omega | (simp; omega)), (by first | omega | (simp; omega)), (by first | omega | (simp; omega) | simp)⟩
    · go_wp2_with fail; go_meet; exact ⟨_, _, yb, yo, yn, yc, zb, zo, zn, zc, rfl, rfl, ((m20.set _ _).alloc _), (Box.new _ _ _ (by first | (simp; done) | rfl)), ((Xa.other (by omega) _ _).alloc _), ((X2.other (by omega) _ _).alloc _), ((Ra.box m20 _ _).alloc _), (((h1.box m20 _ _).alloc _)).whole32 la.out.abs_lt, (((h2.box m20 _ _).alloc _)).whole32 la.out.bot_lt, (Below.alloc (below_set bb (by omega) _ _) (by first | omega | (simp; omega) | (simp; done)) _), (by first | omega | (simp; omega)), (by first | omega | (simp; omega)), (by first | omega | (simp; omega) | simp)⟩
    · go_wp2_with fail; go_meet; exact ⟨_, _, yb, yo, yn, yc, zb, zo, zn, zc, rfl, rfl, ((m20.set _ _).other (by omega) _ _), ((m21.other (by omega) _ _).set _ _), ((Xa.other (by omega) _ _).other (by omega) _ _), ((X2.other (by omega) _ _).other (by omega) _ _), ((Ra.box m20 _ _).box (m21.other (by omega) _ _) _ _), (((h1.box m20 _ _).box (m21.other (by omega) _ _) _ _)).whole32 la.out.abs_lt, (((h2.box m20 _ _).box (m21.other (by omega) _ _) _ _)).whole32 la.out.bot_lt, (below_set (below_set bb (by omega) _ _) (by omega) _ _), (by first | omega | (simp; omega)), (by first | omega | (simp; omega)), (by first | omega | (simp; omega) | simp)⟩
    · go_wp2_with fail; go_meet; exact ⟨_, _, yb, yo, yn, yc, zb, zo, zn, zc, rfl, rfl, (Box.new _ _ _ (by first | (simp; done) | rfl)), ((m20.set _ _).alloc _), ((Xa.other (by omega) _ _).alloc _), ((X2.other (by omega) _ _).alloc _), ((Ra.box m20 _ _).alloc _), (((h1.box m20 _ _).alloc _)).whole32 la.out.abs_lt, (((h2.box m20 _ _).alloc _)).whole32 la.out.bot_lt, (Below.alloc (below_set bb (by omega) _ _) (by first | omega | (simp; omega) | (simp; done)) _), (by first | omega | (simp; omega)), (by first | omega | (simp; omega)), (by first | omega | (simp; omega) | simp)⟩
    · go_wp2_with fail; go_meet; exact ⟨_, _, yb, yo, yn, yc, zb, zo, zn, zc, rfl, rfl, ((m21.set _ _).other (by omega) _ _), ((m20.other (by omega) _ _).set _ _), ((Xa.other (by omega) _ _).other (by omega) _ _), ((X2.other (by omega) _ _).other (by omega) _ _), ((Ra.box m21 _ _).box (m20.other (by omega) _ _) _ _), (((h1.box m21 _ _).box (m20.other (by omega) _ _) _ _)).whole32 la.out.abs_lt, (((h2.box m21 _ _).box (m20.other (by omega) _ _) _ _)).whole32 la.out.bot_lt, (below_set (below_set bb (by omega) _ _) (by omega) _ _), (by first | omega | (simp; omega)), (by first | omega | (simp; omega)), (by first | omega | (simp; omega) | simp)⟩
    · go_wp2_with fail; go_meet; exact ⟨_, _, yb, yo, yn, yc, zb, zo, zn, zc, rfl, rfl, ((m10.set _ _).alloc _), (Box.new _ _ _ (by first | (simp; done) | rfl)), ((Xa.other (by omega) _ _).alloc _), ((X2.other (by omega) _ _).alloc _), ((Ra.box m10 _ _).alloc _), (((h1.box m10 _ _).alloc _)).whole32 la.out.abs_lt, (((h2.box m10 _ _).alloc _)).whole32 la.out.bot_lt, (Below.alloc (below_set bb (by omega) _ _) (by first | omega | (simp; omega) | (simp; done)) _), (by first | omega | (simp; omega)), (by first | omega | (simp; omega)), (by first | omega | (simp; omega) | simp)⟩
    · go_wp2_with fail; go_meet; exact ⟨_, _, yb, yo, yn, yc, zb, zo, zn, zc, rfl, rfl, ((m10.set _ _).other (by omega) _ _), ((m20.other (by omega) _ _).set _ _), ((Xa.other (by omega) _ _).other (by omega) _ _), ((X2.other (by omega) _ _).other (by omega) _ _), ((Ra.box m10 _ _).box (m20.other (by omega) _ _) _ _), (((h1.box m10 _ _).box (m20.other (by omega) _ _) _ _)).whole32 la.out.abs_lt, (((h2.box m10 _ _).box (m20.other (by omega) _ _) _ _)).whole32 la.out.bot_lt, (below_set (below_set bb (by omega) _ _) (by omega) _ _), (by first | omega | (simp; omega)), (by first | omega | (simp; omega)), (by first | omega | (simp; omega) | simp)⟩
    · go_wp2_with fail; go_meet; exact ⟨_, _, yb, yo, yn, yc, zb, zo, zn, zc, rfl, rfl, ((m10.set _ _).other (by omega) _ _), ((m11.other (by omega) _ _).set _ _), ((Xa.other (by omega) _ _).other (by omega) _ _), ((X2.other (by omega) _ _).other (by omega) _ _), ((Ra.box m10 _ _).box (m11.other (by omega) _ _) _ _), (((h1.box m10 _ _).box (m11.other (by omega) _ _) _ _)).whole32 la.out.abs_lt, (((h2.box m10 _ _).box (m11.other (by omega) _ _) _ _)).whole32 la.out.bot_lt, (below_set (below_set bb (by omega) _ _) (by omega) _ _), (by first | omega | (simp; omega)), (by first | omega | (simp; omega)), (by first | omega | (simp; omega) | simp)⟩
    · go_wp2_with fail; go_meet; exact ⟨_, _, yb, yo, yn, yc, zb, zo, zn, zc, rfl, rfl, (Box.new _ _ _ (by first | (simp; done) | rfl)), ((m10.set _ _).alloc _), ((Xa.other (by omega) _ _).alloc _), ((X2.other (by omega) _ _).alloc _), ((Ra.box m10 _ _).alloc _), (((h1.box m10 _ _).alloc _)).whole32 la.out.abs_lt, (((h2.box m10 _ _).alloc _)).whole32 la.out.bot_lt, (Below.alloc (below_set bb (by omega) _ _) (by first | omega | (simp; omega) | (simp; done)) _), (by first | omega | (simp; omega)), (by first | omega | (simp; omega)), (by first | omega | (simp; omega) | simp)⟩
    · go_wp2_with fail; go_meet; exact ⟨_, _, yb, yo, yn, yc, zb, zo, zn, zc, rfl, rfl, ((m20.set _ _).other (by omega) _ _), ((m10.other (by omega) _ _).set _ _), ((Xa.other (by omega) _ _).other (by omega) _ _), ((X2.other (by omega) _ _).other (by omega) _ _), ((Ra.box m20 _ _).box (m10.other (by omega) _ _) _ _), (((h1.box m20 _ _).box (m10.other (by omega) _ _) _ _)).whole32 la.out.abs_lt, (((h2.box m20 _ _).box (m10.other (by omega) _ _) _ _)).whole32 la.out.bot_lt, (below_set (below_set bb (by omega) _ _) (by omega) _ _), (by first | omega | (simp; omega)), (by first | omega | (simp; omega)), (by first | omega | (simp; omega) | simp)⟩
    · go_wp2_with fail; go_meet; exact ⟨_, _, yb, yo, yn, yc, zb, zo, zn, zc, rfl, rfl, ((m11.set _ _).other (by omega) _ _), ((m10.other (by omega) _ _).set _ _), ((Xa.other (by omega) _ _).other (by omega) _ _), ((X2.other (by omega) _ _).other (by omega) _ _), ((Ra.box m11 _ _).box (m10.other (by omega) _ _) _ _), (((h1.box m11 _ _).box (m10.other (by omega) _ _) _ _)).whole32 la.out.abs_lt, (((h2.box m11 _ _).box (m10.other (by omega) _ _) _ _)).whole32 la.out.bot_lt, (below_set (below_set bb (by omega) _ _) (by omega) _ _), (by first | omega | (simp; omega)), (by first | omega | (simp; omega)), (by first | omega | (simp; omega) | simp)⟩
  case rest =>
    obtain ⟨Y, Z, yb, yo, yn, yc, zb, zo, zn, zc, rfl, rfl, XY, XZ, Xa, X2, Ra, WY, WZ, bb, hY, hZ, hYZ⟩ := hcut
    replace bb := Lib.hid bb; replace Xa := Lib.hid Xa; replace X2 := Lib.hid X2; replace XY := Lib.hid XY; replace XZ := Lib.hid XZ; replace Ra := Lib.hid Ra; replace WY := Lib.hid WY; replace WZ := Lib.hid WZ
    by_cases hn : n < 0
    · have hd : decide (n < 0) = true := decide_eq_true hn
      replace hn := Lib.hid hn
      have gd : Hid (w.heap.size ≠ Y ∧ w.heap.size ≠ Z ∧ w.heap.size + 1 ≠ Y ∧ w.heap.size + 1 ≠ Z ∧ Y ≠ Z ∧ Z ≠ Y ∧ w.heap.size ≤ Y ∧ w.heap.size ≤ Z) := Lib.hid (by omega)
      by_cases h0 : an = 0
      · have hPn : Hid (P = 0 ∨ n = -9223372036854775808) := Lib.hid (.inl (Ra.out.top.len_zero.1 h0))
        subst h0
        have px := Xa.out.c1
        clear hYZ hY hZ Xa XY XZ Ra WY WZ
        replace X2 := X2.out
        replace bb := bb.out
        have q0 := X2.c0; have q1 := X2.c1; have q2 := X2.c2; have q3 := X2.fr 0; have q4 := X2.fr 1; have q5 := X2.fr 2
        have zz := X2.set (.bool false) (.slice none 0 0) (.slice none 0 0)
        have e0 := zz.c0; have e1 := zz.c1; have e2 := zz.c2
        have Y2 := Lib.hid X2; have bb' := Lib.hid bb
        clear zz X2 bb
        go_wp2_with fail
        refine bodyPost_ret (v := .tuple #[.agg #[.bool false, .slice none 0 0, .slice none 0 0], .int .i64 (3)]) (by simp [results, Try.results33, go_sem, e0, e1, e2]) rfl ?_
        exact pow_bad hn.out hPn.out (ResPost.stored (rt_zero _) Y2.out bb'.out (by omega))
      have hP : Hid (P ≠ 0) := Lib.hid (fun e => h0 (Ra.out.top.len_zero.2 e))
      have hd0 : ((an : Int) == 0) = false := by rw [beq_eq_false_iff_ne]; omega
      clear h0
      by_cases hm : n < -9223372036854775807
      · have hPn : Hid (P = 0 ∨ n = -9223372036854775808) := Lib.hid (.inr (by have := n0.out; omega))
        have hm2 : decide (n < -9223372036854775807) = true := decide_eq_true hm
        have px := Xa.out.c1
        clear hm hYZ hY hZ Xa XY XZ Ra WY WZ
        replace X2 := X2.out
        replace bb := bb.out
        have q0 := X2.c0; have q1 := X2.c1; have q2 := X2.c2; have q3 := X2.fr 0; have q4 := X2.fr 1; have q5 := X2.fr 2
        have zz := X2.set (.bool false) (.slice none 0 0) (.slice none 0 0)
        have e0 := zz.c0; have e1 := zz.c1; have e2 := zz.c2
        have Y2 := Lib.hid X2; have bb' := Lib.hid bb
        clear zz X2 bb
        go_wp2_with fail
        refine bodyPost_ret (v := .tuple #[.agg #[.bool false, .slice none 0 0, .slice none 0 0], .int .i64 (3)]) (by simp [results, Try.results33, go_sem, e0, e1, e2]) rfl ?_
        exact pow_bad hn.out hPn.out (ResPost.stored (rt_zero _) Y2.out bb'.out (by omega))
      have hPn : Hid (¬ (P = 0 ∨ n = -9223372036854775808)) := Lib.hid (fun h => h.elim hP.out (fun e => by omega))
      have hm2 : decide (n < -9223372036854775807) = false := decide_eq_false hm
      have hk1 : Hid (-n ≤ 9223372036854775807) := Lib.hid (by omega)
      have hk0 : Hid (-9223372036854775808 ≤ -n) := Lib.hid (by have := n1.out; omega)
      have hw2 : IntKind.i64.wrap (-n) = -n := by have := hn.out; have := hk1.out; simp [IntKind.wrap, IntKind.bits, IntKind.signed]; omega
      have hw1 : wrap64 (-n) = -n := by rw [wrap_is]; exact hw2
      have hw3 : IntKind.i64.wrap (0 - n) = -n := by rw [Int.zero_sub]; exact hw2
      have hw4 : wrap64 (0 - n) = -n := by rw [Int.zero_sub]; exact hw1
      clear hm
      have px := Xa.out.c1
      go_upto_region 5 with fail
      clear px hd0 hm2
      have p00 := Xa.out.c0; have p01 := Xa.out.c1; have p02 := Xa.out.c2
      go_wp2_with fail
      clear p00 p01 p02
      refine (rBot_any ab ap aq an ac am ae Q _ (Ra.out.lower la.out)).mono ?_
      rintro e v21 ⟨fb, fo, fn, fc, rfl, FY, hb⟩
      replace bb := Lib.hid (below_then bb.out (Nat.le_refl _) hb); replace Xa := Lib.hid (Xa.out.later hb); replace X2 := Lib.hid (X2.out.later hb); replace XY := Lib.hid (XY.out.later hb); replace XZ := Lib.hid (XZ.out.later hb); replace Ra := Lib.hid (Ra.out.below hb); replace WY := Lib.hid (WY.out.below hb); replace WZ := Lib.hid (WZ.out.below hb)
      replace FY := Lib.hid FY
      clear hb
      have fY0 := XY.out.fr 0; have fY1 := XY.out.fr 1; have qY0 := XY.out.c0; have qY1 := XY.out.c1
      go_upto_region 6 with fail
      clear fY0 fY1 qY0 qY1
      refine gen_wp (fun w' => Below w.heap.size w w' ∧ Box3 w' w.heap.size (.bool ab) (.slice ap an ac) (.slice aq am ae) ∧ Box3 w' (w.heap.size + 1) (.bool false) (.slice none 0 0) (.slice none 0 0) ∧ Box w' Y (.bool fb) (.slice fo fn fc) ∧ Box w' Z (.bool zb) (.slice zo zn zc) ∧ Rt w' ab ap an ac aq am ae P Q ∧ Whole w' fb fo fn fc Q)
        ⟨below_set bb.out gd.out.2.2.2.2.2.2.1 _ _, Xa.out.other gd.out.1 _ _, X2.out.other gd.out.2.2.1 _ _, XY.out.set _ _, XZ.out.other gd.out.2.2.2.2.2.1 _ _, Ra.out.box XY.out _ _, (FY.out.whole32 la.out.bot_lt).box XY.out _ _⟩ ?_
      clear FY bb Xa X2 XY XZ Ra WY WZ
      rintro x30 ⟨bb, Xa, X2, XY, XZ, Ra, WY⟩
      replace bb := Lib.hid bb; replace Xa := Lib.hid Xa; replace X2 := Lib.hid X2; replace XY := Lib.hid XY; replace XZ := Lib.hid XZ; replace Ra := Lib.hid Ra; replace WY := Lib.hid WY
      have p00 := Xa.out.c0; have p01 := Xa.out.c1; have p02 := Xa.out.c2
      go_wp2_with fail
      clear p00 p01 p02
      refine (rTop_any ab ap aq an ac am ae P _ (Ra.out.upper la.out)).mono ?_
      rintro e v22 ⟨gb, go, gn, gc, rfl, FZ, hb⟩
      replace bb := Lib.hid (below_then bb.out (Nat.le_refl _) hb); replace Xa := Lib.hid (Xa.out.later hb); replace X2 := Lib.hid (X2.out.later hb); replace XY := Lib.hid (XY.out.later hb); replace XZ := Lib.hid (XZ.out.later hb); replace Ra := Lib.hid (Ra.out.below hb); replace WY := Lib.hid (WY.out.below hb)
      replace FZ := Lib.hid FZ
      clear hb
      have fY0 := XZ.out.fr 0; have fY1 := XZ.out.fr 1; have qY0 := XZ.out.c0; have qY1 := XZ.out.c1
      go_upto_region 7 with fail
      clear fY0 fY1 qY0 qY1
      refine gen_wp (fun w' => Below w.heap.size w w' ∧ Box3 w' w.heap.size (.bool ab) (.slice ap an ac) (.slice aq am ae) ∧ Box3 w' (w.heap.size + 1) (.bool false) (.slice none 0 0) (.slice none 0 0) ∧ Box w' Y (.bool fb) (.slice fo fn fc) ∧ Box w' Z (.bool gb) (.slice go gn gc) ∧ Rt w' ab ap an ac aq am ae P Q ∧ Whole w' fb fo fn fc Q ∧ Whole w' gb go gn gc P)
        ⟨below_set bb.out gd.out.2.2.2.2.2.2.2 _ _, Xa.out.other gd.out.2.1 _ _, X2.out.other gd.out.2.2.2.1 _ _, XY.out.other gd.out.2.2.2.2.1 _ _, XZ.out.set _ _, Ra.out.box XZ.out _ _, WY.out.box XZ.out _ _, (FZ.out.whole32 la.out.abs_lt).box XZ.out _ _⟩ ?_
      clear FZ bb Xa X2 XY XZ Ra WY
      rintro x31 ⟨bb, Xa, X2, XY, XZ, Ra, WY, WZ⟩
      replace bb := Lib.hid bb; replace Xa := Lib.hid Xa; replace X2 := Lib.hid X2; replace XY := Lib.hid XY; replace XZ := Lib.hid XZ; replace Ra := Lib.hid Ra; replace WY := Lib.hid WY; replace WZ := Lib.hid WZ
      go_upto_region 8 with fail
      clear hd
      obtain ⟨E1, hE1⟩ : ∃ E1, Hid (powE (-n) ((Q : Int)) = E1) := ⟨_, Lib.hid rfl⟩
      obtain ⟨E2, hE2⟩ : ∃ E2, Hid (powE (-n) (P) = E2) := ⟨_, Lib.hid rfl⟩
      have p00 := XY.out.c0; have p01 := XY.out.c1
      go_wp2_with fail
      clear p00 p01
      refine ((rPow_any fb fo fn fc ((Q : Int)) (-n) _ WY.out (grow_64 la.out.bot_lt) hk0.out hk1.out).mono fun _ _ => pow_split hE1.out).mono ?_
      rintro e v23 ⟨db, do_, dn, dc, rfl, D, hb⟩
      replace bb := Lib.hid (below_then bb.out (Nat.le_refl _) hb); replace Xa := Lib.hid (Xa.out.later hb); replace X2 := Lib.hid (X2.out.later hb); replace XY := Lib.hid (XY.out.later hb); replace XZ := Lib.hid (XZ.out.later hb); replace Ra := Lib.hid (Ra.out.below hb); replace WY := Lib.hid (WY.out.below hb); replace WZ := Lib.hid (WZ.out.below hb)
      by_cases h1 : E1 = 0
      · subst h1
        replace D := Lib.hid D
        clear hb
        go_upto_region 9 with fail
        refine gen_wp (fun w' => Below w.heap.size w w' ∧ Box3 w' w.heap.size (.bool ab) (.slice ap an ac) (.slice aq am ae) ∧ Box3 w' (w.heap.size + 1) (.bool false) (.slice none 0 0) (.slice none 0 0) ∧ Box w' Y (.bool fb) (.slice fo fn fc) ∧ Box w' Z (.bool gb) (.slice go gn gc) ∧ Box w' v23.heap.size (.bool db) (.slice do_ dn dc) ∧ Rt w' ab ap an ac aq am ae P Q ∧ Whole w' fb fo fn fc Q ∧ Whole w' gb go gn gc P ∧ Right w' db do_ dn dc (powV (-n) ((Q : Int))))
          ⟨bb.out.alloc bb.out.size _, Xa.out.alloc _, X2.out.alloc _, XY.out.alloc _, XZ.out.alloc _, Box.new _ _ _ rfl, Ra.out.alloc _, WY.out.alloc _, WZ.out.alloc _, D.out.alloc _⟩ ?_
        clear bb Xa X2 XY XZ Ra WY WZ D
        rintro x23 ⟨bb, Xa, X2, XY, XZ, Xd, Ra, WY, WZ, D⟩
        replace bb := Lib.hid bb; replace Xa := Lib.hid Xa; replace X2 := Lib.hid X2; replace XY := Lib.hid XY; replace XZ := Lib.hid XZ; replace Xd := Lib.hid Xd; replace Ra := Lib.hid Ra; replace WY := Lib.hid WY; replace WZ := Lib.hid WZ; replace D := Lib.hid D
        go_upto_region 11 with fail
        have p00 := XZ.out.c0; have p01 := XZ.out.c1
        go_wp2_with fail
        clear p00 p01
        refine ((rPow_any gb go gn gc (P) (-n) _ WZ.out (grow_64 la.out.abs_lt) hk0.out hk1.out).mono fun _ _ => pow_split hE2.out).mono ?_
        rintro e v24 ⟨eb, eo, en, ec, rfl, E, hb⟩
        replace bb := Lib.hid (below_then bb.out (Nat.le_refl _) hb); replace Xa := Lib.hid (Xa.out.later hb); replace X2 := Lib.hid (X2.out.later hb); replace XY := Lib.hid (XY.out.later hb); replace XZ := Lib.hid (XZ.out.later hb); replace Xd := Lib.hid (Xd.out.later hb); replace Ra := Lib.hid (Ra.out.below hb); replace WY := Lib.hid (WY.out.below hb); replace WZ := Lib.hid (WZ.out.below hb); replace D := Lib.hid (D.out.below hb)
        by_cases h2 : E2 = 0
        · subst h2
          replace E := Lib.hid E
          clear hb
          go_upto_region 12 with fail
          refine gen_wp (fun w' => Below w.heap.size w w' ∧ Box3 w' w.heap.size (.bool ab) (.slice ap an ac) (.slice aq am ae) ∧ Box3 w' (w.heap.size + 1) (.bool false) (.slice none 0 0) (.slice none 0 0) ∧ Box w' Y (.bool fb) (.slice fo fn fc) ∧ Box w' Z (.bool gb) (.slice go gn gc) ∧ Box w' v23.heap.size (.bool db) (.slice do_ dn dc) ∧ Box w' v24.heap.size (.bool eb) (.slice eo en ec) ∧ Rt w' ab ap an ac aq am ae P Q ∧ Whole w' fb fo fn fc Q ∧ Whole w' gb go gn gc P ∧ Right w' db do_ dn dc (powV (-n) ((Q : Int))) ∧ Right w' eb eo en ec (powV (-n) (P)))
            ⟨bb.out.alloc bb.out.size _, Xa.out.alloc _, X2.out.alloc _, XY.out.alloc _, XZ.out.alloc _, Xd.out.alloc _, Box.new _ _ _ rfl, Ra.out.alloc _, WY.out.alloc _, WZ.out.alloc _, D.out.alloc _, E.out.alloc _⟩ ?_
          clear bb Xa X2 XY XZ Xd Ra WY WZ D E
          rintro x24 ⟨bb, Xa, X2, XY, XZ, Xd, Xe, Ra, WY, WZ, D, E⟩
          replace bb := Lib.hid bb; replace Xa := Lib.hid Xa; replace X2 := Lib.hid X2; replace XY := Lib.hid XY; replace XZ := Lib.hid XZ; replace Xd := Lib.hid Xd; replace Xe := Lib.hid Xe; replace Ra := Lib.hid Ra; replace WY := Lib.hid WY; replace WZ := Lib.hid WZ; replace D := Lib.hid D; replace E := Lib.hid E
          go_upto_region 14 with fail
          have p00 := Xd.out.c0; have p01 := Xd.out.c1; have p10 := Xe.out.c0; have p11 := Xe.out.c1
          go_wp2_with fail
          clear p00 p01 p10 p11
          refine (rMake_any db eb do_ eo dn dc en ec (powV (-n) ((Q : Int))) (powV (-n) (P)) _ (D.out.whole32 (powV_lt (-n) ((Q : Int)))) (E.out.whole32 (powV_lt (-n) (P))) 32 (by omega) (powV_lt (-n) ((Q : Int))) (powV_lt (-n) (P))).mono ?_
          rintro e v25 ⟨zb, zp, zn, zc, zq, zm, ze, rfl, N, hb⟩
          replace bb := Lib.hid (below_then bb.out (Nat.le_refl _) hb); replace Xa := Lib.hid (Xa.out.later hb); replace X2 := Lib.hid (X2.out.later hb); replace XY := Lib.hid (XY.out.later hb); replace XZ := Lib.hid (XZ.out.later hb); replace Xd := Lib.hid (Xd.out.later hb); replace Xe := Lib.hid (Xe.out.later hb); replace Ra := Lib.hid (Ra.out.below hb); replace WY := Lib.hid (WY.out.below hb); replace WZ := Lib.hid (WZ.out.below hb); replace D := Lib.hid (D.out.below hb); replace E := Lib.hid (E.out.below hb)
          replace N := Lib.hid N
          clear hb Xa XY XZ Xd Xe Ra WY WZ D E
          replace X2 := X2.out
          replace bb := bb.out
          have q0 := X2.c0; have q1 := X2.c1; have q2 := X2.c2; have q3 := X2.fr 0; have q4 := X2.fr 1; have q5 := X2.fr 2
          have zz := X2.set (.bool zb) (.slice zp zn zc) (.slice zq zm ze)
          have e0 := zz.c0; have e1 := zz.c1; have e2 := zz.c2
          have Y2 := Lib.hid X2; have bb' := Lib.hid bb
          clear zz X2 bb
          go_wp2_with fail
          refine bodyPost_ret (v := .tuple #[.agg #[.bool zb, .slice zp zn zc, .slice zq zm ze], .int .i64 (mkE (powV (-n) ((Q : Int))) (powV (-n) (P)))]) (by simp [results, Try.results33, go_sem, e0, e1, e2]) rfl ?_
          exact pow_neg hn.out hPn.out (pw_ok hE1.out hE2.out (ResPost.stored N.out Y2.out bb'.out (by omega)))
        · replace h2 := Lib.hid h2
          replace E := Lib.hid E
          clear hb
          go_upto_region 12 with fail
          refine gen_wp (fun w' => Below w.heap.size w w' ∧ Box3 w' w.heap.size (.bool ab) (.slice ap an ac) (.slice aq am ae) ∧ Box3 w' (w.heap.size + 1) (.bool false) (.slice none 0 0) (.slice none 0 0) ∧ Box w' Y (.bool fb) (.slice fo fn fc) ∧ Box w' Z (.bool gb) (.slice go gn gc) ∧ Box w' v23.heap.size (.bool db) (.slice do_ dn dc) ∧ Box w' v24.heap.size (.bool eb) (.slice eo en ec) ∧ Rt w' ab ap an ac aq am ae P Q ∧ Whole w' fb fo fn fc Q ∧ Whole w' gb go gn gc P ∧ Right w' db do_ dn dc (powV (-n) ((Q : Int))) ∧ Right w' eb eo en ec (powV (-n) (P)))
            ⟨bb.out.alloc bb.out.size _, Xa.out.alloc _, X2.out.alloc _, XY.out.alloc _, XZ.out.alloc _, Xd.out.alloc _, Box.new _ _ _ rfl, Ra.out.alloc _, WY.out.alloc _, WZ.out.alloc _, D.out.alloc _, E.out.alloc _⟩ ?_
          clear bb Xa X2 XY XZ Xd Ra WY WZ D E
          rintro x24 ⟨bb, Xa, X2, XY, XZ, Xd, Xe, Ra, WY, WZ, D, E⟩
          replace bb := Lib.hid bb; replace Xa := Lib.hid Xa; replace X2 := Lib.hid X2; replace XY := Lib.hid XY; replace XZ := Lib.hid XZ; replace Xd := Lib.hid Xd; replace Xe := Lib.hid Xe; replace Ra := Lib.hid Ra; replace WY := Lib.hid WY; replace WZ := Lib.hid WZ; replace D := Lib.hid D; replace E := Lib.hid E
          have hz := h2.out
          clear Xa XY XZ Xd Xe Ra WY WZ D E
          replace X2 := X2.out
          replace bb := bb.out
          have q0 := X2.c0; have q1 := X2.c1; have q2 := X2.c2; have q3 := X2.fr 0; have q4 := X2.fr 1; have q5 := X2.fr 2
          have zz := X2.set (.bool false) (.slice none 0 0) (.slice none 0 0)
          have e0 := zz.c0; have e1 := zz.c1; have e2 := zz.c2
          have Y2 := Lib.hid X2; have bb' := Lib.hid bb
          clear zz X2 bb
          go_wp2_with fail
          refine bodyPost_ret (v := .tuple #[.agg #[.bool false, .slice none 0 0, .slice none 0 0], .int .i64 (E2)]) (by simp [results, Try.results33, go_sem, e0, e1, e2]) rfl ?_
          exact pow_neg hn.out hPn.out (pw_two hE1.out hE2.out h2.out (ResPost.stored (rt_zero _) Y2.out bb'.out (by omega)))
      · replace h1 := Lib.hid h1
        replace D := Lib.hid D
        clear hb
        go_upto_region 9 with fail
        refine gen_wp (fun w' => Below w.heap.size w w' ∧ Box3 w' w.heap.size (.bool ab) (.slice ap an ac) (.slice aq am ae) ∧ Box3 w' (w.heap.size + 1) (.bool false) (.slice none 0 0) (.slice none 0 0) ∧ Box w' Y (.bool fb) (.slice fo fn fc) ∧ Box w' Z (.bool gb) (.slice go gn gc) ∧ Box w' v23.heap.size (.bool db) (.slice do_ dn dc) ∧ Rt w' ab ap an ac aq am ae P Q ∧ Whole w' fb fo fn fc Q ∧ Whole w' gb go gn gc P ∧ Right w' db do_ dn dc (powV (-n) ((Q : Int))))
          ⟨bb.out.alloc bb.out.size _, Xa.out.alloc _, X2.out.alloc _, XY.out.alloc _, XZ.out.alloc _, Box.new _ _ _ rfl, Ra.out.alloc _, WY.out.alloc _, WZ.out.alloc _, D.out.alloc _⟩ ?_
        clear bb Xa X2 XY XZ Ra WY WZ D
        rintro x23 ⟨bb, Xa, X2, XY, XZ, Xd, Ra, WY, WZ, D⟩
        replace bb := Lib.hid bb; replace Xa := Lib.hid Xa; replace X2 := Lib.hid X2; replace XY := Lib.hid XY; replace XZ := Lib.hid XZ; replace Xd := Lib.hid Xd; replace Ra := Lib.hid Ra; replace WY := Lib.hid WY; replace WZ := Lib.hid WZ; replace D := Lib.hid D
        have hz := h1.out
        clear Xa XY XZ Xd Ra WY WZ D
        replace X2 := X2.out
        replace bb := bb.out
        have q0 := X2.c0; have q1 := X2.c1; have q2 := X2.c2; have q3 := X2.fr 0; have q4 := X2.fr 1; have q5 := X2.fr 2
        have zz := X2.set (.bool false) (.slice none 0 0) (.slice none 0 0)
        have e0 := zz.c0; have e1 := zz.c1; have e2 := zz.c2
        have Y2 := Lib.hid X2; have bb' := Lib.hid bb
        clear zz X2 bb
        go_wp2_with fail
        refine bodyPost_ret (v := .tuple #[.agg #[.bool false, .slice none 0 0, .slice none 0 0], .int .i64 (E1)]) (by simp [results, Try.results33, go_sem, e0, e1, e2]) rfl ?_
        exact pow_neg hn.out hPn.out (pw_one hE1.out h1.out (ResPost.stored (rt_zero _) Y2.out bb'.out (by omega)))
    · have hd : decide (n < 0) = false := decide_eq_false hn
      replace hn := Lib.hid hn
      go_upto_region 8 with fail
      clear hd
      obtain ⟨E1, hE1⟩ : ∃ E1, Hid (powE (n) (P) = E1) := ⟨_, Lib.hid rfl⟩
      obtain ⟨E2, hE2⟩ : ∃ E2, Hid (powE (n) ((Q : Int)) = E2) := ⟨_, Lib.hid rfl⟩
      have p00 := XY.out.c0; have p01 := XY.out.c1
      go_wp2_with fail
      clear p00 p01
      refine ((rPow_any yb yo yn yc (P) (n) _ WY.out (grow_64 la.out.abs_lt) n0.out n1.out).mono fun _ _ => pow_split hE1.out).mono ?_
      rintro e v21 ⟨db, do_, dn, dc, rfl, D, hb⟩
      replace bb := Lib.hid (below_then bb.out (Nat.le_refl _) hb); replace Xa := Lib.hid (Xa.out.later hb); replace X2 := Lib.hid (X2.out.later hb); replace XY := Lib.hid (XY.out.later hb); replace XZ := Lib.hid (XZ.out.later hb); replace Ra := Lib.hid (Ra.out.below hb); replace WY := Lib.hid (WY.out.below hb); replace WZ := Lib.hid (WZ.out.below hb)
      by_cases h1 : E1 = 0
      · subst h1
        replace D := Lib.hid D
        clear hb
        go_upto_region 9 with fail
        refine gen_wp (fun w' => Below w.heap.size w w' ∧ Box3 w' w.heap.size (.bool ab) (.slice ap an ac) (.slice aq am ae) ∧ Box3 w' (w.heap.size + 1) (.bool false) (.slice none 0 0) (.slice none 0 0) ∧ Box w' Y (.bool yb) (.slice yo yn yc) ∧ Box w' Z (.bool zb) (.slice zo zn zc) ∧ Box w' v21.heap.size (.bool db) (.slice do_ dn dc) ∧ Rt w' ab ap an ac aq am ae P Q ∧ Whole w' yb yo yn yc P ∧ Whole w' zb zo zn zc Q ∧ Right w' db do_ dn dc (powV (n) (P)))
          ⟨bb.out.alloc bb.out.size _, Xa.out.alloc _, X2.out.alloc _, XY.out.alloc _, XZ.out.alloc _, Box.new _ _ _ rfl, Ra.out.alloc _, WY.out.alloc _, WZ.out.alloc _, D.out.alloc _⟩ ?_
        clear bb Xa X2 XY XZ Ra WY WZ D
        rintro x21 ⟨bb, Xa, X2, XY, XZ, Xd, Ra, WY, WZ, D⟩
        replace bb := Lib.hid bb; replace Xa := Lib.hid Xa; replace X2 := Lib.hid X2; replace XY := Lib.hid XY; replace XZ := Lib.hid XZ; replace Xd := Lib.hid Xd; replace Ra := Lib.hid Ra; replace WY := Lib.hid WY; replace WZ := Lib.hid WZ; replace D := Lib.hid D
        go_upto_region 11 with fail
        have p00 := XZ.out.c0; have p01 := XZ.out.c1
        go_wp2_with fail
        clear p00 p01
        refine ((rPow_any zb zo zn zc ((Q : Int)) (n) _ WZ.out (grow_64 la.out.bot_lt) n0.out n1.out).mono fun _ _ => pow_split hE2.out).mono ?_
        rintro e v22 ⟨eb, eo, en, ec, rfl, E, hb⟩
        replace bb := Lib.hid (below_then bb.out (Nat.le_refl _) hb); replace Xa := Lib.hid (Xa.out.later hb); replace X2 := Lib.hid (X2.out.later hb); replace XY := Lib.hid (XY.out.later hb); replace XZ := Lib.hid (XZ.out.later hb); replace Xd := Lib.hid (Xd.out.later hb); replace Ra := Lib.hid (Ra.out.below hb); replace WY := Lib.hid (WY.out.below hb); replace WZ := Lib.hid (WZ.out.below hb); replace D := Lib.hid (D.out.below hb)
        by_cases h2 : E2 = 0
        · subst h2
          replace E := Lib.hid E
          clear hb
          go_upto_region 12 with fail
          refine gen_wp (fun w' => Below w.heap.size w w' ∧ Box3 w' w.heap.size (.bool ab) (.slice ap an ac) (.slice aq am ae) ∧ Box3 w' (w.heap.size + 1) (.bool false) (.slice none 0 0) (.slice none 0 0) ∧ Box w' Y (.bool yb) (.slice yo yn yc) ∧ Box w' Z (.bool zb) (.slice zo zn zc) ∧ Box w' v21.heap.size (.bool db) (.slice do_ dn dc) ∧ Box w' v22.heap.size (.bool eb) (.slice eo en ec) ∧ Rt w' ab ap an ac aq am ae P Q ∧ Whole w' yb yo yn yc P ∧ Whole w' zb zo zn zc Q ∧ Right w' db do_ dn dc (powV (n) (P)) ∧ Right w' eb eo en ec (powV (n) ((Q : Int))))
            ⟨bb.out.alloc bb.out.size _, Xa.out.alloc _, X2.out.alloc _, XY.out.alloc _, XZ.out.alloc _, Xd.out.alloc _, Box.new _ _ _ rfl, Ra.out.alloc _, WY.out.alloc _, WZ.out.alloc _, D.out.alloc _, E.out.alloc _⟩ ?_
          clear bb Xa X2 XY XZ Xd Ra WY WZ D E
          rintro x22 ⟨bb, Xa, X2, XY, XZ, Xd, Xe, Ra, WY, WZ, D, E⟩
          replace bb := Lib.hid bb; replace Xa := Lib.hid Xa; replace X2 := Lib.hid X2; replace XY := Lib.hid XY; replace XZ := Lib.hid XZ; replace Xd := Lib.hid Xd; replace Xe := Lib.hid Xe; replace Ra := Lib.hid Ra; replace WY := Lib.hid WY; replace WZ := Lib.hid WZ; replace D := Lib.hid D; replace E := Lib.hid E
          go_upto_region 14 with fail
          have p00 := Xd.out.c0; have p01 := Xd.out.c1; have p10 := Xe.out.c0; have p11 := Xe.out.c1
          go_wp2_with fail
          clear p00 p01 p10 p11
          refine (rMake_any db eb do_ eo dn dc en ec (powV (n) (P)) (powV (n) ((Q : Int))) _ (D.out.whole32 (powV_lt (n) (P))) (E.out.whole32 (powV_lt (n) ((Q : Int)))) 32 (by omega) (powV_lt (n) (P)) (powV_lt (n) ((Q : Int)))).mono ?_
          rintro e v23 ⟨zb, zp, zn, zc, zq, zm, ze, rfl, N, hb⟩
          replace bb := Lib.hid (below_then bb.out (Nat.le_refl _) hb); replace Xa := Lib.hid (Xa.out.later hb); replace X2 := Lib.hid (X2.out.later hb); replace XY := Lib.hid (XY.out.later hb); replace XZ := Lib.hid (XZ.out.later hb); replace Xd := Lib.hid (Xd.out.later hb); replace Xe := Lib.hid (Xe.out.later hb); replace Ra := Lib.hid (Ra.out.below hb); replace WY := Lib.hid (WY.out.below hb); replace WZ := Lib.hid (WZ.out.below hb); replace D := Lib.hid (D.out.below hb); replace E := Lib.hid (E.out.below hb)
          replace N := Lib.hid N
          clear hb Xa XY XZ Xd Xe Ra WY WZ D E
          replace X2 := X2.out
          replace bb := bb.out
          have q0 := X2.c0; have q1 := X2.c1; have q2 := X2.c2; have q3 := X2.fr 0; have q4 := X2.fr 1; have q5 := X2.fr 2
          have zz := X2.set (.bool zb) (.slice zp zn zc) (.slice zq zm ze)
          have e0 := zz.c0; have e1 := zz.c1; have e2 := zz.c2
          have Y2 := Lib.hid X2; have bb' := Lib.hid bb
          clear zz X2 bb
          go_wp2_with fail
          refine bodyPost_ret (v := .tuple #[.agg #[.bool zb, .slice zp zn zc, .slice zq zm ze], .int .i64 (mkE (powV (n) (P)) (powV (n) ((Q : Int))))]) (by simp [results, Try.results33, go_sem, e0, e1, e2]) rfl ?_
          exact pow_pos (by have := hn.out; omega) (pw_ok hE1.out hE2.out (ResPost.stored N.out Y2.out bb'.out (by omega)))
        · replace h2 := Lib.hid h2
          replace E := Lib.hid E
          clear hb
          go_upto_region 12 with fail
          refine gen_wp (fun w' => Below w.heap.size w w' ∧ Box3 w' w.heap.size (.bool ab) (.slice ap an ac) (.slice aq am ae) ∧ Box3 w' (w.heap.size + 1) (.bool false) (.slice none 0 0) (.slice none 0 0) ∧ Box w' Y (.bool yb) (.slice yo yn yc) ∧ Box w' Z (.bool zb) (.slice zo zn zc) ∧ Box w' v21.heap.size (.bool db) (.slice do_ dn dc) ∧ Box w' v22.heap.size (.bool eb) (.slice eo en ec) ∧ Rt w' ab ap an ac aq am ae P Q ∧ Whole w' yb yo yn yc P ∧ Whole w' zb zo zn zc Q ∧ Right w' db do_ dn dc (powV (n) (P)) ∧ Right w' eb eo en ec (powV (n) ((Q : Int))))
            ⟨bb.out.alloc bb.out.size _, Xa.out.alloc _, X2.out.alloc _, XY.out.alloc _, XZ.out.alloc _, Xd.out.alloc _, Box.new _ _ _ rfl, Ra.out.alloc _, WY.out.alloc _, WZ.out.alloc _, D.out.alloc _, E.out.alloc _⟩ ?_
          clear bb Xa X2 XY XZ Xd Ra WY WZ D E
          rintro x22 ⟨bb, Xa, X2, XY, XZ, Xd, Xe, Ra, WY, WZ, D, E⟩
          replace bb := Lib.hid bb; replace Xa := Lib.hid Xa; replace X2 := Lib.hid X2; replace XY := Lib.hid XY; replace XZ := Lib.hid XZ; replace Xd := Lib.hid Xd; replace Xe := Lib.hid Xe; replace Ra := Lib.hid Ra; replace WY := Lib.hid WY; replace WZ := Lib.hid WZ; replace D := Lib.hid D; replace E := Lib.hid E
          have hz := h2.out
          clear Xa XY XZ Xd Xe Ra WY WZ D E
          replace X2 := X2.out
          replace bb := bb.out
          have q0 := X2.c0; have q1 := X2.c1; have q2 := X2.c2; have q3 := X2.fr 0; have q4 := X2.fr 1; have q5 := X2.fr 2
          have zz := X2.set (.bool false) (.slice none 0 0) (.slice none 0 0)
          have e0 := zz.c0; have e1 := zz.c1; have e2 := zz.c2
          have Y2 := Lib.hid X2; have bb' := Lib.hid bb
          clear zz X2 bb
          go_wp2_with fail
          refine bodyPost_ret (v := .tuple #[.agg #[.bool false, .slice none 0 0, .slice none 0 0], .int .i64 (E2)]) (by simp [results, Try.results33, go_sem, e0, e1, e2]) rfl ?_
          exact pow_pos (by have := hn.out; omega) (pw_two hE1.out hE2.out h2.out (ResPost.stored (rt_zero _) Y2.out bb'.out (by omega)))
      · replace h1 := Lib.hid h1
        replace D := Lib.hid D
        clear hb
        go_upto_region 9 with fail
        refine gen_wp (fun w' => Below w.heap.size w w' ∧ Box3 w' w.heap.size (.bool ab) (.slice ap an ac) (.slice aq am ae) ∧ Box3 w' (w.heap.size + 1) (.bool false) (.slice none 0 0) (.slice none 0 0) ∧ Box w' Y (.bool yb) (.slice yo yn yc) ∧ Box w' Z (.bool zb) (.slice zo zn zc) ∧ Box w' v21.heap.size (.bool db) (.slice do_ dn dc) ∧ Rt w' ab ap an ac aq am ae P Q ∧ Whole w' yb yo yn yc P ∧ Whole w' zb zo zn zc Q ∧ Right w' db do_ dn dc (powV (n) (P)))
          ⟨bb.out.alloc bb.out.size _, Xa.out.alloc _, X2.out.alloc _, XY.out.alloc _, XZ.out.alloc _, Box.new _ _ _ rfl, Ra.out.alloc _, WY.out.alloc _, WZ.out.alloc _, D.out.alloc _⟩ ?_
        clear bb Xa X2 XY XZ Ra WY WZ D
        rintro x21 ⟨bb, Xa, X2, XY, XZ, Xd, Ra, WY, WZ, D⟩
        replace bb := Lib.hid bb; replace Xa := Lib.hid Xa; replace X2 := Lib.hid X2; replace XY := Lib.hid XY; replace XZ := Lib.hid XZ; replace Xd := Lib.hid Xd; replace Ra := Lib.hid Ra; replace WY := Lib.hid WY; replace WZ := Lib.hid WZ; replace D := Lib.hid D
        have hz := h1.out
        clear Xa XY XZ Xd Ra WY WZ D
        replace X2 := X2.out
        replace bb := bb.out
        have q0 := X2.c0; have q1 := X2.c1; have q2 := X2.c2; have q3 := X2.fr 0; have q4 := X2.fr 1; have q5 := X2.fr 2
        have zz := X2.set (.bool false) (.slice none 0 0) (.slice none 0 0)
        have e0 := zz.c0; have e1 := zz.c1; have e2 := zz.c2
        have Y2 := Lib.hid X2; have bb' := Lib.hid bb
        clear zz X2 bb
        go_wp2_with fail
        refine bodyPost_ret (v := .tuple #[.agg #[.bool false, .slice none 0 0, .slice none 0 0], .int .i64 (E1)]) (by simp [results, Try.results33, go_sem, e0, e1, e2]) rfl ?_
        exact pow_pos (by have := hn.out; omega) (pw_one hE1.out h1.out (ResPost.stored (rt_zero _) Y2.out bb'.out (by omega)))

end Go.Proofs.Ytnnipciifjpooaa
