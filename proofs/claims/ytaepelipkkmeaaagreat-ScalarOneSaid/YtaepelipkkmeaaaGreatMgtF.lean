/-
  ratio.Pow, scrimref04.Pow.
  scrimref04.Floor, Mod.
  scrimref10.Number but for the product: what it tells of a right number.
  whole.Small.
  scrimref03.Small.
  scrimref10.truth, scrimref04.Small, scrimref10.Numbers: what it tells of two right numbers.
  scrimref04.Small: a number as an int.
  scrimref10.Numbers: powers.
  scrimref10.Number and Numbers: each word in one.
  Lists of ints as they lie in memory; whether a number is in one; two that are the same (scrimref06.In, scrimref01.Ints).
  Shapes, plain: how many cells there are, or the error; which place is which cell. scrimref07.Ints, Count.
  Rows of ints that a call makes; worlds told anew.
  Arrays of arrays: what they are (trees), and how they lie in memory.
  Labels, as the document's answer has them (scrimref01): Bit, Has, Join, Flows.
  scrimref08.Simple, zero.
  scrimref08.left, Few: which arrays the statements ask of.
  scrimref08.Size, Depth, Total: through all cells and the arrays in them.
  scrimref08.SameCell, Same: two cells, two arrays, as they stand.
  scrimref08.Raise: an array with its own label raised.
-/
import Derived.Test.YtaepelipkkmeaaaGreatMgtA
import Derived.Test.YtaepelipkkmeaaaGreatMgtB
import Derived.Test.YtaepelipkkmeaaaGreatMgtC
import Derived.Test.YtaepelipkkmeaaaGreatMgtD
import Derived.Test.YtaepelipkkmeaaaGreatMgtE
import Derived.Deep.LoopGhost
import Derived.WalkKit
import Derived.Lib.BitFns
import Derived.Laws.CopyOwn
import Derived.Deep.RegionWith
import Derived.Deep.RegionHeld3
import Derived.Deep.DrawnRows
import Derived.Deep.CutRange
import Derived.Lib.Small
import Derived.Lib.Walk
import Derived.Deep.QuietTactic
import Derived.BigQuiet
import Derived.WalkSpells
import Derived.WalkLawsBesides
import Derived.Lib.Hide
import Derived.Test.YtaepelipkkmeaaaGreatChecked
import Derived.Laws.AppendOwn
import Derived.Laws.OwnMore
set_option maxRecDepth 20000
set_option maxHeartbeats 16000000
namespace Go.Proofs.YtaepelipkkmeaaaGreat
open Go.RowKit Num
attribute [local go_sem ↓] Go.wp_at_zero Go.wp_at_succ
theorem powR_lt (n : Nat) : ∀ (p s v : Int), p.natAbs < pw 32 → powR n p s = some v → v.natAbs < pw 32 := by
 induction n using Nat.strongRecOn with
 | ind n ih =>
  intro p s v hp h
  by_cases h0 : n = 0
  ·subst h0
   rw [powR_zero] at h
   injection h with h
   rw [← h]; exact hp
  ·by_cases hs : s.natAbs < pw 32
   ·by_cases h1 : n % 2 = 1
    ·by_cases hq : (p * s).natAbs < pw 32
     ·rw [powR_odd h0 h1 hs hq] at h
      exact ih (n / 2) (by omega) _ _ _ hq h
     ·rw [powR_odd_great h0 h1 (Nat.le_of_not_lt hq)] at h; cases h
    ·rw [powR_even h0 h1 hs hp] at h
     exact ih (n / 2) (by omega) _ _ _ hp h
   ·rw [powR_great h0 (Nat.le_of_not_lt hs)] at h; cases h
theorem powV_lt (k x : Int) : (powV k x).natAbs < pw 32 := by
 unfold powV
 have h1 : (1 : Int).natAbs < pw 32 := Nat.lt_of_lt_of_le (by decide : 1 < pw 1) (pw_le (by omega))
 split
 ·exact pw_pos _
 ·cases h : powR k.toNat 1 x with
  | none => exact pw_pos _
  | some v => exact powR_lt _ _ _ _ h1 h
def PPost (T E : Int) (w : World) (e : Ending) (w' : World) : Prop :=
 ∃ b ao n nc, e = .returned (.tuple #[.agg #[.bool b, .slice ao n nc], .int .i64 E]) ∧ Right w' b ao n nc T ∧ Below w.heap.size w w'
theorem pow_split {k x E : Int} {w w' : World} {e : Ending} (h : powE k x = E) (p : PowPost k x w e w') : PPost (powV k x) E w e w' := by
 subst h; exact p
theorem grow_64 {x : Int} (h : x.natAbs < pw 32) : x.natAbs < pw 64 := Nat.lt_of_lt_of_le h (pw_le (by omega))
def pwRes (p q k : Int) : Int × Nat × Int := if powE k p ≠ 0 then (0, 0, powE k p) else if powE k q ≠ 0 then (0, 0, powE k q) else (mkT (powV k p) (powV k q), mkB (powV k p) (powV k q), mkE (powV k p) (powV k q))
def powRes (P : Int) (Q : Nat) (n : Int) : Int × Nat × Int := if n < 0 then (if P = 0 ∨ n = -9223372036854775808 then (0, 0, 3) else pwRes Q P (-n)) else pwRes P Q n
def PwPost (p q k : Int) := ResPost (pwRes p q k).1 (pwRes p q k).2.1 (pwRes p q k).2.2
def NumPowPost (P : Int) (Q : Nat) (n : Int) := ResPost (powRes P Q n).1 (powRes P Q n).2.1 (powRes P Q n).2.2
theorem pw_one {p q k E : Int} {w w' : World} {e : Ending} (h : powE k p = E) (hE : E ≠ 0) (r : ResPost 0 0 E w e w') : PwPost p q k w e w' := by
 unfold PwPost pwRes; rw [if_pos (by rw [h]; exact hE), h]; exact r
theorem pw_two {p q k E : Int} {w w' : World} {e : Ending} (h : powE k p = 0) (h2 : powE k q = E) (hE : E ≠ 0) (r : ResPost 0 0 E w e w') : PwPost p q k w e w' := by
 unfold PwPost pwRes; rw [if_neg (by rw [h]; decide), if_pos (by rw [h2]; exact hE), h2]; exact r
theorem pw_ok {p q k : Int} {w w' : World} {e : Ending} (h : powE k p = 0) (h2 : powE k q = 0) (r : MakePost (powV k p) (powV k q) w e w') : PwPost p q k w e w' := by
 unfold PwPost pwRes; rw [if_neg (by rw [h]; decide), if_neg (by rw [h2]; decide)]; exact r
theorem pow_bad {P n : Int} {Q : Nat} {w w' : World} {e : Ending} (hn : n < 0) (h : P = 0 ∨ n = -9223372036854775808) (r : ResPost 0 0 3 w e w') : NumPowPost P Q n w e w' := by
 unfold NumPowPost powRes; rw [if_pos hn, if_pos h]; exact r
theorem pow_neg {P n : Int} {Q : Nat} {w w' : World} {e : Ending} (hn : n < 0) (h : ¬ (P = 0 ∨ n = -9223372036854775808)) (r : PwPost Q P (-n) w e w') : NumPowPost P Q n w e w' := by
 unfold NumPowPost powRes; rw [if_pos hn, if_neg h]; exact r
theorem pow_pos {P n : Int} {Q : Nat} {w w' : World} {e : Ending} (hn : ¬ n < 0) (r : PwPost P Q n w e w') : NumPowPost P Q n w e w' := by
 unfold NumPowPost powRes; rw [if_neg hn]; exact r
theorem pow4_any (ab : Bool) (ap aq : Option Addr) (an ac am ae : Nat) (P : Int) (Q : Nat) (n : Int) (w : World) (Ra : Rt w ab ap an ac aq am ae P Q) (la : Low P Q) (n0 : -9223372036854775808 ≤ n) (n1 : n ≤ 9223372036854775807) :
  Calls Tryz.prog 123 #[.agg #[.bool ab, .slice ap an ac, .slice aq am ae], .int .i64 n] w (NumPowPost P Q n w) := by
 replace n0 := Lib.hid n0; replace n1 := Lib.hid n1
 replace Ra := Lib.hid Ra; replace la := Lib.hid la
 go_enter Tryz.func123, Tryz.ntmps123
 go_upto_region 1 with fail
 refine gen_wp (fun w' => Below w.heap.size w w' ∧ Box3 w' w.heap.size (.bool ab) (.slice ap an ac) (.slice aq am ae) ∧ Box3 w' (w.heap.size + 1) (.bool false) (.slice none 0 0) (.slice none 0 0))
  ⟨(((Below.refl _ _).alloc (Nat.le_refl _) _).alloc (by simp <;> omega) _), ((Box3.new _ _ _ _ rfl).alloc _), (Box3.new _ _ _ _ (by simp <;> omega))⟩ ?_
 rintro u0 ⟨bb, Xa, X2⟩
 replace Ra := Ra.out.below bb
 replace bb := Lib.hid bb; replace Xa := Lib.hid Xa; replace X2 := Lib.hid X2; replace Ra := Lib.hid Ra
 replace bb := bb.out; replace Xa := Xa.out; replace X2 := X2.out; replace Ra := Ra.out
 go_cut [6, 7] from 15 to 54 (fun s t wx => ∃ Y Z yb yo yn yc zb zo zn zc, s = .pointer (some ⟨Y, 0, none⟩) ∧ t = .pointer (some ⟨Z, 0, none⟩) ∧ Box wx Y (.bool yb) (.slice yo yn yc) ∧ Box wx Z (.bool zb) (.slice zo zn zc) ∧ Box3 wx w.heap.size (.bool ab) (.slice ap an ac) (.slice aq am ae) ∧ Box3 wx (w.heap.size + 1) (.bool false) (.slice none 0 0) (.slice none 0 0) ∧ Rt wx ab ap an ac aq am ae P Q ∧ Whole wx yb yo yn yc P ∧ Whole wx zb zo zn zc Q ∧ Below w.heap.size w wx ∧ w.heap.size + 1 < Y ∧ w.heap.size + 1 < Z ∧ Y ≠ Z)
 case first =>
  have lXa := Xa.lt
  have lX2 := X2.lt
  have bs := bb.size
  have sa0 := True.intro
  go_region_held3 (fun w' => w'.cell? ⟨w.heap.size, 0, none⟩ = some (.bool ab) ∧ w'.cell? ⟨w.heap.size, 1, none⟩ = some (.slice ap an ac) ∧ w'.cell? ⟨w.heap.size, 2, none⟩ = some (.slice aq am ae))
   (first | with_reducible exact ⟨(Xa.drew).c0, (Xa.drew).c1, (Xa.drew).c2⟩ | with_reducible exact ⟨((Xa.alloc _).drew).c0, ((Xa.alloc _).drew).c1, ((Xa.alloc _).drew).c2⟩ | with_reducible exact ⟨(((Xa.alloc _).alloc _).drew).c0, (((Xa.alloc _).alloc _).drew).c1, (((Xa.alloc _).alloc _).drew).c2⟩ | with_reducible exact ⟨Xa.c0, Xa.c1, Xa.c2⟩ | with_reducible exact ⟨(Xa.alloc _).c0, (Xa.alloc _).c1, (Xa.alloc _).c2⟩ | with_reducible exact ⟨((Xa.alloc _).alloc _).c0, ((Xa.alloc _).alloc _).c1, ((Xa.alloc _).alloc _).c2⟩ | with_reducible exact ⟨(Xa.other (by omega) _ _).c0, (Xa.other (by omega) _ _).c1, (Xa.other (by omega) _ _).c2⟩ | with_reducible exact ⟨((Xa.other (by omega) _ _).alloc _).c0, ((Xa.other (by omega) _ _).alloc _).c1, ((Xa.other (by omega) _ _).alloc _).c2⟩ | with_reducible exact ⟨((Xa.other (by omega) _ _).other (by omega) _ _).c0, ((Xa.other (by omega) _ _).other (by omega) _ _).c1, ((Xa.other (by omega) _ _).other (by omega) _ _).c2⟩ | go_keep)
   (first
   | (go_at_call 107; clear sa0; refine (upper_any ab ap aq an ac am ae _).mono ?_; rintro e u1 ⟨rfl, hb⟩; have hc : Below u0.heap.size u0 u1 := (by first | exact (Below.refl _ _).drew.trans hb | exact ((Below.refl _ _).alloc (by first | exact Nat.le_refl _ | (simp; done) | (simp; omega)) _).drew.trans (hb.mono (by simp <;> omega)) | exact (((Below.refl _ _).alloc (by first | exact Nat.le_refl _ | (simp; done) | (simp; omega)) _).alloc (by first | exact Nat.le_refl _ | (simp; done) | (simp; omega)) _).drew.trans (hb.mono (by simp <;> omega))); have hz0 := hc.size; have Xa := Xa.later hc; have X2 := X2.later hc; have Ra := Ra.below hc; have bb := below_then bb (Nat.le_refl _) hc; (first | (with_reducible have mm := made2' hb; obtain ⟨m10, m11⟩ := mm) | (with_reducible have m10 := made1' hb) | skip); (try have k10 := m10.lt); (try have k11 := m11.lt); clear hb hc; have sa1 := True.intro)
   | (go_at_call 113; clear sa1; refine (lower_any ab ap aq an ac am ae _).mono ?_; rintro e u2 ⟨rfl, hb⟩; have hc : Below u1.heap.size u1 u2 := (by first | with_reducible exact hb | exact ((Below.refl _ _).alloc (by first | exact Nat.le_refl _ | (simp; done) | (simp; omega)) _).trans (hb.mono (by simp <;> omega)) | exact (((Below.refl _ _).alloc (by first | exact Nat.le_refl _ | (simp; done) | (simp; omega)) _).alloc (by first | exact Nat.le_refl _ | (simp; done) | (simp; omega)) _).trans (hb.mono (by simp <;> omega))); have hz1 := hc.size; have Xa := Xa.later hc; have X2 := X2.later hc; have Ra := Ra.below hc; have bb := below_then bb (Nat.le_refl _) hc; (try have m10 := m10.later hc); (try have m11 := m11.later hc); (first | (with_reducible have mm := made2 hb; obtain ⟨m20, m21⟩ := mm) | (with_reducible have m20 := made1 hb) | skip); (try have k10 := m10.lt); (try have k11 := m11.lt); (try have k20 := m20.lt); (try have k21 := m21.lt); (try (have f100 := m10.c0; have f101 := m10.c1; have f102 := m10.fr 0; have f103 := m10.fr 1)); (try (have f110 := m11.c0; have f111 := m11.c1; have f112 := m11.fr 0; have f113 := m11.fr 1)); (try (have f200 := m20.c0; have f201 := m20.c1; have f202 := m20.fr 0; have f203 := m20.fr 1)); (try (have f210 := m21.c0; have f211 := m21.c1; have f212 := m21.fr 0; have f213 := m21.fr 1)); clear hb hc; have sa2 := True.intro))
  ·go_wp2_with fail; go_meet; exact ⟨_, _, ab, ap, an, ac, false, aq, am, ae, rfl, rfl, ((Box.new _ _ _ (by first | (simp; done) | rfl)).alloc _), (Box.new _ _ _ (by first | (simp; done) | rfl)), ((Xa.alloc _).alloc _), ((X2.alloc _).alloc _), ((Ra.alloc _).alloc _), (((Ra.alloc _).alloc _)).upper la.out, (((Ra.alloc _).alloc _)).lower la.out, (Below.alloc (Below.alloc bb (by first | omega | simp <;> omega) _) (by first | omega | simp <;> omega) _), (by first | omega | (simp; omega)), (by first | omega | (simp; omega)), (by first | omega | (simp; omega) | simp)⟩
  ·go_wp2_with fail; go_meet; exact ⟨_, _, ab, ap, an, ac, false, aq, am, ae, rfl, rfl, (Box.new _ _ _ (by first | (simp; done) | rfl)), ((Box.new _ _ _ (by first | (simp; done) | rfl)).alloc _), ((Xa.alloc _).alloc _), ((X2.alloc _).alloc _), ((Ra.alloc _).alloc _), (((Ra.alloc _).alloc _)).upper la.out, (((Ra.alloc _).alloc _)).lower la.out, (Below.alloc (Below.alloc bb (by first | omega | simp <;> omega) _) (by first | omega | simp <;> omega) _), (by first | omega | (simp; omega)), (by first | omega | (simp; omega)), (by first | omega | (simp; omega) | simp)⟩
  ·go_wp2_with fail; go_meet; exact ⟨_, _, ab, ap, an, ac, false, aq, am, ae, rfl, rfl, ((m20.set _ _).alloc _), (Box.new _ _ _ (by first | (simp; done) | rfl)), ((Xa.other (by omega) _ _).alloc _), ((X2.other (by omega) _ _).alloc _), ((Ra.box m20 _ _).alloc _), (((Ra.box m20 _ _).alloc _)).upper la.out, (((Ra.box m20 _ _).alloc _)).lower la.out, (Below.alloc (below_set bb (by omega) _ _) (by first | omega | simp <;> omega) _), (by first | omega | (simp; omega)), (by first | omega | (simp; omega)), (by first | omega | (simp; omega) | simp)⟩
  ·go_wp2_with fail; go_meet; exact ⟨_, _, ab, ap, an, ac, false, aq, am, ae, rfl, rfl, ((m20.set _ _).other (by omega) _ _), ((m21.other (by omega) _ _).set _ _), ((Xa.other (by omega) _ _).other (by omega) _ _), ((X2.other (by omega) _ _).other (by omega) _ _), ((Ra.box m20 _ _).box (m21.other (by omega) _ _) _ _), (((Ra.box m20 _ _).box (m21.other (by omega) _ _) _ _)).upper la.out, (((Ra.box m20 _ _).box (m21.other (by omega) _ _) _ _)).lower la.out, (below_set (below_set bb (by omega) _ _) (by omega) _ _), (by first | omega | (simp; omega)), (by first | omega | (simp; omega)), (by first | omega | (simp; omega) | simp)⟩
  ·go_wp2_with fail; go_meet; exact ⟨_, _, ab, ap, an, ac, false, aq, am, ae, rfl, rfl, (Box.new _ _ _ (by first | (simp; done) | rfl)), ((m20.set _ _).alloc _), ((Xa.other (by omega) _ _).alloc _), ((X2.other (by omega) _ _).alloc _), ((Ra.box m20 _ _).alloc _), (((Ra.box m20 _ _).alloc _)).upper la.out, (((Ra.box m20 _ _).alloc _)).lower la.out, (Below.alloc (below_set bb (by omega) _ _) (by first | omega | simp <;> omega) _), (by first | omega | (simp; omega)), (by first | omega | (simp; omega)), (by first | omega | (simp; omega) | simp)⟩
  ·go_wp2_with fail; go_meet; exact ⟨_, _, ab, ap, an, ac, false, aq, am, ae, rfl, rfl, ((m21.set _ _).other (by omega) _ _), ((m20.other (by omega) _ _).set _ _), ((Xa.other (by omega) _ _).other (by omega) _ _), ((X2.other (by omega) _ _).other (by omega) _ _), ((Ra.box m21 _ _).box (m20.other (by omega) _ _) _ _), (((Ra.box m21 _ _).box (m20.other (by omega) _ _) _ _)).upper la.out, (((Ra.box m21 _ _).box (m20.other (by omega) _ _) _ _)).lower la.out, (below_set (below_set bb (by omega) _ _) (by omega) _ _), (by first | omega | (simp; omega)), (by first | omega | (simp; omega)), (by first | omega | (simp; omega) | simp)⟩
  ·go_wp2_with fail; go_meet; exact ⟨_, _, ab, ap, an, ac, false, aq, am, ae, rfl, rfl, ((m10.set _ _).alloc _), (Box.new _ _ _ (by first | (simp; done) | rfl)), ((Xa.other (by omega) _ _).alloc _), ((X2.other (by omega) _ _).alloc _), ((Ra.box m10 _ _).alloc _), (((Ra.box m10 _ _).alloc _)).upper la.out, (((Ra.box m10 _ _).alloc _)).lower la.out, (Below.alloc (below_set bb (by omega) _ _) (by first | omega | simp <;> omega) _), (by first | omega | (simp; omega)), (by first | omega | (simp; omega)), (by first | omega | (simp; omega) | simp)⟩
  ·go_wp2_with fail; go_meet; exact ⟨_, _, ab, ap, an, ac, false, aq, am, ae, rfl, rfl, ((m10.set _ _).other (by omega) _ _), ((m20.other (by omega) _ _).set _ _), ((Xa.other (by omega) _ _).other (by omega) _ _), ((X2.other (by omega) _ _).other (by omega) _ _), ((Ra.box m10 _ _).box (m20.other (by omega) _ _) _ _), (((Ra.box m10 _ _).box (m20.other (by omega) _ _) _ _)).upper la.out, (((Ra.box m10 _ _).box (m20.other (by omega) _ _) _ _)).lower la.out, (below_set (below_set bb (by omega) _ _) (by omega) _ _), (by first | omega | (simp; omega)), (by first | omega | (simp; omega)), (by first | omega | (simp; omega) | simp)⟩
  ·go_wp2_with fail; go_meet; exact ⟨_, _, ab, ap, an, ac, false, aq, am, ae, rfl, rfl, ((m10.set _ _).other (by omega) _ _), ((m11.other (by omega) _ _).set _ _), ((Xa.other (by omega) _ _).other (by omega) _ _), ((X2.other (by omega) _ _).other (by omega) _ _), ((Ra.box m10 _ _).box (m11.other (by omega) _ _) _ _), (((Ra.box m10 _ _).box (m11.other (by omega) _ _) _ _)).upper la.out, (((Ra.box m10 _ _).box (m11.other (by omega) _ _) _ _)).lower la.out, (below_set (below_set bb (by omega) _ _) (by omega) _ _), (by first | omega | (simp; omega)), (by first | omega | (simp; omega)), (by first | omega | (simp; omega) | simp)⟩
  ·go_wp2_with fail; go_meet; exact ⟨_, _, ab, ap, an, ac, false, aq, am, ae, rfl, rfl, (Box.new _ _ _ (by first | (simp; done) | rfl)), ((m10.set _ _).alloc _), ((Xa.other (by omega) _ _).alloc _), ((X2.other (by omega) _ _).alloc _), ((Ra.box m10 _ _).alloc _), (((Ra.box m10 _ _).alloc _)).upper la.out, (((Ra.box m10 _ _).alloc _)).lower la.out, (Below.alloc (below_set bb (by omega) _ _) (by first | omega | simp <;> omega) _), (by first | omega | (simp; omega)), (by first | omega | (simp; omega)), (by first | omega | (simp; omega) | simp)⟩
  ·go_wp2_with fail; go_meet; exact ⟨_, _, ab, ap, an, ac, false, aq, am, ae, rfl, rfl, ((m20.set _ _).other (by omega) _ _), ((m10.other (by omega) _ _).set _ _), ((Xa.other (by omega) _ _).other (by omega) _ _), ((X2.other (by omega) _ _).other (by omega) _ _), ((Ra.box m20 _ _).box (m10.other (by omega) _ _) _ _), (((Ra.box m20 _ _).box (m10.other (by omega) _ _) _ _)).upper la.out, (((Ra.box m20 _ _).box (m10.other (by omega) _ _) _ _)).lower la.out, (below_set (below_set bb (by omega) _ _) (by omega) _ _), (by first | omega | (simp; omega)), (by first | omega | (simp; omega)), (by first | omega | (simp; omega) | simp)⟩
  ·go_wp2_with fail; go_meet; exact ⟨_, _, ab, ap, an, ac, false, aq, am, ae, rfl, rfl, ((m11.set _ _).other (by omega) _ _), ((m10.other (by omega) _ _).set _ _), ((Xa.other (by omega) _ _).other (by omega) _ _), ((X2.other (by omega) _ _).other (by omega) _ _), ((Ra.box m11 _ _).box (m10.other (by omega) _ _) _ _), (((Ra.box m11 _ _).box (m10.other (by omega) _ _) _ _)).upper la.out, (((Ra.box m11 _ _).box (m10.other (by omega) _ _) _ _)).lower la.out, (below_set (below_set bb (by omega) _ _) (by omega) _ _), (by first | omega | (simp; omega)), (by first | omega | (simp; omega)), (by first | omega | (simp; omega) | simp)⟩
 case rest =>
  obtain ⟨Y, Z, yb, yo, yn, yc, zb, zo, zn, zc, rfl, rfl, XY, XZ, Xa, X2, Ra, WY, WZ, bb, hY, hZ, hYZ⟩ := hcut
  replace bb := Lib.hid bb; replace Xa := Lib.hid Xa; replace X2 := Lib.hid X2; replace XY := Lib.hid XY; replace XZ := Lib.hid XZ; replace Ra := Lib.hid Ra; replace WY := Lib.hid WY; replace WZ := Lib.hid WZ
  by_cases hn : n < 0
  ·have hd : decide (n < 0) = true := decide_eq_true hn
   replace hn := Lib.hid hn
   have gd : Hid (w.heap.size ≠ Y ∧ w.heap.size ≠ Z ∧ w.heap.size + 1 ≠ Y ∧ w.heap.size + 1 ≠ Z ∧ Y ≠ Z ∧ Z ≠ Y ∧ w.heap.size ≤ Y ∧ w.heap.size ≤ Z) := Lib.hid (by omega)
   by_cases hP : P = 0
   ·have hs : P.sign = 0 := by rw [hP]; rfl
    have hPn : Hid (P = 0 ∨ n = -9223372036854775808) := Lib.hid (.inl hP)
    clear hP
    have p00 := Xa.out.c0; have p01 := Xa.out.c1; have p02 := Xa.out.c2
    go_wp2_with fail
    clear p00 p01 p02
    refine (sign_any ab ap aq an ac am ae P Q _ Ra.out la.out).mono ?_
    rw [hs]
    rintro e v21 ⟨rfl, hb⟩
    replace bb := Lib.hid (below_then bb.out (Nat.le_refl _) hb); replace Xa := Lib.hid (Xa.out.later hb); replace X2 := Lib.hid (X2.out.later hb); replace XY := Lib.hid (XY.out.later hb); replace XZ := Lib.hid (XZ.out.later hb); replace Ra := Lib.hid (Ra.out.below hb); replace WY := Lib.hid (WY.out.below hb); replace WZ := Lib.hid (WZ.out.below hb)
    clear hs hb Xa XY XZ Ra WY WZ
    replace X2 := X2.out
    replace bb := bb.out
    have q0 := X2.c0; have q1 := X2.c1; have q2 := X2.c2; have q3 := X2.fr 0; have q4 := X2.fr 1; have q5 := X2.fr 2
    have zz := X2.set (.bool false) (.slice none 0 0) (.slice none 0 0)
    have e0 := zz.c0; have e1 := zz.c1; have e2 := zz.c2
    have Y2 := Lib.hid X2; have bb' := Lib.hid bb
    clear zz X2 bb
    go_wp2_with fail
    refine bodyPost_ret (v := .tuple #[.agg #[.bool false, .slice none 0 0, .slice none 0 0], .int .i64 (3)]) (by simp [results, Tryz.results123, go_sem, e0, e1, e2]) rfl ?_
    exact pow_bad hn.out hPn.out (ResPost.stored (rt_zero _) Y2.out bb'.out (by omega))
   have hs : ¬ P.sign = 0 := fun e => hP (Int.sign_eq_zero_iff_zero.1 e)
   replace hP := Lib.hid hP
   have p00 := Xa.out.c0; have p01 := Xa.out.c1; have p02 := Xa.out.c2
   go_wp2_with fail
   clear p00 p01 p02
   refine (sign_any ab ap aq an ac am ae P Q _ Ra.out la.out).mono ?_
   rintro e v21 ⟨rfl, hb⟩
   replace bb := Lib.hid (below_then bb.out (Nat.le_refl _) hb); replace Xa := Lib.hid (Xa.out.later hb); replace X2 := Lib.hid (X2.out.later hb); replace XY := Lib.hid (XY.out.later hb); replace XZ := Lib.hid (XZ.out.later hb); replace Ra := Lib.hid (Ra.out.below hb); replace WY := Lib.hid (WY.out.below hb); replace WZ := Lib.hid (WZ.out.below hb)
   clear hb
   by_cases hm : n = -9223372036854775808
   ·have hPn : Hid (P = 0 ∨ n = -9223372036854775808) := Lib.hid (.inr hm)
    have hm2 : (n == -9223372036854775808) = true := by rw [hm]; rfl
    clear hm Xa XY XZ Ra WY WZ
    replace X2 := X2.out
    replace bb := bb.out
    have q0 := X2.c0; have q1 := X2.c1; have q2 := X2.c2; have q3 := X2.fr 0; have q4 := X2.fr 1; have q5 := X2.fr 2
    have zz := X2.set (.bool false) (.slice none 0 0) (.slice none 0 0)
    have e0 := zz.c0; have e1 := zz.c1; have e2 := zz.c2
    have Y2 := Lib.hid X2; have bb' := Lib.hid bb
    clear zz X2 bb
    go_wp2_with fail
    refine bodyPost_ret (v := .tuple #[.agg #[.bool false, .slice none 0 0, .slice none 0 0], .int .i64 (3)]) (by simp [results, Tryz.results123, go_sem, e0, e1, e2]) rfl ?_
    exact pow_bad hn.out hPn.out (ResPost.stored (rt_zero _) Y2.out bb'.out (by omega))
   have hPn : Hid (¬ (P = 0 ∨ n = -9223372036854775808)) := Lib.hid (fun h => h.elim hP.out hm)
   have hm2 : (n == -9223372036854775808) = false := beq_eq_false_iff_ne.2 hm
   have hk1 : Hid (-n ≤ 9223372036854775807) := Lib.hid (by have := n0.out; omega)
   have hk0 : Hid (-9223372036854775808 ≤ -n) := Lib.hid (by have := n1.out; omega)
   have hw2 : IntKind.i64.wrap (-n) = -n := by have := hn.out; have := hk1.out; simp [IntKind.wrap, IntKind.bits, IntKind.signed]; omega
   have hw1 : wrap64 (-n) = -n := by rw [wrap_is]; exact hw2
   clear hm
   have pY0 := XY.out.c0; have pY1 := XY.out.c1; have pZ0 := XZ.out.c0; have pZ1 := XZ.out.c1; have fY0 := XY.out.fr 0; have fY1 := XY.out.fr 1; have fZ0 := XZ.out.fr 0; have fZ1 := XZ.out.fr 1
   have gd1 := gd.out.2.2.2.2.1; have gd2 := gd.out.2.2.2.2.2.1
   go_upto_region 6 with fail
   clear pY0 pY1 pZ0 pZ1 fY0 fY1 fZ0 fZ1 gd1 gd2 hs hm2
   refine gen_wp (fun w' => Below w.heap.size w w' ∧ Box3 w' w.heap.size (.bool ab) (.slice ap an ac) (.slice aq am ae) ∧ Box3 w' (w.heap.size + 1) (.bool false) (.slice none 0 0) (.slice none 0 0) ∧ Box w' Y (.bool zb) (.slice zo zn zc) ∧ Box w' Z (.bool yb) (.slice yo yn yc) ∧ Rt w' ab ap an ac aq am ae P Q ∧ Whole w' zb zo zn zc Q ∧ Whole w' yb yo yn yc P)
    ⟨below_set (below_set bb.out gd.out.2.2.2.2.2.2.1 _ _) gd.out.2.2.2.2.2.2.2 _ _, (Xa.out.other gd.out.1 _ _).other gd.out.2.1 _ _, (X2.out.other gd.out.2.2.1 _ _).other gd.out.2.2.2.1 _ _, (XY.out.set _ _).other gd.out.2.2.2.2.1 _ _, (XZ.out.other gd.out.2.2.2.2.2.1 _ _).set _ _, (Ra.out.box XY.out _ _).box (XZ.out.other gd.out.2.2.2.2.2.1 _ _) _ _, (WZ.out.box XY.out _ _).box (XZ.out.other gd.out.2.2.2.2.2.1 _ _) _ _, (WY.out.box XY.out _ _).box (XZ.out.other gd.out.2.2.2.2.2.1 _ _) _ _⟩ ?_
   clear bb Xa X2 XY XZ Ra WY WZ
   rintro x30 ⟨bb, Xa, X2, XY, XZ, Ra, WY, WZ⟩
   replace bb := Lib.hid bb; replace Xa := Lib.hid Xa; replace X2 := Lib.hid X2; replace XY := Lib.hid XY; replace XZ := Lib.hid XZ; replace Ra := Lib.hid Ra; replace WY := Lib.hid WY; replace WZ := Lib.hid WZ
   obtain ⟨E1, hE1⟩ : ∃ E1, Hid (powE (-n) ((Q : Int)) = E1) := ⟨_, Lib.hid rfl⟩
   obtain ⟨E2, hE2⟩ : ∃ E2, Hid (powE (-n) (P) = E2) := ⟨_, Lib.hid rfl⟩
   have p00 := XY.out.c0; have p01 := XY.out.c1
   go_wp2_with fail
   clear p00 p01
   refine ((wPow_any zb zo zn zc ((Q : Int)) (-n) _ WY.out (grow_64 la.out.bot_lt) hk0.out hk1.out).mono fun _ _ => pow_split hE1.out).mono ?_
   rintro e v22 ⟨db, do_, dn, dc, rfl, D, hb⟩
   replace bb := Lib.hid (below_then bb.out (Nat.le_refl _) hb); replace Xa := Lib.hid (Xa.out.later hb); replace X2 := Lib.hid (X2.out.later hb); replace XY := Lib.hid (XY.out.later hb); replace XZ := Lib.hid (XZ.out.later hb); replace Ra := Lib.hid (Ra.out.below hb); replace WY := Lib.hid (WY.out.below hb); replace WZ := Lib.hid (WZ.out.below hb)
   by_cases h1 : E1 = 0
   ·subst h1
    replace D := Lib.hid D
    clear hb
    go_upto_region 7 with fail
    refine gen_wp (fun w' => Below w.heap.size w w' ∧ Box3 w' w.heap.size (.bool ab) (.slice ap an ac) (.slice aq am ae) ∧ Box3 w' (w.heap.size + 1) (.bool false) (.slice none 0 0) (.slice none 0 0) ∧ Box w' Y (.bool zb) (.slice zo zn zc) ∧ Box w' Z (.bool yb) (.slice yo yn yc) ∧ Box w' v22.heap.size (.bool db) (.slice do_ dn dc) ∧ Rt w' ab ap an ac aq am ae P Q ∧ Whole w' zb zo zn zc Q ∧ Whole w' yb yo yn yc P ∧ Right w' db do_ dn dc (powV (-n) ((Q : Int))))
     ⟨bb.out.alloc bb.out.size _, Xa.out.alloc _, X2.out.alloc _, XY.out.alloc _, XZ.out.alloc _, Box.new _ _ _ rfl, Ra.out.alloc _, WY.out.alloc _, WZ.out.alloc _, D.out.alloc _⟩ ?_
    clear bb Xa X2 XY XZ Ra WY WZ D
    rintro x22 ⟨bb, Xa, X2, XY, XZ, Xd, Ra, WY, WZ, D⟩
    replace bb := Lib.hid bb; replace Xa := Lib.hid Xa; replace X2 := Lib.hid X2; replace XY := Lib.hid XY; replace XZ := Lib.hid XZ; replace Xd := Lib.hid Xd; replace Ra := Lib.hid Ra; replace WY := Lib.hid WY; replace WZ := Lib.hid WZ; replace D := Lib.hid D
    go_upto_region 9 with fail
    have p00 := XZ.out.c0; have p01 := XZ.out.c1
    go_wp2_with fail
    clear p00 p01
    refine ((wPow_any yb yo yn yc (P) (-n) _ WZ.out (grow_64 la.out.abs_lt) hk0.out hk1.out).mono fun _ _ => pow_split hE2.out).mono ?_
    rintro e v23 ⟨eb, eo, en, ec, rfl, E, hb⟩
    replace bb := Lib.hid (below_then bb.out (Nat.le_refl _) hb); replace Xa := Lib.hid (Xa.out.later hb); replace X2 := Lib.hid (X2.out.later hb); replace XY := Lib.hid (XY.out.later hb); replace XZ := Lib.hid (XZ.out.later hb); replace Xd := Lib.hid (Xd.out.later hb); replace Ra := Lib.hid (Ra.out.below hb); replace WY := Lib.hid (WY.out.below hb); replace WZ := Lib.hid (WZ.out.below hb); replace D := Lib.hid (D.out.below hb)
    by_cases h2 : E2 = 0
    ·subst h2
     replace E := Lib.hid E
     clear hb
     go_upto_region 10 with fail
     refine gen_wp (fun w' => Below w.heap.size w w' ∧ Box3 w' w.heap.size (.bool ab) (.slice ap an ac) (.slice aq am ae) ∧ Box3 w' (w.heap.size + 1) (.bool false) (.slice none 0 0) (.slice none 0 0) ∧ Box w' Y (.bool zb) (.slice zo zn zc) ∧ Box w' Z (.bool yb) (.slice yo yn yc) ∧ Box w' v22.heap.size (.bool db) (.slice do_ dn dc) ∧ Box w' v23.heap.size (.bool eb) (.slice eo en ec) ∧ Rt w' ab ap an ac aq am ae P Q ∧ Whole w' zb zo zn zc Q ∧ Whole w' yb yo yn yc P ∧ Right w' db do_ dn dc (powV (-n) ((Q : Int))) ∧ Right w' eb eo en ec (powV (-n) (P)))
      ⟨bb.out.alloc bb.out.size _, Xa.out.alloc _, X2.out.alloc _, XY.out.alloc _, XZ.out.alloc _, Xd.out.alloc _, Box.new _ _ _ rfl, Ra.out.alloc _, WY.out.alloc _, WZ.out.alloc _, D.out.alloc _, E.out.alloc _⟩ ?_
     clear bb Xa X2 XY XZ Xd Ra WY WZ D E
     rintro x23 ⟨bb, Xa, X2, XY, XZ, Xd, Xe, Ra, WY, WZ, D, E⟩
     replace bb := Lib.hid bb; replace Xa := Lib.hid Xa; replace X2 := Lib.hid X2; replace XY := Lib.hid XY; replace XZ := Lib.hid XZ; replace Xd := Lib.hid Xd; replace Xe := Lib.hid Xe; replace Ra := Lib.hid Ra; replace WY := Lib.hid WY; replace WZ := Lib.hid WZ; replace D := Lib.hid D; replace E := Lib.hid E
     go_upto_region 12 with fail
     have p00 := Xd.out.c0; have p01 := Xd.out.c1; have p10 := Xe.out.c0; have p11 := Xe.out.c1
     go_wp2_with fail
     clear p00 p01 p10 p11
     refine (make_any db eb do_ eo dn dc en ec (powV (-n) ((Q : Int))) (powV (-n) (P)) _ (D.out.whole32 (powV_lt (-n) ((Q : Int)))) (E.out.whole32 (powV_lt (-n) (P)))).mono ?_
     rintro e v24 ⟨zb, zp, zn, zc, zq, zm, ze, rfl, N, hb⟩
     replace bb := Lib.hid (below_then bb.out (Nat.le_refl _) hb); replace Xa := Lib.hid (Xa.out.later hb); replace X2 := Lib.hid (X2.out.later hb); replace XY := Lib.hid (XY.out.later hb); replace XZ := Lib.hid (XZ.out.later hb); replace Xd := Lib.hid (Xd.out.later hb); replace Xe := Lib.hid (Xe.out.later hb); replace Ra := Lib.hid (Ra.out.below hb); replace WY := Lib.hid (WY.out.below hb); replace WZ := Lib.hid (WZ.out.below hb); replace D := Lib.hid (D.out.below hb); replace E := Lib.hid (E.out.below hb)
     replace N := Lib.hid N
     clear hb Xa XY XZ Xd Xe Ra WY WZ D E
     replace X2 := X2.out
     replace bb := bb.out
     have q0 := X2.c0; have q1 := X2.c1; have q2 := X2.c2; have q3 := X2.fr 0; have q4 := X2.fr 1; have q5 := X2.fr 2
     have zz := X2.set (.bool zb) (.slice zp zn zc) (.slice zq zm ze)
     have e0 := zz.c0; have e1 := zz.c1; have e2 := zz.c2
     have Y2 := Lib.hid X2; have bb' := Lib.hid bb
     clear zz X2 bb
     go_wp2_with fail
     refine bodyPost_ret (v := .tuple #[.agg #[.bool zb, .slice zp zn zc, .slice zq zm ze], .int .i64 (mkE (powV (-n) ((Q : Int))) (powV (-n) (P)))]) (by simp [results, Tryz.results123, go_sem, e0, e1, e2]) rfl ?_
     exact pow_neg hn.out hPn.out (pw_ok hE1.out hE2.out (ResPost.stored N.out Y2.out bb'.out (by omega)))
    ·replace h2 := Lib.hid h2
     replace E := Lib.hid E
     clear hb
     go_upto_region 10 with fail
     refine gen_wp (fun w' => Below w.heap.size w w' ∧ Box3 w' w.heap.size (.bool ab) (.slice ap an ac) (.slice aq am ae) ∧ Box3 w' (w.heap.size + 1) (.bool false) (.slice none 0 0) (.slice none 0 0) ∧ Box w' Y (.bool zb) (.slice zo zn zc) ∧ Box w' Z (.bool yb) (.slice yo yn yc) ∧ Box w' v22.heap.size (.bool db) (.slice do_ dn dc) ∧ Box w' v23.heap.size (.bool eb) (.slice eo en ec) ∧ Rt w' ab ap an ac aq am ae P Q ∧ Whole w' zb zo zn zc Q ∧ Whole w' yb yo yn yc P ∧ Right w' db do_ dn dc (powV (-n) ((Q : Int))) ∧ Right w' eb eo en ec (powV (-n) (P)))
      ⟨bb.out.alloc bb.out.size _, Xa.out.alloc _, X2.out.alloc _, XY.out.alloc _, XZ.out.alloc _, Xd.out.alloc _, Box.new _ _ _ rfl, Ra.out.alloc _, WY.out.alloc _, WZ.out.alloc _, D.out.alloc _, E.out.alloc _⟩ ?_
     clear bb Xa X2 XY XZ Xd Ra WY WZ D E
     rintro x23 ⟨bb, Xa, X2, XY, XZ, Xd, Xe, Ra, WY, WZ, D, E⟩
     replace bb := Lib.hid bb; replace Xa := Lib.hid Xa; replace X2 := Lib.hid X2; replace XY := Lib.hid XY; replace XZ := Lib.hid XZ; replace Xd := Lib.hid Xd; replace Xe := Lib.hid Xe; replace Ra := Lib.hid Ra; replace WY := Lib.hid WY; replace WZ := Lib.hid WZ; replace D := Lib.hid D; replace E := Lib.hid E
     have hz := h2.out
     clear Xa XY XZ Xd Xe Ra WY WZ D E
     replace X2 := X2.out
     replace bb := bb.out
     have q0 := X2.c0; have q1 := X2.c1; have q2 := X2.c2; have q3 := X2.fr 0; have q4 := X2.fr 1; have q5 := X2.fr 2
     have zz := X2.set (.bool false) (.slice none 0 0) (.slice none 0 0)
     have e0 := zz.c0; have e1 := zz.c1; have e2 := zz.c2
     have Y2 := Lib.hid X2; have bb' := Lib.hid bb
     clear zz X2 bb
     go_wp2_with fail
     refine bodyPost_ret (v := .tuple #[.agg #[.bool false, .slice none 0 0, .slice none 0 0], .int .i64 (E2)]) (by simp [results, Tryz.results123, go_sem, e0, e1, e2]) rfl ?_
     exact pow_neg hn.out hPn.out (pw_two hE1.out hE2.out h2.out (ResPost.stored (rt_zero _) Y2.out bb'.out (by omega)))
   ·replace h1 := Lib.hid h1
    replace D := Lib.hid D
    clear hb
    go_upto_region 7 with fail
    refine gen_wp (fun w' => Below w.heap.size w w' ∧ Box3 w' w.heap.size (.bool ab) (.slice ap an ac) (.slice aq am ae) ∧ Box3 w' (w.heap.size + 1) (.bool false) (.slice none 0 0) (.slice none 0 0) ∧ Box w' Y (.bool zb) (.slice zo zn zc) ∧ Box w' Z (.bool yb) (.slice yo yn yc) ∧ Box w' v22.heap.size (.bool db) (.slice do_ dn dc) ∧ Rt w' ab ap an ac aq am ae P Q ∧ Whole w' zb zo zn zc Q ∧ Whole w' yb yo yn yc P ∧ Right w' db do_ dn dc (powV (-n) ((Q : Int))))
     ⟨bb.out.alloc bb.out.size _, Xa.out.alloc _, X2.out.alloc _, XY.out.alloc _, XZ.out.alloc _, Box.new _ _ _ rfl, Ra.out.alloc _, WY.out.alloc _, WZ.out.alloc _, D.out.alloc _⟩ ?_
    clear bb Xa X2 XY XZ Ra WY WZ D
    rintro x22 ⟨bb, Xa, X2, XY, XZ, Xd, Ra, WY, WZ, D⟩
    replace bb := Lib.hid bb; replace Xa := Lib.hid Xa; replace X2 := Lib.hid X2; replace XY := Lib.hid XY; replace XZ := Lib.hid XZ; replace Xd := Lib.hid Xd; replace Ra := Lib.hid Ra; replace WY := Lib.hid WY; replace WZ := Lib.hid WZ; replace D := Lib.hid D
    have hz := h1.out
    clear Xa XY XZ Xd Ra WY WZ D
    replace X2 := X2.out
    replace bb := bb.out
    have q0 := X2.c0; have q1 := X2.c1; have q2 := X2.c2; have q3 := X2.fr 0; have q4 := X2.fr 1; have q5 := X2.fr 2
    have zz := X2.set (.bool false) (.slice none 0 0) (.slice none 0 0)
    have e0 := zz.c0; have e1 := zz.c1; have e2 := zz.c2
    have Y2 := Lib.hid X2; have bb' := Lib.hid bb
    clear zz X2 bb
    go_wp2_with fail
    refine bodyPost_ret (v := .tuple #[.agg #[.bool false, .slice none 0 0, .slice none 0 0], .int .i64 (E1)]) (by simp [results, Tryz.results123, go_sem, e0, e1, e2]) rfl ?_
    exact pow_neg hn.out hPn.out (pw_one hE1.out h1.out (ResPost.stored (rt_zero _) Y2.out bb'.out (by omega)))
  ·have hd : decide (n < 0) = false := decide_eq_false hn
   replace hn := Lib.hid hn
   go_upto_region 6 with fail
   clear hd
   obtain ⟨E1, hE1⟩ : ∃ E1, Hid (powE (n) (P) = E1) := ⟨_, Lib.hid rfl⟩
   obtain ⟨E2, hE2⟩ : ∃ E2, Hid (powE (n) ((Q : Int)) = E2) := ⟨_, Lib.hid rfl⟩
   have p00 := XY.out.c0; have p01 := XY.out.c1
   go_wp2_with fail
   clear p00 p01
   refine ((wPow_any yb yo yn yc (P) (n) _ WY.out (grow_64 la.out.abs_lt) n0.out n1.out).mono fun _ _ => pow_split hE1.out).mono ?_
   rintro e v21 ⟨db, do_, dn, dc, rfl, D, hb⟩
   replace bb := Lib.hid (below_then bb.out (Nat.le_refl _) hb); replace Xa := Lib.hid (Xa.out.later hb); replace X2 := Lib.hid (X2.out.later hb); replace XY := Lib.hid (XY.out.later hb); replace XZ := Lib.hid (XZ.out.later hb); replace Ra := Lib.hid (Ra.out.below hb); replace WY := Lib.hid (WY.out.below hb); replace WZ := Lib.hid (WZ.out.below hb)
   by_cases h1 : E1 = 0
   ·subst h1
    replace D := Lib.hid D
    clear hb
    go_upto_region 7 with fail
    refine gen_wp (fun w' => Below w.heap.size w w' ∧ Box3 w' w.heap.size (.bool ab) (.slice ap an ac) (.slice aq am ae) ∧ Box3 w' (w.heap.size + 1) (.bool false) (.slice none 0 0) (.slice none 0 0) ∧ Box w' Y (.bool yb) (.slice yo yn yc) ∧ Box w' Z (.bool zb) (.slice zo zn zc) ∧ Box w' v21.heap.size (.bool db) (.slice do_ dn dc) ∧ Rt w' ab ap an ac aq am ae P Q ∧ Whole w' yb yo yn yc P ∧ Whole w' zb zo zn zc Q ∧ Right w' db do_ dn dc (powV (n) (P)))
     ⟨bb.out.alloc bb.out.size _, Xa.out.alloc _, X2.out.alloc _, XY.out.alloc _, XZ.out.alloc _, Box.new _ _ _ rfl, Ra.out.alloc _, WY.out.alloc _, WZ.out.alloc _, D.out.alloc _⟩ ?_
    clear bb Xa X2 XY XZ Ra WY WZ D
    rintro x21 ⟨bb, Xa, X2, XY, XZ, Xd, Ra, WY, WZ, D⟩
    replace bb := Lib.hid bb; replace Xa := Lib.hid Xa; replace X2 := Lib.hid X2; replace XY := Lib.hid XY; replace XZ := Lib.hid XZ; replace Xd := Lib.hid Xd; replace Ra := Lib.hid Ra; replace WY := Lib.hid WY; replace WZ := Lib.hid WZ; replace D := Lib.hid D
    go_upto_region 9 with fail
    have p00 := XZ.out.c0; have p01 := XZ.out.c1
    go_wp2_with fail
    clear p00 p01
    refine ((wPow_any zb zo zn zc ((Q : Int)) (n) _ WZ.out (grow_64 la.out.bot_lt) n0.out n1.out).mono fun _ _ => pow_split hE2.out).mono ?_
    rintro e v22 ⟨eb, eo, en, ec, rfl, E, hb⟩
    replace bb := Lib.hid (below_then bb.out (Nat.le_refl _) hb); replace Xa := Lib.hid (Xa.out.later hb); replace X2 := Lib.hid (X2.out.later hb); replace XY := Lib.hid (XY.out.later hb); replace XZ := Lib.hid (XZ.out.later hb); replace Xd := Lib.hid (Xd.out.later hb); replace Ra := Lib.hid (Ra.out.below hb); replace WY := Lib.hid (WY.out.below hb); replace WZ := Lib.hid (WZ.out.below hb); replace D := Lib.hid (D.out.below hb)
    by_cases h2 : E2 = 0
    ·subst h2
     replace E := Lib.hid E
     clear hb
     go_upto_region 10 with fail
     refine gen_wp (fun w' => Below w.heap.size w w' ∧ Box3 w' w.heap.size (.bool ab) (.slice ap an ac) (.slice aq am ae) ∧ Box3 w' (w.heap.size + 1) (.bool false) (.slice none 0 0) (.slice none 0 0) ∧ Box w' Y (.bool yb) (.slice yo yn yc) ∧ Box w' Z (.bool zb) (.slice zo zn zc) ∧ Box w' v21.heap.size (.bool db) (.slice do_ dn dc) ∧ Box w' v22.heap.size (.bool eb) (.slice eo en ec) ∧ Rt w' ab ap an ac aq am ae P Q ∧ Whole w' yb yo yn yc P ∧ Whole w' zb zo zn zc Q ∧ Right w' db do_ dn dc (powV (n) (P)) ∧ Right w' eb eo en ec (powV (n) ((Q : Int))))
      ⟨bb.out.alloc bb.out.size _, Xa.out.alloc _, X2.out.alloc _, XY.out.alloc _, XZ.out.alloc _, Xd.out.alloc _, Box.new _ _ _ rfl, Ra.out.alloc _, WY.out.alloc _, WZ.out.alloc _, D.out.alloc _, E.out.alloc _⟩ ?_
     clear bb Xa X2 XY XZ Xd Ra WY WZ D E
     rintro x22 ⟨bb, Xa, X2, XY, XZ, Xd, Xe, Ra, WY, WZ, D, E⟩
     replace bb := Lib.hid bb; replace Xa := Lib.hid Xa; replace X2 := Lib.hid X2; replace XY := Lib.hid XY; replace XZ := Lib.hid XZ; replace Xd := Lib.hid Xd; replace Xe := Lib.hid Xe; replace Ra := Lib.hid Ra; replace WY := Lib.hid WY; replace WZ := Lib.hid WZ; replace D := Lib.hid D; replace E := Lib.hid E
     go_upto_region 12 with fail
     have p00 := Xd.out.c0; have p01 := Xd.out.c1; have p10 := Xe.out.c0; have p11 := Xe.out.c1
     go_wp2_with fail
     clear p00 p01 p10 p11
     refine (make_any db eb do_ eo dn dc en ec (powV (n) (P)) (powV (n) ((Q : Int))) _ (D.out.whole32 (powV_lt (n) (P))) (E.out.whole32 (powV_lt (n) ((Q : Int))))).mono ?_
     rintro e v23 ⟨zb, zp, zn, zc, zq, zm, ze, rfl, N, hb⟩
     replace bb := Lib.hid (below_then bb.out (Nat.le_refl _) hb); replace Xa := Lib.hid (Xa.out.later hb); replace X2 := Lib.hid (X2.out.later hb); replace XY := Lib.hid (XY.out.later hb); replace XZ := Lib.hid (XZ.out.later hb); replace Xd := Lib.hid (Xd.out.later hb); replace Xe := Lib.hid (Xe.out.later hb); replace Ra := Lib.hid (Ra.out.below hb); replace WY := Lib.hid (WY.out.below hb); replace WZ := Lib.hid (WZ.out.below hb); replace D := Lib.hid (D.out.below hb); replace E := Lib.hid (E.out.below hb)
     replace N := Lib.hid N
     clear hb Xa XY XZ Xd Xe Ra WY WZ D E
     replace X2 := X2.out
     replace bb := bb.out
     have q0 := X2.c0; have q1 := X2.c1; have q2 := X2.c2; have q3 := X2.fr 0; have q4 := X2.fr 1; have q5 := X2.fr 2
     have zz := X2.set (.bool zb) (.slice zp zn zc) (.slice zq zm ze)
     have e0 := zz.c0; have e1 := zz.c1; have e2 := zz.c2
     have Y2 := Lib.hid X2; have bb' := Lib.hid bb
     clear zz X2 bb
     go_wp2_with fail
     refine bodyPost_ret (v := .tuple #[.agg #[.bool zb, .slice zp zn zc, .slice zq zm ze], .int .i64 (mkE (powV (n) (P)) (powV (n) ((Q : Int))))]) (by simp [results, Tryz.results123, go_sem, e0, e1, e2]) rfl ?_
     exact pow_pos (by have := hn.out; omega) (pw_ok hE1.out hE2.out (ResPost.stored N.out Y2.out bb'.out (by omega)))
    ·replace h2 := Lib.hid h2
     replace E := Lib.hid E
     clear hb
     go_upto_region 10 with fail
     refine gen_wp (fun w' => Below w.heap.size w w' ∧ Box3 w' w.heap.size (.bool ab) (.slice ap an ac) (.slice aq am ae) ∧ Box3 w' (w.heap.size + 1) (.bool false) (.slice none 0 0) (.slice none 0 0) ∧ Box w' Y (.bool yb) (.slice yo yn yc) ∧ Box w' Z (.bool zb) (.slice zo zn zc) ∧ Box w' v21.heap.size (.bool db) (.slice do_ dn dc) ∧ Box w' v22.heap.size (.bool eb) (.slice eo en ec) ∧ Rt w' ab ap an ac aq am ae P Q ∧ Whole w' yb yo yn yc P ∧ Whole w' zb zo zn zc Q ∧ Right w' db do_ dn dc (powV (n) (P)) ∧ Right w' eb eo en ec (powV (n) ((Q : Int))))
      ⟨bb.out.alloc bb.out.size _, Xa.out.alloc _, X2.out.alloc _, XY.out.alloc _, XZ.out.alloc _, Xd.out.alloc _, Box.new _ _ _ rfl, Ra.out.alloc _, WY.out.alloc _, WZ.out.alloc _, D.out.alloc _, E.out.alloc _⟩ ?_
     clear bb Xa X2 XY XZ Xd Ra WY WZ D E
     rintro x22 ⟨bb, Xa, X2, XY, XZ, Xd, Xe, Ra, WY, WZ, D, E⟩
     replace bb := Lib.hid bb; replace Xa := Lib.hid Xa; replace X2 := Lib.hid X2; replace XY := Lib.hid XY; replace XZ := Lib.hid XZ; replace Xd := Lib.hid Xd; replace Xe := Lib.hid Xe; replace Ra := Lib.hid Ra; replace WY := Lib.hid WY; replace WZ := Lib.hid WZ; replace D := Lib.hid D; replace E := Lib.hid E
     have hz := h2.out
     clear Xa XY XZ Xd Xe Ra WY WZ D E
     replace X2 := X2.out
     replace bb := bb.out
     have q0 := X2.c0; have q1 := X2.c1; have q2 := X2.c2; have q3 := X2.fr 0; have q4 := X2.fr 1; have q5 := X2.fr 2
     have zz := X2.set (.bool false) (.slice none 0 0) (.slice none 0 0)
     have e0 := zz.c0; have e1 := zz.c1; have e2 := zz.c2
     have Y2 := Lib.hid X2; have bb' := Lib.hid bb
     clear zz X2 bb
     go_wp2_with fail
     refine bodyPost_ret (v := .tuple #[.agg #[.bool false, .slice none 0 0, .slice none 0 0], .int .i64 (E2)]) (by simp [results, Tryz.results123, go_sem, e0, e1, e2]) rfl ?_
     exact pow_pos (by have := hn.out; omega) (pw_two hE1.out hE2.out h2.out (ResPost.stored (rt_zero _) Y2.out bb'.out (by omega)))
   ·replace h1 := Lib.hid h1
    replace D := Lib.hid D
    clear hb
    go_upto_region 7 with fail
    refine gen_wp (fun w' => Below w.heap.size w w' ∧ Box3 w' w.heap.size (.bool ab) (.slice ap an ac) (.slice aq am ae) ∧ Box3 w' (w.heap.size + 1) (.bool false) (.slice none 0 0) (.slice none 0 0) ∧ Box w' Y (.bool yb) (.slice yo yn yc) ∧ Box w' Z (.bool zb) (.slice zo zn zc) ∧ Box w' v21.heap.size (.bool db) (.slice do_ dn dc) ∧ Rt w' ab ap an ac aq am ae P Q ∧ Whole w' yb yo yn yc P ∧ Whole w' zb zo zn zc Q ∧ Right w' db do_ dn dc (powV (n) (P)))
     ⟨bb.out.alloc bb.out.size _, Xa.out.alloc _, X2.out.alloc _, XY.out.alloc _, XZ.out.alloc _, Box.new _ _ _ rfl, Ra.out.alloc _, WY.out.alloc _, WZ.out.alloc _, D.out.alloc _⟩ ?_
    clear bb Xa X2 XY XZ Ra WY WZ D
    rintro x21 ⟨bb, Xa, X2, XY, XZ, Xd, Ra, WY, WZ, D⟩
    replace bb := Lib.hid bb; replace Xa := Lib.hid Xa; replace X2 := Lib.hid X2; replace XY := Lib.hid XY; replace XZ := Lib.hid XZ; replace Xd := Lib.hid Xd; replace Ra := Lib.hid Ra; replace WY := Lib.hid WY; replace WZ := Lib.hid WZ; replace D := Lib.hid D
    have hz := h1.out
    clear Xa XY XZ Xd Ra WY WZ D
    replace X2 := X2.out
    replace bb := bb.out
    have q0 := X2.c0; have q1 := X2.c1; have q2 := X2.c2; have q3 := X2.fr 0; have q4 := X2.fr 1; have q5 := X2.fr 2
    have zz := X2.set (.bool false) (.slice none 0 0) (.slice none 0 0)
    have e0 := zz.c0; have e1 := zz.c1; have e2 := zz.c2
    have Y2 := Lib.hid X2; have bb' := Lib.hid bb
    clear zz X2 bb
    go_wp2_with fail
    refine bodyPost_ret (v := .tuple #[.agg #[.bool false, .slice none 0 0, .slice none 0 0], .int .i64 (E1)]) (by simp [results, Tryz.results123, go_sem, e0, e1, e2]) rfl ?_
    exact pow_pos (by have := hn.out; omega) (pw_one hE1.out h1.out (ResPost.stored (rt_zero _) Y2.out bb'.out (by omega)))
end Go.Proofs.YtaepelipkkmeaaaGreat
namespace Go.Proofs.YtaepelipkkmeaaaGreat
open Go.RowKit Num
attribute [local go_sem ↓] Go.wp_at_zero Go.wp_at_succ
theorem rFloor_any (ab : Bool) (ap aq : Option Addr) (an ac am ae : Nat) (P : Int) (Q : Nat) (w : World) (A : Rt w ab ap an ac aq am ae P Q) (lA : Low P Q) :
  Calls Tryz.prog 61 #[.agg #[.bool ab, .slice ap an ac, .slice aq am ae]] w (RatPost (P.fdiv Q) 1 w) := by
 have lA' := Lib.hid lA
 have A' := Lib.hid A
 clear lA A
 go_enter Tryz.func61, Tryz.ntmps61
 go_wp2_with fail
 refine gen_wp (fun w' => Below w.heap.size w w' ∧ Box3 w' w.heap.size (.bool ab) (.slice ap an ac) (.slice aq am ae) ∧ Box3 w' (w.heap.size + 1) (.bool false) (.slice none 0 0) (.slice none 0 0))
  ⟨(((Below.refl _ _).alloc (Nat.le_refl _) _).alloc (by simp <;> omega) _), ((Box3.new _ _ _ _ rfl).alloc _), (Box3.new _ _ _ _ (by simp <;> omega))⟩ ?_
 rintro u0 ⟨bb, x0, x1⟩
 have A := A'.out.below bb
 clear A'
 go_cut [3] from 15 to 17 (fun t wx => ∃ B eb eo en ec, t = .pointer (some ⟨B, 0, none⟩) ∧ Box wx B (.bool eb) (.slice eo en ec) ∧ Box3 wx (w.heap.size + 1) (.bool false) (.slice none 0 0) (.slice none 0 0) ∧ Right wx eb eo en ec (P.fdiv Q) ∧ Below w.heap.size w wx ∧ w.heap.size + 1 < B)
 case first =>
  have lx0 := x0.lt
  have lx1 := x1.lt
  have bs := bb.size
  have sa0 := True.intro
  go_region_held3 (fun w' => w'.cell? ⟨w.heap.size, 0, none⟩ = some (.bool ab) ∧ w'.cell? ⟨w.heap.size, 1, none⟩ = some (.slice ap an ac) ∧ w'.cell? ⟨w.heap.size, 2, none⟩ = some (.slice aq am ae))
   (first | with_reducible exact ⟨(x0.drew).c0, (x0.drew).c1, (x0.drew).c2⟩ | with_reducible exact ⟨((x0.alloc _).drew).c0, ((x0.alloc _).drew).c1, ((x0.alloc _).drew).c2⟩ | with_reducible exact ⟨(((x0.alloc _).alloc _).drew).c0, (((x0.alloc _).alloc _).drew).c1, (((x0.alloc _).alloc _).drew).c2⟩ | with_reducible exact ⟨x0.c0, x0.c1, x0.c2⟩ | with_reducible exact ⟨(x0.alloc _).c0, (x0.alloc _).c1, (x0.alloc _).c2⟩ | with_reducible exact ⟨((x0.alloc _).alloc _).c0, ((x0.alloc _).alloc _).c1, ((x0.alloc _).alloc _).c2⟩ | with_reducible exact ⟨(x0.other (by omega) _ _).c0, (x0.other (by omega) _ _).c1, (x0.other (by omega) _ _).c2⟩ | with_reducible exact ⟨((x0.other (by omega) _ _).alloc _).c0, ((x0.other (by omega) _ _).alloc _).c1, ((x0.other (by omega) _ _).alloc _).c2⟩ | with_reducible exact ⟨((x0.other (by omega) _ _).other (by omega) _ _).c0, ((x0.other (by omega) _ _).other (by omega) _ _).c1, ((x0.other (by omega) _ _).other (by omega) _ _).c2⟩ | go_keep)
   (first
   | (go_at_call 41; clear sa0; refine (rTop_any ab ap aq an ac am ae P _ ?_).mono ?_; (first | with_reducible exact ((A.drew)).upper lA'.out | with_reducible exact (((A.alloc _).drew)).upper lA'.out | with_reducible exact ((((A.alloc _).alloc _).drew)).upper lA'.out); rintro e u1 ⟨db, do_, dn, dc, rfl, d1, hb⟩; have hc : Below u0.heap.size u0 u1 := (by first | exact (Below.refl _ _).drew.trans hb | exact ((Below.refl _ _).alloc (by first | exact Nat.le_refl _ | (simp; done) | (simp; omega)) _).drew.trans (hb.mono (by simp <;> omega)) | exact (((Below.refl _ _).alloc (by first | exact Nat.le_refl _ | (simp; done) | (simp; omega)) _).alloc (by first | exact Nat.le_refl _ | (simp; done) | (simp; omega)) _).drew.trans (hb.mono (by simp <;> omega))); have hz0 := hc.size; have x0 := x0.later hc; have x1 := x1.later hc; have A := A.below hc; have bb := below_then bb (Nat.le_refl _) hc; (first | (with_reducible have mm := made2' hb; obtain ⟨m10, m11⟩ := mm) | (with_reducible have m10 := made1' hb) | skip); (try have k10 := m10.lt); (try have k11 := m11.lt); clear hb hc; have sa1 := True.intro)
   | (go_at_call 43; clear sa1; refine (rBot_any ab ap aq an ac am ae Q _ ?_).mono ?_; (first | with_reducible exact (A).lower lA'.out | with_reducible exact ((A.alloc _)).lower lA'.out | with_reducible exact (((A.alloc _).alloc _)).lower lA'.out); rintro e u2 ⟨gb, go, gn, gc, rfl, g1, hb⟩; have hc : Below u1.heap.size u1 u2 := (by first | with_reducible exact hb | exact ((Below.refl _ _).alloc (by first | exact Nat.le_refl _ | (simp; done) | (simp; omega)) _).trans (hb.mono (by simp <;> omega)) | exact (((Below.refl _ _).alloc (by first | exact Nat.le_refl _ | (simp; done) | (simp; omega)) _).alloc (by first | exact Nat.le_refl _ | (simp; done) | (simp; omega)) _).trans (hb.mono (by simp <;> omega))); have hz1 := hc.size; have x0 := x0.later hc; have x1 := x1.later hc; have A := A.below hc; have d1 := d1.below hc; have bb := below_then bb (Nat.le_refl _) hc; (try have m10 := m10.later hc); (try have m11 := m11.later hc); (first | (with_reducible have mm := made2 hb; obtain ⟨m20, m21⟩ := mm) | (with_reducible have m20 := made1 hb) | skip); (try have k10 := m10.lt); (try have k11 := m11.lt); (try have k20 := m20.lt); (try have k21 := m21.lt); clear hb hc; have sa2 := True.intro)
   | (go_at_call 121; clear sa2; refine (((rDivMod_any db gb do_ go dn dc gn gc P Q _ ?_ ?_ 32 (by omega) lA'.out.abs_lt lA'.out.bot_lt).mono fun _ _ => IDivPost.nz lA'.out.nz)).mono ?_; (first | with_reducible exact (d1).whole32 lA'.out.abs_lt | with_reducible exact ((d1.alloc _)).whole32 lA'.out.abs_lt | with_reducible exact (((d1.alloc _).alloc _)).whole32 lA'.out.abs_lt); (first | with_reducible exact (g1).whole32 lA'.out.bot_lt | with_reducible exact ((g1.alloc _)).whole32 lA'.out.bot_lt | with_reducible exact (((g1.alloc _).alloc _)).whole32 lA'.out.bot_lt); rintro e u3 ⟨eb, eo, en, ec, fb, fo, fn, fc, rfl, h1, h2, hb⟩; have hc : Below u2.heap.size u2 u3 := (by first | with_reducible exact hb | exact ((Below.refl _ _).alloc (by first | exact Nat.le_refl _ | (simp; done) | (simp; omega)) _).trans (hb.mono (by simp <;> omega)) | exact (((Below.refl _ _).alloc (by first | exact Nat.le_refl _ | (simp; done) | (simp; omega)) _).alloc (by first | exact Nat.le_refl _ | (simp; done) | (simp; omega)) _).trans (hb.mono (by simp <;> omega))); have hz2 := hc.size; have x0 := x0.later hc; have x1 := x1.later hc; have A := A.below hc; have d1 := d1.below hc; have g1 := g1.below hc; have bb := below_then bb (Nat.le_refl _) hc; (try have m10 := m10.later hc); (try have m11 := m11.later hc); (try have m20 := m20.later hc); (try have m21 := m21.later hc); (first | (with_reducible have mm := made2 hb; obtain ⟨m30, m31⟩ := mm) | (with_reducible have m30 := made1 hb) | skip); (try have k10 := m10.lt); (try have k11 := m11.lt); (try have k20 := m20.lt); (try have k21 := m21.lt); (try have k30 := m30.lt); (try have k31 := m31.lt); (try (have f100 := m10.c0; have f101 := m10.c1; have f102 := m10.fr 0; have f103 := m10.fr 1)); (try (have f110 := m11.c0; have f111 := m11.c1; have f112 := m11.fr 0; have f113 := m11.fr 1)); (try (have f200 := m20.c0; have f201 := m20.c1; have f202 := m20.fr 0; have f203 := m20.fr 1)); (try (have f210 := m21.c0; have f211 := m21.c1; have f212 := m21.fr 0; have f213 := m21.fr 1)); (try (have f300 := m30.c0; have f301 := m30.c1; have f302 := m30.fr 0; have f303 := m30.fr 1)); (try (have f310 := m31.c0; have f311 := m31.c1; have f312 := m31.fr 0; have f313 := m31.fr 1)); clear hb hc; have sa3 := True.intro))
  ·go_wp2_with fail; go_meet; exact ⟨_, eb, eo, en, ec, rfl, ((Box.new _ _ _ (by first | (simp; done) | rfl)).alloc _), ((x1.alloc _).alloc _), ((h1.alloc _).alloc _), (Below.alloc (Below.alloc bb (by first | omega | simp <;> omega) _) (by first | omega | simp <;> omega) _), (by first | omega | (simp; omega))⟩
  ·go_wp2_with fail; go_meet; exact ⟨_, eb, eo, en, ec, rfl, (Box.new _ _ _ (by first | (simp; done) | rfl)), ((x1.alloc _).alloc _), ((h1.alloc _).alloc _), (Below.alloc (Below.alloc bb (by first | omega | simp <;> omega) _) (by first | omega | simp <;> omega) _), (by first | omega | (simp; omega))⟩
  ·go_wp2_with fail; go_meet; exact ⟨_, eb, eo, en, ec, rfl, ((m30.set _ _).alloc _), ((x1.other (by omega) _ _).alloc _), ((h1.box m30 _ _).alloc _), (Below.alloc (below_set bb (by omega) _ _) (by first | omega | simp <;> omega) _), (by first | omega | (simp; omega))⟩
  ·go_wp2_with fail; go_meet; exact ⟨_, eb, eo, en, ec, rfl, ((m30.set _ _).other (by omega) _ _), ((x1.other (by omega) _ _).other (by omega) _ _), ((h1.box m30 _ _).box (m31.other (by omega) _ _) _ _), (below_set (below_set bb (by omega) _ _) (by omega) _ _), (by first | omega | (simp; omega))⟩
  ·go_wp2_with fail; go_meet; exact ⟨_, eb, eo, en, ec, rfl, (Box.new _ _ _ (by first | (simp; done) | rfl)), ((x1.other (by omega) _ _).alloc _), ((h1.box m30 _ _).alloc _), (Below.alloc (below_set bb (by omega) _ _) (by first | omega | simp <;> omega) _), (by first | omega | (simp; omega))⟩
  ·go_wp2_with fail; go_meet; exact ⟨_, eb, eo, en, ec, rfl, ((m31.set _ _).other (by omega) _ _), ((x1.other (by omega) _ _).other (by omega) _ _), ((h1.box m31 _ _).box (m30.other (by omega) _ _) _ _), (below_set (below_set bb (by omega) _ _) (by omega) _ _), (by first | omega | (simp; omega))⟩
  ·go_wp2_with fail; go_meet; exact ⟨_, eb, eo, en, ec, rfl, ((m20.set _ _).alloc _), ((x1.other (by omega) _ _).alloc _), ((h1.box m20 _ _).alloc _), (Below.alloc (below_set bb (by omega) _ _) (by first | omega | simp <;> omega) _), (by first | omega | (simp; omega))⟩
  ·go_wp2_with fail; go_meet; exact ⟨_, eb, eo, en, ec, rfl, ((m20.set _ _).other (by omega) _ _), ((x1.other (by omega) _ _).other (by omega) _ _), ((h1.box m20 _ _).box (m30.other (by omega) _ _) _ _), (below_set (below_set bb (by omega) _ _) (by omega) _ _), (by first | omega | (simp; omega))⟩
  ·go_wp2_with fail; go_meet; exact ⟨_, eb, eo, en, ec, rfl, ((m20.set _ _).other (by omega) _ _), ((x1.other (by omega) _ _).other (by omega) _ _), ((h1.box m20 _ _).box (m21.other (by omega) _ _) _ _), (below_set (below_set bb (by omega) _ _) (by omega) _ _), (by first | omega | (simp; omega))⟩
  ·go_wp2_with fail; go_meet; exact ⟨_, eb, eo, en, ec, rfl, (Box.new _ _ _ (by first | (simp; done) | rfl)), ((x1.other (by omega) _ _).alloc _), ((h1.box m20 _ _).alloc _), (Below.alloc (below_set bb (by omega) _ _) (by first | omega | simp <;> omega) _), (by first | omega | (simp; omega))⟩
  ·go_wp2_with fail; go_meet; exact ⟨_, eb, eo, en, ec, rfl, ((m30.set _ _).other (by omega) _ _), ((x1.other (by omega) _ _).other (by omega) _ _), ((h1.box m30 _ _).box (m20.other (by omega) _ _) _ _), (below_set (below_set bb (by omega) _ _) (by omega) _ _), (by first | omega | (simp; omega))⟩
  ·go_wp2_with fail; go_meet; exact ⟨_, eb, eo, en, ec, rfl, ((m21.set _ _).other (by omega) _ _), ((x1.other (by omega) _ _).other (by omega) _ _), ((h1.box m21 _ _).box (m20.other (by omega) _ _) _ _), (below_set (below_set bb (by omega) _ _) (by omega) _ _), (by first | omega | (simp; omega))⟩
  ·go_wp2_with fail; go_meet; exact ⟨_, eb, eo, en, ec, rfl, ((m10.set _ _).alloc _), ((x1.other (by omega) _ _).alloc _), ((h1.box m10 _ _).alloc _), (Below.alloc (below_set bb (by omega) _ _) (by first | omega | simp <;> omega) _), (by first | omega | (simp; omega))⟩
  ·go_wp2_with fail; go_meet; exact ⟨_, eb, eo, en, ec, rfl, ((m10.set _ _).other (by omega) _ _), ((x1.other (by omega) _ _).other (by omega) _ _), ((h1.box m10 _ _).box (m30.other (by omega) _ _) _ _), (below_set (below_set bb (by omega) _ _) (by omega) _ _), (by first | omega | (simp; omega))⟩
  ·go_wp2_with fail; go_meet; exact ⟨_, eb, eo, en, ec, rfl, ((m10.set _ _).other (by omega) _ _), ((x1.other (by omega) _ _).other (by omega) _ _), ((h1.box m10 _ _).box (m20.other (by omega) _ _) _ _), (below_set (below_set bb (by omega) _ _) (by omega) _ _), (by first | omega | (simp; omega))⟩
  ·go_wp2_with fail; go_meet; exact ⟨_, eb, eo, en, ec, rfl, ((m10.set _ _).other (by omega) _ _), ((x1.other (by omega) _ _).other (by omega) _ _), ((h1.box m10 _ _).box (m11.other (by omega) _ _) _ _), (below_set (below_set bb (by omega) _ _) (by omega) _ _), (by first | omega | (simp; omega))⟩
  ·go_wp2_with fail; go_meet; exact ⟨_, eb, eo, en, ec, rfl, (Box.new _ _ _ (by first | (simp; done) | rfl)), ((x1.other (by omega) _ _).alloc _), ((h1.box m10 _ _).alloc _), (Below.alloc (below_set bb (by omega) _ _) (by first | omega | simp <;> omega) _), (by first | omega | (simp; omega))⟩
  ·go_wp2_with fail; go_meet; exact ⟨_, eb, eo, en, ec, rfl, ((m30.set _ _).other (by omega) _ _), ((x1.other (by omega) _ _).other (by omega) _ _), ((h1.box m30 _ _).box (m10.other (by omega) _ _) _ _), (below_set (below_set bb (by omega) _ _) (by omega) _ _), (by first | omega | (simp; omega))⟩
  ·go_wp2_with fail; go_meet; exact ⟨_, eb, eo, en, ec, rfl, ((m20.set _ _).other (by omega) _ _), ((x1.other (by omega) _ _).other (by omega) _ _), ((h1.box m20 _ _).box (m10.other (by omega) _ _) _ _), (below_set (below_set bb (by omega) _ _) (by omega) _ _), (by first | omega | (simp; omega))⟩
  ·go_wp2_with fail; go_meet; exact ⟨_, eb, eo, en, ec, rfl, ((m11.set _ _).other (by omega) _ _), ((x1.other (by omega) _ _).other (by omega) _ _), ((h1.box m11 _ _).box (m10.other (by omega) _ _) _ _), (below_set (below_set bb (by omega) _ _) (by omega) _ _), (by first | omega | (simp; omega))⟩
 case rest =>
  obtain ⟨Y, eb, eo, en, ec, rfl, y, x1, h1, bb, hY⟩ := hcut
  have p0 := y.c0; have p1 := y.c1
  go_wp2_with fail
  refine (rWhole_any eb eo en ec (P.fdiv Q) _ (h1.whole32 (low_floor lA'.out).abs_lt)).mono ?_
  rintro e w2 ⟨gb, gp, gn, gc, gq, gm, ge, rfl, hR, hb⟩
  have bb := Lib.hid (below_then bb (Nat.le_refl _) hb)
  have x1 := x1.later hb
  have x1' := Lib.hid x1; have hR' := Lib.hid hR
  have q0 := x1.c0; have q1 := x1.c1; have q2 := x1.c2; have q3 := x1.fr 0; have q4 := x1.fr 1; have q5 := x1.fr 2
  have z := x1.set (.bool gb) (.slice gp gn gc) (.slice gq gm ge)
  have e0 := z.c0; have e1 := z.c1; have e2 := z.c2
  clear x1 hb z hR h1 y p0 p1
  go_wp2_with fail
  refine bodyPost_ret (v := .agg #[.bool gb, .slice gp gn gc, .slice gq gm ge]) (by simp [results, Tryz.results61, go_sem, e0, e1, e2]) rfl ?_
  exact RatPost.stored hR'.out x1'.out bb.out (by omega)
theorem rMul4_one (ab : Bool) (ap aq : Option Addr) (an ac am ae : Nat) (P : Int) (Q : Nat) (cb : Bool) (cp cq : Option Addr) (cn cc cm ce : Nat) (R : Int) (w : World) (A : Rt w ab ap an ac aq am ae P Q) (lA : Low P Q) (B : Rt w cb cp cn cc cq cm ce R 1) (lB : Low R 1) :
  Calls Tryz.prog 73 #[.agg #[.bool ab, .slice ap an ac, .slice aq am ae], .agg #[.bool cb, .slice cp cn cc, .slice cq cm ce]] w (MakePost (P * R) Q w) := by
 have h := rMul4_any ab ap aq an ac am ae P Q cb cp cq cn cc cm ce R 1 w A lA B lB
 have e : (Q : Int) * ((1 : Nat) : Int) = Q := by omega
 rwa [e] at h
theorem rMod4_any (ab : Bool) (ap aq : Option Addr) (an ac am ae : Nat) (P : Int) (Q : Nat) (cb : Bool) (cp cq : Option Addr) (cn cc cm ce : Nat) (R : Int) (S : Nat) (w : World) (A : Rt w ab ap an ac aq am ae P Q) (lA : Low P Q) (B : Rt w cb cp cn cc cq cm ce R S) (lB : Low R S) :
  Calls Tryz.prog 74 #[.agg #[.bool ab, .slice ap an ac, .slice aq am ae], .agg #[.bool cb, .slice cp cn cc, .slice cq cm ce]] w (ModPost P Q R S w) := by
 have l0 := A.top.len_zero
 have lA' := Lib.hid lA; have lB' := Lib.hid lB
 have A' := Lib.hid A; have B' := Lib.hid B
 clear lA A lB B
 by_cases h0 : an = 0
 ·have hP' : Hid (P = 0) := Lib.hid (l0.1 h0)
  subst h0
  clear l0 A'
  go_enter Tryz.func74, Tryz.ntmps74
  go_upto_region 1 with fail
  refine gen_wp (fun w' => Below w.heap.size w w' ∧ Box3 w' w.heap.size (.bool ab) (.slice ap 0 ac) (.slice aq am ae) ∧ Box3 w' (w.heap.size + 1) (.bool cb) (.slice cp cn cc) (.slice cq cm ce) ∧ Box3 w' (w.heap.size + 2) (.bool false) (.slice none 0 0) (.slice none 0 0))
   ⟨((((Below.refl _ _).alloc (Nat.le_refl _) _).alloc (by simp <;> omega) _).alloc (by simp <;> omega) _), (((Box3.new _ _ _ _ rfl).alloc _).alloc _), ((Box3.new _ _ _ _ (by simp <;> omega)).alloc _), (Box3.new _ _ _ _ (by simp <;> omega))⟩ ?_
  rintro w0 ⟨bb, x0, x1, x2⟩
  have p0 := x0.c0; have p1 := x0.c1; have p2 := x0.c2; have p3 := x1.c0; have p4 := x1.c1; have p5 := x1.c2
  have x2' := Lib.hid x2; have bb' := Lib.hid bb
  have q0 := x2.c0; have q1 := x2.c1; have q2 := x2.c2; have q3 := x2.fr 0; have q4 := x2.fr 1; have q5 := x2.fr 2
  have z := x2.set (.bool cb) (.slice cp cn cc) (.slice cq cm ce)
  have e0 := z.c0; have e1 := z.c1; have e2 := z.c2
  clear x0 x1 x2 bb z
  go_wp2_with fail
  refine bodyPost_ret (v := .tuple #[.agg #[.bool cb, .slice cp cn cc, .slice cq cm ce], .int .i64 0]) (by simp [results, Tryz.results74, go_sem, e0, e1, e2]) rfl ?_
  exact mod_zero hP'.out (ResPost.stored (E := 0) (B'.out.below bb'.out) x2'.out bb'.out (by omega))
 have hP' : Hid (¬ P = 0) := Lib.hid (fun e => h0 (l0.2 e))
 have hd : ((an : Int) == 0) = false := by rw [beq_eq_false_iff_ne]; omega
 clear l0
 go_enter Tryz.func74, Tryz.ntmps74
 go_upto_region 1 with fail
 refine gen_wp (fun w' => Below w.heap.size w w' ∧ Box3 w' w.heap.size (.bool ab) (.slice ap an ac) (.slice aq am ae) ∧ Box3 w' (w.heap.size + 1) (.bool cb) (.slice cp cn cc) (.slice cq cm ce) ∧ Box3 w' (w.heap.size + 2) (.bool false) (.slice none 0 0) (.slice none 0 0))
  ⟨((((Below.refl _ _).alloc (Nat.le_refl _) _).alloc (by simp <;> omega) _).alloc (by simp <;> omega) _), (((Box3.new _ _ _ _ rfl).alloc _).alloc _), ((Box3.new _ _ _ _ (by simp <;> omega)).alloc _), (Box3.new _ _ _ _ (by simp <;> omega))⟩ ?_
 rintro w0 ⟨bb, x0, x1, x2⟩
 have p0 := x0.c0; have p1 := x0.c1; have p2 := x0.c2; have p3 := x1.c0; have p4 := x1.c1; have p5 := x1.c2
 replace x0 := Lib.hid x0; replace x1 := Lib.hid x1; replace x2 := Lib.hid x2; replace bb := Lib.hid bb
 have A := Lib.hid (A'.out.below bb.out); have B := Lib.hid (B'.out.below bb.out)
 clear A' B'
 go_wp2_with fail
 clear p0 p1 p2 p3 p4 p5 hd
 obtain ⟨E1, hE1⟩ : ∃ E1, Hid (mkE (R * Q) (S * P) = E1) := ⟨_, Lib.hid rfl⟩
 by_cases h1 : E1 = 0
 ·subst h1
  refine ((rDiv4_any cb cp cq cn cc cm ce R S ab ap aq an ac am ae P Q _ B.out lB'.out A.out lA'.out).mono fun _ _ => make_zero hE1.out).mono ?_
  rintro e w2 ⟨db, dp, dn, dc, dq, dm, de, rfl, hD, hb⟩
  have bb := Lib.hid (below_then bb.out (Nat.le_refl _) hb)
  have x0 := Lib.hid (x0.out.later hb); have x1 := Lib.hid (x1.out.later hb); have x2 := Lib.hid (x2.out.later hb)
  have A := Lib.hid (A.out.below hb); have B := Lib.hid (B.out.below hb); replace hD := Lib.hid hD
  clear hb
  go_wp2_with fail
  refine gen_wp (fun w' => Below w.heap.size w w' ∧ Box3 w' w.heap.size (.bool ab) (.slice ap an ac) (.slice aq am ae) ∧ Box3 w' (w.heap.size + 1) (.bool cb) (.slice cp cn cc) (.slice cq cm ce) ∧ Box3 w' (w.heap.size + 2) (.bool false) (.slice none 0 0) (.slice none 0 0) ∧ Box3 w' w2.heap.size (.bool db) (.slice dp dn dc) (.slice dq dm de) ∧ Rt w' ab ap an ac aq am ae P Q ∧ Rt w' cb cp cn cc cq cm ce R S ∧ Rt w' db dp dn dc dq dm de (mkT (R * Q) (S * P)) (mkB (R * Q) (S * P)))
   ⟨bb.out.alloc bb.out.size _, x0.out.alloc _, x1.out.alloc _, x2.out.alloc _, Box3.new _ _ _ _ rfl, A.out.alloc _, B.out.alloc _, hD.out.alloc _⟩ ?_
  have hY : w.heap.size + 2 < w2.heap.size := x2.out.lt
  clear bb x0 x1 x2 A B hD
  rintro u0 ⟨bb, x0, x1, x2, x3, A, B, D⟩
  obtain ⟨E2, hE2⟩ : ∃ E2, Hid (mkE (P * modF P Q R S) Q = E2) := ⟨_, Lib.hid rfl⟩
  go_cut [8, 9] from 32 to 41 (fun t s wx => ∃ B gb gp gn gc gq gm ge, s = .int .i64 (mkE (P * modF P Q R S) Q) ∧ t = .pointer (some ⟨B, 0, none⟩) ∧ Box3 wx B (.bool gb) (.slice gp gn gc) (.slice gq gm ge) ∧ Box3 wx (w.heap.size + 1) (.bool cb) (.slice cp cn cc) (.slice cq cm ce) ∧ Box3 wx (w.heap.size + 2) (.bool false) (.slice none 0 0) (.slice none 0 0) ∧ Rt wx cb cp cn cc cq cm ce R S ∧ Rt wx gb gp gn gc gq gm ge (modT P Q R S) (modB P Q R S) ∧ Below w.heap.size w wx ∧ w.heap.size + 2 < B)
  case first =>
   have lx0 := x0.lt
   have lx1 := x1.lt
   have lx2 := x2.lt
   have lx3 := x3.lt
   have bs := bb.size
   have sb0 := True.intro
   go_region_held3 (fun w' => w'.cell? ⟨w.heap.size, 0, none⟩ = some (.bool ab) ∧ w'.cell? ⟨w.heap.size, 1, none⟩ = some (.slice ap an ac) ∧ w'.cell? ⟨w.heap.size, 2, none⟩ = some (.slice aq am ae) ∧ w'.cell? ⟨w2.heap.size, 0, none⟩ = some (.bool db) ∧ w'.cell? ⟨w2.heap.size, 1, none⟩ = some (.slice dp dn dc) ∧ w'.cell? ⟨w2.heap.size, 2, none⟩ = some (.slice dq dm de))
    (first | with_reducible exact ⟨(x0.drew).c0, (x0.drew).c1, (x0.drew).c2, (x3.drew).c0, (x3.drew).c1, (x3.drew).c2⟩ | with_reducible exact ⟨((x0.alloc _).drew).c0, ((x0.alloc _).drew).c1, ((x0.alloc _).drew).c2, ((x3.alloc _).drew).c0, ((x3.alloc _).drew).c1, ((x3.alloc _).drew).c2⟩ | with_reducible exact ⟨x0.c0, x0.c1, x0.c2, x3.c0, x3.c1, x3.c2⟩ | with_reducible exact ⟨(x0.alloc _).c0, (x0.alloc _).c1, (x0.alloc _).c2, (x3.alloc _).c0, (x3.alloc _).c1, (x3.alloc _).c2⟩ | with_reducible exact ⟨(x0.other3 (by omega) _ _ _).c0, (x0.other3 (by omega) _ _ _).c1, (x0.other3 (by omega) _ _ _).c2, (x3.other3 (by omega) _ _ _).c0, (x3.other3 (by omega) _ _ _).c1, (x3.other3 (by omega) _ _ _).c2⟩ | go_keep)
    (first
    | (go_at_call 61; clear sb0; refine (rFloor_any db dp dq dn dc dm de (mkT (R * Q) (S * P)) (mkB (R * Q) (S * P)) _ ?_ (mk_low hE1.out)).mono ?_; (first | with_reducible exact (D.drew) | with_reducible exact ((D.alloc _).drew)); rintro e u1 ⟨fb, fp, fn, fc, fq, fm, fe, rfl, F, hb⟩; have hc : Below u0.heap.size u0 u1 := (by first | exact (Below.refl _ _).drew.trans hb | exact ((Below.refl _ _).alloc (by first | exact Nat.le_refl _ | (simp; done) | (simp; omega)) _).drew.trans (hb.mono (by simp <;> omega))); have hz0 := hc.size; have x0 := x0.later hc; have x1 := x1.later hc; have x2 := x2.later hc; have x3 := x3.later hc; have A := A.below hc; have B := B.below hc; have D := D.below hc; have bb := below_then bb (Nat.le_refl _) hc; (first | (with_reducible have m10 := made13' hb) | skip); (try have k10 := m10.lt); clear hb hc; have sb1 := True.intro)
    | (go_at_call 73; clear sb1; refine (rMul4_one ab ap aq an ac am ae P Q fb fp fq fn fc fm fe (modF P Q R S) _ ?_ lA'.out ?_ (low_floor (mk_low hE1.out))).mono ?_; (first | with_reducible exact A | with_reducible exact (A.alloc _)); (first | with_reducible exact F | with_reducible exact (F.alloc _)); rintro e u2 ⟨gb, gp, gn, gc, gq, gm, ge, rfl, G, hb⟩; have hc : Below u1.heap.size u1 u2 := (by first | with_reducible exact hb | exact ((Below.refl _ _).alloc (by first | exact Nat.le_refl _ | (simp; done) | (simp; omega)) _).trans (hb.mono (by simp <;> omega))); have hz1 := hc.size; have x0 := x0.later hc; have x1 := x1.later hc; have x2 := x2.later hc; have x3 := x3.later hc; have A := A.below hc; have B := B.below hc; have D := D.below hc; have F := F.below hc; have bb := below_then bb (Nat.le_refl _) hc; (try have m10 := m10.later hc); (first | (with_reducible have m20 := made13 hb) | skip); (try have k10 := m10.lt); (try have k20 := m20.lt); (try (have f100 := m10.c0; have f101 := m10.c1; have f102 := m10.fr 0; have f103 := m10.fr 1; have f104 := m10.c2; have f105 := m10.fr 2)); (try (have f200 := m20.c0; have f201 := m20.c1; have f202 := m20.fr 0; have f203 := m20.fr 1; have f204 := m20.c2; have f205 := m20.fr 2)); clear hb hc; have sb2 := True.intro))
   ·go_wp2_with fail; go_meet; exact ⟨_, gb, gp, gn, gc, gq, gm, ge, rfl, rfl, (Box3.new _ _ _ _ (by first | (simp; done) | rfl)), (x1.alloc _), (x2.alloc _), (B.alloc _), (G.alloc _), (Below.alloc bb (by first | omega | simp <;> omega) _), (by first | omega | (simp; omega))⟩
   ·go_wp2_with fail; go_meet; exact ⟨_, gb, gp, gn, gc, gq, gm, ge, rfl, rfl, (m20.set _ _ _), (x1.other3 (by omega) _ _ _), (x2.other3 (by omega) _ _ _), (B.box3 m20 _ _ _), (G.box3 m20 _ _ _), (below_set3 bb (by omega) _ _ _), (by first | omega | (simp; omega))⟩
   ·go_wp2_with fail; go_meet; exact ⟨_, gb, gp, gn, gc, gq, gm, ge, rfl, rfl, (m10.set _ _ _), (x1.other3 (by omega) _ _ _), (x2.other3 (by omega) _ _ _), (B.box3 m10 _ _ _), (G.box3 m10 _ _ _), (below_set3 bb (by omega) _ _ _), (by first | omega | (simp; omega))⟩
  case rest =>
   obtain ⟨Y, db, dp, dn, dc, dq, dm, de, rfl, rfl, y, x1, x2, B, D, bb, hY⟩ := hcut
   by_cases h2 : E2 = 0
   ·subst h2
    rw [hE2.out]
    have p0 := y.c0; have p1 := y.c1; have p2 := y.c2; have p3 := x1.c0; have p4 := x1.c1; have p5 := x1.c2
    replace x2 := Lib.hid x2; replace bb := Lib.hid bb; replace B := Lib.hid B; replace D := Lib.hid D
    clear y x1
    go_wp2_with fail
    refine (rSub4_any cb cp cq cn cc cm ce R S db dp dq dn dc dm de (modT P Q R S) (modB P Q R S) _ B.out lB'.out D.out (mk_low hE2.out)).mono ?_
    rintro e w3 ⟨gb, gp, gn, gc, gq, gm, ge, rfl, hR, hb⟩
    have bb := below_then bb.out (Nat.le_refl _) hb
    have x2 := x2.out.later hb
    clear hb p0 p1 p2 p3 p4 p5 B D
    have q0 := x2.c0; have q1 := x2.c1; have q2 := x2.c2; have q3 := x2.fr 0; have q4 := x2.fr 1; have q5 := x2.fr 2
    have z := x2.set (.bool gb) (.slice gp gn gc) (.slice gq gm ge)
    have e0 := z.c0; have e1 := z.c1; have e2 := z.c2
    have x2' := Lib.hid x2; have bb' := Lib.hid bb; have hR' := Lib.hid hR
    clear z x2 bb hR 
    go_wp2_with fail
    refine bodyPost_ret (v := .tuple #[.agg #[.bool gb, .slice gp gn gc, .slice gq gm ge], .int .i64 (mkE (R * modB P Q R S + -modT P Q R S * S) (S * modB P Q R S))]) (by simp [results, Tryz.results74, go_sem, e0, e1, e2]) rfl ?_
    exact mod_ok hP'.out hE1.out hE2.out (ResPost.stored hR'.out x2'.out bb'.out (by omega))
   ·rw [hE2.out]
    have h2' := Lib.hid h2
    clear y x1 B D
    have q0 := x2.c0; have q1 := x2.c1; have q2 := x2.c2; have q3 := x2.fr 0; have q4 := x2.fr 1; have q5 := x2.fr 2
    have z := x2.set (.bool false) (.slice none 0 0) (.slice none 0 0)
    have e0 := z.c0; have e1 := z.c1; have e2 := z.c2
    have x2' := Lib.hid x2; have bb' := Lib.hid bb
    clear z x2 bb 
    go_wp2_with fail
    refine bodyPost_ret (v := .tuple #[.agg #[.bool false, .slice none 0 0, .slice none 0 0], .int .i64 (E2)]) (by simp [results, Tryz.results74, go_sem, e0, e1, e2]) rfl ?_
    exact mod_two hP'.out hE1.out hE2.out h2'.out (ResPost.stored (rt_zero _) x2'.out bb'.out (by omega))
 ·have h1' := Lib.hid h1
  refine ((rDiv4_any cb cp cq cn cc cm ce R S ab ap aq an ac am ae P Q _ B.out lB'.out A.out lA'.out).mono fun _ _ => make_nz hE1.out h1'.out).mono ?_
  rintro e w2 ⟨db, dp, dn, dc, dq, dm, de, rfl, hD, hb⟩
  have bb := Lib.hid (below_then bb.out (Nat.le_refl _) hb)
  have x2 := Lib.hid (x2.out.later hb)
  clear hb hD A B x0 x1
  go_upto_region 4 with fail
  refine gen_wp (fun w' => Below w.heap.size w w' ∧ Box3 w' (w.heap.size + 2) (.bool false) (.slice none 0 0) (.slice none 0 0)) ⟨bb.out.alloc bb.out.size _, x2.out.alloc _⟩ ?_
  clear bb x2
  rintro u0 ⟨bb, x2⟩
  have q0 := x2.c0; have q1 := x2.c1; have q2 := x2.c2; have q3 := x2.fr 0; have q4 := x2.fr 1; have q5 := x2.fr 2
  have z := x2.set (.bool false) (.slice none 0 0) (.slice none 0 0)
  have e0 := z.c0; have e1 := z.c1; have e2 := z.c2
  have x2' := Lib.hid x2; have bb' := Lib.hid bb
  clear z x2 bb 
  go_wp2_with fail
  refine bodyPost_ret (v := .tuple #[.agg #[.bool false, .slice none 0 0, .slice none 0 0], .int .i64 (E1)]) (by simp [results, Tryz.results74, go_sem, e0, e1, e2]) rfl ?_
  exact mod_one hP'.out hE1.out h1'.out (ResPost.stored (rt_zero _) x2'.out bb'.out (by omega))
end Go.Proofs.YtaepelipkkmeaaaGreat
namespace Go.Proofs.YtaepelipkkmeaaaGreat
open Go.RowKit Num
attribute [local go_sem ↓] Go.wp_at_zero Go.wp_at_succ
def NumRes (r : Int × Nat × Int) := ResPost r.1 r.2.1 r.2.2
theorem NumRes.of {r : Int × Nat × Int} {T : Int} {B : Nat} {E : Int} {w w' : World} {e : Ending} (h : ResPost T B E w e w') (hr : r = (T, B, E)) : NumRes r w e w' := by rw [hr]; exact h
theorem same4_iff (ab : Bool) (ap aq : Option Addr) (an ac am ae : Nat) (P : Int) (Q : Nat) (cb : Bool) (cp cq : Option Addr) (cn cc cm ce : Nat) (R : Int) (S : Nat) (w : World) (A : Rt w ab ap an ac aq am ae P Q) (B : Rt w cb cp cn cc cq cm ce R S) (v : Bool) (hv : v = decide (P = R ∧ Q = S)) :
  Calls Tryz.prog 21 #[.agg #[.bool ab, .slice ap an ac, .slice aq am ae], .agg #[.bool cb, .slice cp cn cc, .slice cq cm ce]] w (Says (.bool v) w) := by
 subst hv
 by_cases h : P = R ∧ Q = S
 ·obtain ⟨rfl, rfl⟩ := h
  rw [decide_eq_true (by exact ⟨rfl, rfl⟩)]
  exact same4_any ab ap aq an ac am ae P Q cb cp cq cn cc cm ce w A B
 ·rw [decide_eq_false h]
  obtain ⟨f, f1, f2, f3, f4, f5⟩ := A.top.ex
  obtain ⟨g, g1, g2, g3, g4, _⟩ := A.bot.ex
  obtain ⟨f', f1', f2', f3', f4', f5'⟩ := B.top.ex
  obtain ⟨g', g1', g2', g3', g4', _⟩ := B.bot.ex
  refine (same4B_any ab cb ap aq cp cq an ac am ae cn cc cm ce f g f' g' w (by omega) (by omega) f3 g3 f3' g3').mono ?_
  rintro e w' ⟨r, rfl, hr, hb⟩
  cases r with
  | false => exact ⟨rfl, hb⟩
  | true =>
   obtain ⟨k1, ⟨k2, k3⟩, ⟨k4, k5⟩⟩ := hr.1 rfl
   refine absurd ?_ h
   have e1 : P.natAbs = R.natAbs := by rw [← f4.val, ← f4'.val, ← k2]; exact val_congr k3
   have e2 : Q = S := by
    have a1 := g4.val; have a2 := g4'.val
    rw [Int.natAbs_natCast] at a1 a2
    rw [← a1, ← a2, ← k4]; exact val_congr k5
   have e3 : decide (P < 0) = decide (R < 0) := by rw [← f5, ← f5', k1]
   refine ⟨?_, e2⟩
   by_cases hp : P < 0
   ·rw [decide_eq_true hp] at e3; have := of_decide_eq_true e3.symm; omega
   ·rw [decide_eq_false hp] at e3; have := of_decide_eq_false e3.symm; omega
end Go.Proofs.YtaepelipkkmeaaaGreat
namespace Go.Proofs.YtaepelipkkmeaaaGreat
open Go.RowKit Num
attribute [local go_sem ↓] Go.wp_at_zero Go.wp_at_succ
theorem or_word {x y : Nat} (hx : x < 4294967296) (hy : y < 4294967296) : bits BinOp.or IntKind.u64 (x : Int) ((y : Int) * 4294967296) = ((x + y * 4294967296 : Nat) : Int) := by
 have e : (y : Int) * 4294967296 = ((y * 4294967296 : Nat) : Int) := by omega
 rw [e, or64 _ _ (by omega) (by omega)]
 have h := or_low (a := x) (u := 32) (m := y) hx
 have h4 : x ||| y * 4294967296 = x + y * 4294967296 := by rw [Nat.mul_comm y, show (4294967296 : Nat) = 2 ^ 32 from rfl, h]
 rw [h4]
theorem or_zero {y : Nat} (hy : y < 4294967296) : bits BinOp.or IntKind.u64 (0 : Int) (y : Int) = (y : Int) := by
 have h := or64 0 y (by omega) (by omega)
 simpa using h
def isSmall (x : Int) : Bool := decide (-9223372036854775808 ≤ x ∧ x ≤ 9223372036854775807)
def smallV (x : Int) : Value := .tuple #[.int .i64 (if isSmall x then x else 0), .bool (isSmall x)]
theorem wSmall_any (b : Bool) (ao : Option Addr) (n nc : Nat) (x : Int) (w : World) (A : Whole w b ao n nc x) :
  Calls Tryz.prog 157 #[.agg #[.bool b, .slice ao n nc]] w (Says (smallV x) w) := by
 have A' := Lib.hid A
 clear A
 go_enter Tryz.func157, Tryz.ntmps157
 go_wp2_with fail
 refine gen_calls (fun w' => Below w.heap.size w w' ∧ Box w' w.heap.size (.bool b) (.slice ao n nc))
  ⟨((Below.refl _ w).alloc (Nat.le_refl _) _), (Box.new _ _ _ rfl)⟩ ?_
 rintro w0 ⟨hb0, x0⟩
 refine (wNorm_any b ao n nc x _ (A'.out.below hb0)).mono ?_
 rintro e w1 ⟨sb, so, sn, sc, rfl, hR, hb⟩
 have y0 := x0.later hb
 have hb1 := below_then hb0 (Nat.le_refl _) hb
 have hR1 := Lib.hid (hR.box y0 (.bool sb) (.slice so sn sc))
 have hB1 := Lib.hid (below_set hb1 (Nat.le_refl _) (.bool sb) (.slice so sn sc))
 have z0 := y0.set (.bool sb) (.slice so sn sc)
 have q1 := y0.c0; have q2 := y0.c1; have q3 := y0.fr 0; have q4 := y0.fr 1
 have e0 := z0.c0; have e1 := z0.c1
 clear hb0 hb x0 y0 hb1 hR
 by_cases h2 : 2 < sn
 ·have h2i : (2 : Int) < (sn : Int) := by omega
  obtain ⟨f, f1, f2, hs, cf, hsg⟩ := hR1.out.ex
  have hbig : isSmall x = false := by
   have h1 := cf.val
   have h3 : f (sn - 1) ≠ 0 := by rcases cf.top with h | h <;> omega
   obtain ⟨j, rfl⟩ : ∃ j, sn = j + 1 + 1 + 1 := ⟨sn - 3, by omega⟩
   have h3 : f (j + 1 + 1) ≠ 0 := h3
   have h4 := val_ge h3
   have h5 : pw 2 ≤ pw (j + 1 + 1) := pw_le (by omega)
   have h6 : pw 2 = 18446744073709551616 := rfl
   simp only [isSmall, decide_eq_false_iff_not]
   omega
  have hbig' := Lib.hid hbig
  clear f1 f2 hs cf hsg hbig
  go_wp2_with fail
  go_ret2
  refine ⟨?_, hB1.out⟩
  simp [smallV, hbig'.out]
 ·have z0' := Lib.hid z0
  clear z0
  go_wp2_with fail
  refine gen_wp (fun w' => Below w.heap.size w w' ∧ Box w' w.heap.size (.bool sb) (.slice so sn sc) ∧ Right w' sb so sn sc x) ⟨hB1.out, z0'.out, hR1.out⟩ ?_
  rintro w2 ⟨hb2, z, hR⟩
  obtain ⟨f, f1, f2, hs, cf, hsg⟩ := hR.ex
  have hb2' := Lib.hid hb2; have hs' := Lib.hid hs; have cf' := Lib.hid cf; have hsg' := Lib.hid hsg
  have p0 := z.c0
  clear hb2 z hR hs cf hsg hR1 hB1 q1 q2 q3 q4 e0 e1 z0'
  go_loop [4, 16] (fun s i => ∃ j : Nat, j ≤ sn ∧ i = .int .i64 j ∧ s = .int .u64 (val f j)) (fun _ i => sn - (intOf i).toNat)
  case atStart => exact ⟨0, Nat.zero_le _, rfl, rfl⟩
  case round =>
   obtain ⟨j, hj, rfl, rfl⟩ := hrel
   by_cases hlt : j < sn
   ·rcases hs'.out with h | ⟨g, off, rfl, hc⟩
    ·omega
    have hcell := hc j hlt
    have hl := cf'.out.lim j hlt
    clear hc
    have hj01 : j = 0 ∨ j = 1 := by omega
    rcases hj01 with rfl | rfl
    ·simp only [Nat.add_zero] at hcell
     go_wp2_with fail
     go_round
     case rel =>
      refine ⟨1, by omega, rfl, int_eq ?_⟩
      rw [val_succ, val_zero]
      simp only [pw, Nat.zero_add, Nat.mul_one]
      exact or_zero hl
     case measure => simp [intOf]; omega
    ·have hl0 := cf'.out.lim 0 (by omega)
     go_wp2_with fail
     go_round
     case rel =>
      refine ⟨2, by omega, rfl, int_eq ?_⟩
      have e1 : val f 1 = f 0 := by simp [val, pw]
      have e2 : val f 2 = f 0 + f 1 * 4294967296 := by simp [val, pw]
      rw [e1, e2]
      exact or_word hl0 hl
     case measure => simp [intOf]; omega
   ·obtain rfl : j = sn := by omega
    have hv : val f j = x.natAbs := cf'.out.val
    rw [hv]
    have hj1 := hlt
    have hfin : ∀ (z : Int) (t : Bool), (t = true → z = x) → (t = false → z = 0) → isSmall x = t → Ending.returned (.tuple #[.int .i64 z, .bool t]) = .returned (smallV x) := by
     intro z t h1 h0 ht
     cases t
     ·rw [h0 rfl]; simp [smallV, ht]
     ·rw [h1 rfl]; simp [smallV, ht]
    have hfin' := Lib.hid hfin
    clear hfin
    cases sb
    ·have hx0 : 0 ≤ x := by have := hsg'.out; simp at this; exact this
     by_cases hle : (x.natAbs : Int) ≤ 9223372036854775807
     ·have es : isSmall x = true := by simp only [isSmall, decide_eq_true_eq]; omega
      have es' := Lib.hid es
      have en : Hid ((x.natAbs : Int) = x) := Lib.hid (by omega)
      clear es hx0
      go_wp2_with fail
      go_ret2
      exact ⟨hfin'.out _ _ (fun _ => en.out) (fun h => by cases h) es'.out, hb2'.out⟩
     ·have es : isSmall x = false := by simp only [isSmall, decide_eq_false_iff_not]; omega
      have es' := Lib.hid es
      have hgt : decide ((x.natAbs : Int) ≤ 9223372036854775807) = false := decide_eq_false hle
      clear es hx0
      go_wp2_with fail
      go_ret2
      exact ⟨hfin'.out _ _ (fun h => by cases h) (fun _ => rfl) es'.out, hb2'.out⟩
    ·have hx0 : x < 0 := by have := hsg'.out; simp at this; exact this
     by_cases hle : (x.natAbs : Int) ≤ 9223372036854775808
     ·have es : isSmall x = true := by simp only [isSmall, decide_eq_true_eq]; omega
      have es' := Lib.hid es
      have en : Hid (wrap64 (IntKind.u64.wrap (-(x.natAbs : Int))) = x) := Lib.hid (by
       have : (x.natAbs : Int) = -x := by omega
       rw [this]
       simp [wrap64, IntKind.wrap, IntKind.bits, IntKind.signed]
       omega)
      clear es hx0
      go_wp2_with fail
      go_ret2
      exact ⟨hfin'.out _ _ (fun _ => en.out) (fun h => by cases h) es'.out, hb2'.out⟩
     ·have es : isSmall x = false := by simp only [isSmall, decide_eq_false_iff_not]; omega
      have es' := Lib.hid es
      have hgt : decide ((x.natAbs : Int) ≤ 9223372036854775808) = false := decide_eq_false hle
      clear es hx0
      go_wp2_with fail
      go_ret2
      exact ⟨hfin'.out _ _ (fun h => by cases h) (fun _ => rfl) es'.out, hb2'.out⟩
end Go.Proofs.YtaepelipkkmeaaaGreat
namespace Go.Proofs.YtaepelipkkmeaaaGreat
open Go.RowKit Num
attribute [local go_sem ↓] Go.wp_at_zero Go.wp_at_succ
theorem val_digit {f : Nat → Nat} {n j V : Nat} (hn : n ≤ 2) (hj : j < n) (lf : Lim f n) (hV : val f n = V) : V / pw j = V / pw (j + 1) * 4294967296 + f j := by
 have p0 : pw 0 = 1 := rfl
 have p1 : pw 1 = 4294967296 := rfl
 have p2 : pw 2 = 18446744073709551616 := rfl
 have l0 := lf 0 (by omega)
 have hn' : n = 1 ∨ n = 2 := by omega
 rcases hn' with rfl | rfl
 ·obtain rfl : j = 0 := by omega
  have e : val f 1 = f 0 := by simp [val, pw]
  rw [p0, p1]; omega
 ·have l1 := lf 1 (by omega)
  have e : val f 2 = f 0 + f 1 * 4294967296 := by simp [val, pw]
  have hj' : j = 0 ∨ j = 1 := by omega
  rcases hj' with rfl | rfl
  ·rw [p0, p1]; omega
  ·rw [p1, p2]; omega
theorem big_not {w : World} {b : Bool} {ao : Option Addr} {n nc : Nat} {x : Int} (h : Right w b ao n nc x) (h2 : 2 < n) : isSmall x = false := by
 obtain ⟨f, f1, f2, hs, cf, hsg⟩ := h.ex
 have h1 := cf.val
 have h3 : f (n - 1) ≠ 0 := by rcases cf.top with h | h <;> omega
 obtain ⟨j, rfl⟩ : ∃ j, n = j + 1 + 1 + 1 := ⟨n - 3, by omega⟩
 have h3 : f (j + 1 + 1) ≠ 0 := h3
 have h4 := val_ge h3
 have h5 : pw 2 ≤ pw (j + 1 + 1) := pw_le (by omega)
 have h6 : pw 2 = 18446744073709551616 := rfl
 simp only [isSmall, decide_eq_false_iff_not]
 omega
theorem rSmall_any (b : Bool) (ao : Option Addr) (n nc : Nat) (x : Int) (w : World) (A : Whole w b ao n nc x) (M : Nat) (h3 : 3 ≤ M) (hM : M ≤ 1000) (hx : x.natAbs < pw M) :
  Calls Tryz.prog 40 #[.agg #[.bool b, .slice ao n nc]] w (Says (smallV x) w) := by
 have A' := Lib.hid A; have hx' := Lib.hid hx
 have m1 := Lib.hid (Nat.lt_of_lt_of_le (int_small (n := 9223372036854775807) (by decide) (by decide)) (pw_le h3))
 have m2 := Lib.hid (Nat.lt_of_lt_of_le (int_small (n := -9223372036854775808) (by decide) (by decide)) (pw_le h3))
 clear A hx
 go_enter Tryz.func40, Tryz.ntmps40
 go_wp2_with fail
 refine gen_calls (fun w' => Below w.heap.size w w' ∧ Box w' w.heap.size (.bool b) (.slice ao n nc))
  ⟨((Below.refl _ w).alloc (Nat.le_refl _) _), (Box.new _ _ _ rfl)⟩ ?_
 rintro w0 ⟨hb0, x0⟩
 refine (rNorm_any b ao n nc x _ (A'.out.below hb0)).mono ?_
 rintro e w1 ⟨sb, so, sn, sc, rfl, hR, hb⟩
 have hb1 := Lib.hid (below_then hb0 (Nat.le_refl _) hb)
 have hR' := Lib.hid hR
 clear hb0 hb x0
 by_cases h2 : 2 < sn
 ·have h2i : decide ((2 : Int) < (sn : Int)) = true := decide_eq_true (by omega)
  have es := Lib.hid (big_not hR h2)
  clear hR
  go_wp2_with fail
  refine gen_wp (fun w' => Below w.heap.size w w' ∧ Box w' w1.heap.size (.bool sb) (.slice so sn sc) ∧ Right w' sb so sn sc x) ⟨hb1.out.alloc hb1.out.size _, Box.new _ _ _ rfl, hR'.out.alloc _⟩ ?_
  rintro w2 ⟨bb, p, hR⟩
  have p0 := p.c0; have p1 := p.c1
  clear p hR
  go_quiet (fail)
  have bb := below_drewN bb
  go_wp2_with fail
  go_ret2
  refine ⟨?_, bb _⟩
  simp [smallV, es.out]
 ·have h2i : decide ((2 : Int) < (sn : Int)) = false := decide_eq_false (by omega)
  clear hR
  by_cases hhi : (9223372036854775807 : Int) < x
  ·have es : Hid (isSmall x = false) := Lib.hid (by simp only [isSmall, decide_eq_false_iff_not]; omega)
   go_wp2_with fail
   refine gen_wp (fun w' => Below w.heap.size w w' ∧ Box w' w1.heap.size (.bool sb) (.slice so sn sc) ∧ Right w' sb so sn sc x) ⟨hb1.out.alloc hb1.out.size _, Box.new _ _ _ rfl, hR'.out.alloc _⟩ ?_
   rintro w2 ⟨bb, p, hR⟩
   have bb := bb.drew; have p := p.drew; have A := (hR.whole hx'.out (by omega)).drew
   have p0 := p.c0; have p1 := p.c1
   have s0 := True.intro
   clear hR
   go_region_with (first
    | (go_at_call 97; clear s0; refine (rOf_any 9223372036854775807 _ (by decide) (by decide)).mono ?_; rintro e w' ⟨tb, to_, tn, tc, rfl, hT, hb⟩; have bb := below_then bb (Nat.le_refl _) hb; have p := p.later hb; have A := A.below hb; have hT := hT.whole m1.out (by omega); have p0 := p.c0; have p1 := p.c1)
    | (go_at_call 96; refine (rCmp_any sb tb so to_ sn sc tn tc x 9223372036854775807 _ A hT M hM hx'.out m1.out).mono ?_; rintro e w' ⟨rfl, hb⟩; have bb := below_then bb (Nat.le_refl _) hb; rw [cmpI_gt hhi]))
   all_goals
    go_wp2_with fail
    go_ret2
    refine ⟨?_, bb⟩
    simp [smallV, es.out]
  ·have d1 : decide ((0 : Int) < cmpI x 9223372036854775807) = false := decide_eq_false (by
    by_cases h : x = 9223372036854775807
    ·rw [cmpI_eq h]; omega
    ·rw [cmpI_lt (by omega)]; omega)
   by_cases hlo : x < (-9223372036854775808 : Int)
   ·have es : Hid (isSmall x = false) := Lib.hid (by simp only [isSmall, decide_eq_false_iff_not]; omega)
    go_wp2_with fail
    refine gen_wp (fun w' => Below w.heap.size w w' ∧ Box w' w1.heap.size (.bool sb) (.slice so sn sc) ∧ Right w' sb so sn sc x) ⟨hb1.out.alloc hb1.out.size _, Box.new _ _ _ rfl, hR'.out.alloc _⟩ ?_
    rintro w2 ⟨bb, p, hR⟩
    have bb := bb.drew; have p := p.drew; have A := (hR.whole hx'.out (by omega)).drew
    have sa0 := True.intro
    go_region_held3 (fun w' => w'.cell? ⟨w1.heap.size, 0, none⟩ = some (.bool sb) ∧ w'.cell? ⟨w1.heap.size, 1, none⟩ = some (.slice so sn sc))
     (first | with_reducible exact ⟨p.c0, p.c1⟩ | go_keep)
     (first
     | (go_at_call 97; clear sa0; refine (rOf_any 9223372036854775807 _ (by decide) (by decide)).mono ?_; rintro e w' ⟨tb, to_, tn, tc, rfl, hT, hb⟩; have bb := below_then bb (Nat.le_refl _) hb; have p := p.later hb; have A := A.below hb; have hT := hT.whole m1.out (by omega); have sa1 := True.intro)
     | (go_at_call 96; clear sa1; refine (rCmp_any sb tb so to_ sn sc tn tc x 9223372036854775807 _ A hT M hM hx'.out m1.out).mono ?_; rintro e w' ⟨rfl, hb⟩; have bb := below_then bb (Nat.le_refl _) hb; have p := p.later hb; have A := A.below hb; have hT := hT.below hb; have sa2 := True.intro)
     | (go_at_call 97; clear sa2; refine (rOf_any (-9223372036854775808) _ (by decide) (by decide)).mono ?_; rintro e w' ⟨tb, to_, tn, tc, rfl, hT, hb⟩; have bb := below_then bb (Nat.le_refl _) hb; have p := p.later hb; have A := A.below hb; have hT := hT.whole m2.out (by omega); have sa3 := True.intro)
     | (go_at_call 96; clear sa3; refine (rCmp_any sb tb so to_ sn sc tn tc x (-9223372036854775808) _ A hT M hM hx'.out m2.out).mono ?_; rintro e w' ⟨rfl, hb⟩; have bb := below_then bb (Nat.le_refl _) hb; have p := p.later hb; have A := A.below hb; have hT := hT.below hb; rw [cmpI_lt hlo]; have sa4 := True.intro))
    go_wp2_with fail
    go_ret2
    refine ⟨?_, bb⟩
    simp [smallV, es.out]
   ·have d2 : decide (cmpI x (-9223372036854775808) < (0 : Int)) = false := decide_eq_false (by
     by_cases h : x = -9223372036854775808
     ·rw [cmpI_eq h]; omega
     ·rw [cmpI_gt (by omega)]; omega)
    have es : Hid (isSmall x = true) := Lib.hid (by simp only [isSmall, decide_eq_true_eq]; omega)
    go_wp2_with fail
    refine gen_wp (fun w' => Below w.heap.size w w' ∧ Box w' w1.heap.size (.bool sb) (.slice so sn sc) ∧ Right w' sb so sn sc x) ⟨hb1.out.alloc hb1.out.size _, Box.new _ _ _ rfl, hR'.out.alloc _⟩ ?_
    rintro w2 ⟨bb, p, hR⟩
    obtain ⟨f, f1, f2, hs, cf, hsg⟩ := hR.ex
    have bb := bb.drew; have p := p.drew; have A := (hR.whole hx'.out (by omega)).drew
    have hs := hs.below (Below.refl _ _).drew
    have cf' := Lib.hid cf; have hsg' := Lib.hid hsg
    clear hsg cf f1 f2 hR
    have sb0 := True.intro
    go_region_held3 (fun w' => w'.cell? ⟨w1.heap.size, 0, none⟩ = some (.bool sb) ∧ w'.cell? ⟨w1.heap.size, 1, none⟩ = some (.slice so sn sc))
     (first | with_reducible exact ⟨p.c0, p.c1⟩ | go_keep)
     (first
     | (go_at_call 97; clear sb0; refine (rOf_any 9223372036854775807 _ (by decide) (by decide)).mono ?_; rintro e w' ⟨tb, to_, tn, tc, rfl, hT, hb⟩; have bb := below_then bb (Nat.le_refl _) hb; have p := p.later hb; have A := A.below hb; have hs := hs.below hb; have hT := hT.whole m1.out (by omega); have sb1 := True.intro)
     | (go_at_call 96; clear sb1; refine (rCmp_any sb tb so to_ sn sc tn tc x 9223372036854775807 _ A hT M hM hx'.out m1.out).mono ?_; rintro e w' ⟨rfl, hb⟩; have bb := below_then bb (Nat.le_refl _) hb; have p := p.later hb; have A := A.below hb; have hs := hs.below hb; have hT := hT.below hb; have sb2 := True.intro)
     | (go_at_call 97; clear sb2; refine (rOf_any (-9223372036854775808) _ (by decide) (by decide)).mono ?_; rintro e w' ⟨tb, to_, tn, tc, rfl, hT, hb⟩; have bb := below_then bb (Nat.le_refl _) hb; have p := p.later hb; have A := A.below hb; have hs := hs.below hb; have hT := hT.whole m2.out (by omega); have sb3 := True.intro)
     | (go_at_call 96; clear sb3; refine (rCmp_any sb tb so to_ sn sc tn tc x (-9223372036854775808) _ A hT M hM hx'.out m2.out).mono ?_; rintro e w' ⟨rfl, hb⟩; have bb := below_then bb (Nat.le_refl _) hb; have p := p.later hb; have A := A.below hb; have hs := hs.below hb; have hT := hT.below hb; have sb4 := True.intro))
    have hs' := Lib.hid hs; have bb' := Lib.hid bb
    have p0 := p.c0; have p1 := p.c1
    have hxb := Lib.hid (show x.natAbs ≤ 9223372036854775808 by omega)
    have sn2 := Lib.hid (show sn ≤ 2 by omega)
    have xx := Lib.hid (sgn_self x)
    clear hs bb p A hT
    go_wp2_with fail
    go_loop [5, 6] (fun v i => ∃ j : Nat, j ≤ sn ∧ i = .int .i64 ((j : Int) - 1) ∧ v = .int .i64 (sgn sb (x.natAbs / pw j))) (fun _ i => (intOf i + 1).toNat)
    case atStart => exact ⟨sn, Nat.le_refl _, rfl, int_eq (by rw [Nat.div_eq_of_lt cf'.out.lt_pw]; cases sb <;> rfl)⟩
    case round =>
     obtain ⟨j, hj, rfl, rfl⟩ := hrel
     by_cases h0 : j = 0
     ·subst h0
      have e : sgn sb (x.natAbs / pw 0) = x := by
       rw [show pw 0 = 1 from rfl, Nat.div_one, hsg'.out]
       exact xx.out
      rw [e]
      clear e
      go_wp2_with fail
      go_ret2
      refine ⟨?_, bb'.out⟩
      simp [smallV, es.out]
     ·obtain ⟨t, rfl⟩ : ∃ t, j = t + 1 := ⟨j - 1, by omega⟩
      have e : ((t + 1 : Nat) : Int) - 1 = (t : Int) := by omega
      rw [e]
      clear e
      rcases hs'.out with h | ⟨g, off, rfl, hc⟩
      ·omega
      have hcell := hc t (by omega)
      have hl := cf'.out.lim t (by omega)
      have hd := val_digit sn2.out (by omega) cf'.out.lim cf'.out.val (j := t)
      have hle := Nat.div_le_self x.natAbs (pw t)
      obtain ⟨a, ha⟩ : ∃ a, a = x.natAbs / pw (t + 1) := ⟨_, rfl⟩
      rw [← ha] at hd ⊢
      have hd' := Lib.hid hd; have ha' := Lib.hid ha
      cases sb
      ·have hx0 : 0 ≤ x := by have := hsg'.out; simp at this; exact this
       have b1 : (a : Int) * 4294967296 + (f t : Int) ≤ 9223372036854775807 := by omega
       have b2 : (0 : Int) ≤ (a : Int) * 4294967296 := by omega
       rw [sgn_false]
       clear hc hd ha hle hx0
       go_wp2_with fail
       go_round
       case rel => exact ⟨t, by omega, rfl, int_eq (by rw [hd'.out, sgn_false]; omega)⟩
       case measure => simp [intOf]
      ·have b1 : -9223372036854775808 ≤ -(a : Int) * 4294967296 - (f t : Int) := by have := hxb.out; omega
       have b2 : -(a : Int) * 4294967296 ≤ 0 := by omega
       rw [sgn_true]
       clear hc hd ha hle
       go_wp2_with fail
       go_round
       case rel => exact ⟨t, by omega, rfl, int_eq (by rw [hd'.out, sgn_true]; omega)⟩
       case measure => simp [intOf]
end Go.Proofs.YtaepelipkkmeaaaGreat
namespace Go.Proofs.YtaepelipkkmeaaaGreat
open Go.RowKit Num
attribute [local go_sem ↓] Go.wp_at_zero Go.wp_at_succ
def maxR (c P : Int) (Q : Nat) (R : Int) (S : Nat) : Int × Nat × Int := if 0 < c then (P, Q, 0) else (R, S, 0)
def minR (c P : Int) (Q : Nat) (R : Int) (S : Nat) : Int × Nat × Int := if c < 0 then (P, Q, 0) else (R, S, 0)
def truthZ (b : Bool) : Int := if b then 1 else 0
theorem truth10_any (v : Bool) (w : World) : Calls Tryz.prog 76 #[.bool v] w (ResPost (truthZ v) 1 0 w) := by
 cases v
 all_goals
  go_enter Tryz.func76, Tryz.ntmps76
  go_wp2_with fail
  refine gen_calls (fun w' => Below w.heap.size w w' ∧ Box3 w' w.heap.size (.bool false) (.slice none 0 0) (.slice none 0 0)) ⟨(Below.refl _ _).alloc (Nat.le_refl _) _, Box3.new _ _ _ _ rfl⟩ ?_
  rintro w0 ⟨bb, X2⟩
  refine (of4_any _ _ (by decide) (by decide)).mono ?_
  rintro e v1 ⟨db, dp, dn, dc, dq, dm, de, rfl, D, hb⟩
  replace bb := below_then bb (Nat.le_refl _) hb; replace X2 := X2.later hb; replace D := Lib.hid D
  clear hb
  have q0 := X2.c0; have q1 := X2.c1; have q2 := X2.c2; have q3 := X2.fr 0; have q4 := X2.fr 1; have q5 := X2.fr 2
  have zz := X2.set (.bool db) (.slice dp dn dc) (.slice dq dm de)
  have e0 := zz.c0; have e1 := zz.c1; have e2 := zz.c2
  have Y2 := Lib.hid X2; have bb' := Lib.hid bb
  clear zz X2 bb
  go_wp2_with fail
  refine bodyPost_ret (v := .tuple #[.agg #[.bool db, .slice dp dn dc, .slice dq dm de], .int .i64 0]) (by simp [results, Tryz.results76, go_sem, e0, e1, e2]) rfl ?_
  exact ResPost.stored D.out Y2.out bb'.out (Nat.le_refl _)
theorem num2_call (f : Int) (r : Int × Nat × Int) (ab : Bool) (ap aq : Option Addr) (an ac am ae : Nat) (P : Int) (Q : Nat) (cb : Bool) (cp cq : Option Addr) (cn cc cm ce : Nat) (R : Int) (S : Nat) (w : World) (Ra : Rt w ab ap an ac aq am ae P Q) (la : Low P Q) (Rb : Rt w cb cp cn cc cq cm ce R S) (lb : Low R S) (hf : (f = 43 ∧ r = (mkT (P * S + R * Q) ((Q : Int) * S), mkB (P * S + R * Q) ((Q : Int) * S), mkE (P * S + R * Q) ((Q : Int) * S))) ∨ (f = 45 ∧ r = (mkT (P * S + -R * Q) ((Q : Int) * S), mkB (P * S + -R * Q) ((Q : Int) * S), mkE (P * S + -R * Q) ((Q : Int) * S))) ∨ (f = 215 ∧ r = (mkT (P * R) ((Q : Int) * S), mkB (P * R) ((Q : Int) * S), mkE (P * R) ((Q : Int) * S))) ∨ (f = 247 ∧ r = (mkT (P * S) ((Q : Int) * R), mkB (P * S) ((Q : Int) * R), mkE (P * S) ((Q : Int) * R))) ∨ (f = 124 ∧ r = modRes P Q R S) ∨ (f = 8743 ∧ r = lcmRes P Q R S) ∨ (f = 8744 ∧ r = gcdRes P Q R S)) :
  Calls Tryz.prog 20 #[.int .i64 f, .agg #[.bool ab, .slice ap an ac, .slice aq am ae], .agg #[.bool cb, .slice cp cn cc, .slice cq cm ce]] w (NumRes r w) := by
 rcases hf with ⟨rfl, hr⟩ | ⟨rfl, hr⟩ | ⟨rfl, hr⟩ | ⟨rfl, hr⟩ | ⟨rfl, hr⟩ | ⟨rfl, hr⟩ | ⟨rfl, hr⟩
 have hcon := Lib.hid (fun (W : World) (A : Rt W ab ap an ac aq am ae P Q) (B : Rt W cb cp cn cc cq cm ce R S) => (rAdd4_any ab ap aq an ac am ae P Q cb cp cq cn cc cm ce R S W A la B lb).mono fun e w' h => (show NumRes r W e w' from by rw [hr]; exact h))
 rotate_left
 have hcon := Lib.hid (fun (W : World) (A : Rt W ab ap an ac aq am ae P Q) (B : Rt W cb cp cn cc cq cm ce R S) => (rSub4_any ab ap aq an ac am ae P Q cb cp cq cn cc cm ce R S W A la B lb).mono fun e w' h => (show NumRes r W e w' from by rw [hr]; exact h))
 rotate_left
 have hcon := Lib.hid (fun (W : World) (A : Rt W ab ap an ac aq am ae P Q) (B : Rt W cb cp cn cc cq cm ce R S) => (rMul4_any ab ap aq an ac am ae P Q cb cp cq cn cc cm ce R S W A la B lb).mono fun e w' h => (show NumRes r W e w' from by rw [hr]; exact h))
 rotate_left
 have hcon := Lib.hid (fun (W : World) (A : Rt W ab ap an ac aq am ae P Q) (B : Rt W cb cp cn cc cq cm ce R S) => (rDiv4_any ab ap aq an ac am ae P Q cb cp cq cn cc cm ce R S W A la B lb).mono fun e w' h => (show NumRes r W e w' from by rw [hr]; exact h))
 rotate_left
 have hcon := Lib.hid (fun (W : World) (A : Rt W ab ap an ac aq am ae P Q) (B : Rt W cb cp cn cc cq cm ce R S) => (rMod4_any ab ap aq an ac am ae P Q cb cp cq cn cc cm ce R S W A la B lb).mono fun e w' h => (show NumRes r W e w' from by rw [hr]; exact h))
 rotate_left
 have hcon := Lib.hid (fun (W : World) (A : Rt W ab ap an ac aq am ae P Q) (B : Rt W cb cp cn cc cq cm ce R S) => (rLcm4_any ab ap aq an ac am ae P Q cb cp cq cn cc cm ce R S W A la B lb).mono fun e w' h => (show NumRes r W e w' from by rw [hr]; exact h))
 rotate_left
 have hcon := Lib.hid (fun (W : World) (A : Rt W ab ap an ac aq am ae P Q) (B : Rt W cb cp cn cc cq cm ce R S) => (rGcd4_any ab ap aq an ac am ae P Q cb cp cq cn cc cm ce R S W A la B lb).mono fun e w' h => (show NumRes r W e w' from by rw [hr]; exact h))
 rotate_left
 all_goals
  clear hr
  obtain ⟨c, hc⟩ : ∃ c, c = cmpI (P * S) (R * Q) := ⟨_, rfl⟩
  replace hc := Lib.hid hc
  replace Ra := Lib.hid Ra; replace la := Lib.hid la; replace Rb := Lib.hid Rb; replace lb := Lib.hid lb
  go_enter Tryz.func20, Tryz.ntmps20
  go_upto_region 1 with fail
  refine gen_wp (fun w' => Below w.heap.size w w' ∧ Box3 w' w.heap.size (.bool ab) (.slice ap an ac) (.slice aq am ae) ∧ Box3 w' (w.heap.size + 1) (.bool cb) (.slice cp cn cc) (.slice cq cm ce) ∧ Box3 w' (w.heap.size + 2) (.bool false) (.slice none 0 0) (.slice none 0 0))
   ⟨((((Below.refl _ _).alloc (Nat.le_refl _) _).alloc (by simp <;> omega) _).alloc (by simp <;> omega) _), (((Box3.new _ _ _ _ rfl).alloc _).alloc _), ((Box3.new _ _ _ _ (by simp <;> omega)).alloc _), (Box3.new _ _ _ _ (by simp <;> omega))⟩ ?_
  rintro w0 ⟨bb, Xa, Xb, X2⟩
  replace Ra := Ra.out.below bb; replace Rb := Rb.out.below bb
  replace bb := Lib.hid bb; replace Xa := Lib.hid Xa; replace Xb := Lib.hid Xb; replace X2 := Lib.hid X2; replace Ra := Lib.hid Ra; replace Rb := Lib.hid Rb
  have p00 := Xa.out.c0; have p01 := Xa.out.c1; have p02 := Xa.out.c2; have p10 := Xb.out.c0; have p11 := Xb.out.c1; have p12 := Xb.out.c2
  go_wp2_with fail
  clear p00 p01 p02 p10 p11 p12
  refine ((rCmp4_any ab ap aq an ac am ae P Q cb cp cq cn cc cm ce R S _ Ra.out la.out Rb.out lb.out).mono fun _ _ h => (show Says (.int .i64 c) _ _ _ by rw [hc.out]; exact h)).mono ?_
  rintro e v1 ⟨rfl, hb⟩
  replace bb := Lib.hid (below_then bb.out (Nat.le_refl _) hb); replace Xa := Lib.hid (Xa.out.later hb); replace Xb := Lib.hid (Xb.out.later hb); replace X2 := Lib.hid (X2.out.later hb); replace Ra := Lib.hid (Ra.out.below hb); replace Rb := Lib.hid (Rb.out.below hb)
  clear hb
  have p00 := Xa.out.c0; have p01 := Xa.out.c1; have p02 := Xa.out.c2; have p10 := Xb.out.c0; have p11 := Xb.out.c1; have p12 := Xb.out.c2
  go_wp2_with fail
  clear p00 p01 p02 p10 p11 p12
  refine (hcon.out _ Ra.out Rb.out).mono ?_
  rintro e v2 ⟨db, dp, dn, dc, dq, dm, de, rfl, D, hb⟩
  replace bb := Lib.hid (below_then bb.out (Nat.le_refl _) hb); replace Xa := Lib.hid (Xa.out.later hb); replace Xb := Lib.hid (Xb.out.later hb); replace X2 := Lib.hid (X2.out.later hb); replace Ra := Lib.hid (Ra.out.below hb); replace Rb := Lib.hid (Rb.out.below hb)
  replace D := Lib.hid D
  clear hb
  replace X2 := X2.out
  replace bb := bb.out
  have q0 := X2.c0; have q1 := X2.c1; have q2 := X2.c2; have q3 := X2.fr 0; have q4 := X2.fr 1; have q5 := X2.fr 2
  have zz := X2.set (.bool db) (.slice dp dn dc) (.slice dq dm de)
  have e0 := zz.c0; have e1 := zz.c1; have e2 := zz.c2
  have Y2 := Lib.hid X2; have bb' := Lib.hid bb
  clear zz X2 bb
  go_wp2_with fail
  refine bodyPost_ret (v := .tuple #[.agg #[.bool db, .slice dp dn dc, .slice dq dm de], .int .i64 (r.2.2)]) (by simp [results, Tryz.results20, go_sem, e0, e1, e2]) rfl ?_
  exact (ResPost.stored D.out Y2.out bb'.out (by omega))
theorem num2_truth (f : Int) (r : Int × Nat × Int) (ab : Bool) (ap aq : Option Addr) (an ac am ae : Nat) (P : Int) (Q : Nat) (cb : Bool) (cp cq : Option Addr) (cn cc cm ce : Nat) (R : Int) (S : Nat) (w : World) (Ra : Rt w ab ap an ac aq am ae P Q) (la : Low P Q) (Rb : Rt w cb cp cn cc cq cm ce R S) (lb : Low R S) (hf : (f = 60 ∧ r = (truthZ (decide (cmpI (P * S) (R * Q) < 0)), 1, 0)) ∨ (f = 8804 ∧ r = (truthZ (decide (cmpI (P * S) (R * Q) ≤ 0)), 1, 0)) ∨ (f = 61 ∧ r = (truthZ (cmpI (P * S) (R * Q) == 0), 1, 0)) ∨ (f = 8805 ∧ r = (truthZ (decide (0 ≤ cmpI (P * S) (R * Q))), 1, 0)) ∨ (f = 62 ∧ r = (truthZ (decide (0 < cmpI (P * S) (R * Q))), 1, 0)) ∨ (f = 8800 ∧ r = (truthZ (cmpI (P * S) (R * Q) != 0), 1, 0))) :
  Calls Tryz.prog 20 #[.int .i64 f, .agg #[.bool ab, .slice ap an ac, .slice aq am ae], .agg #[.bool cb, .slice cp cn cc, .slice cq cm ce]] w (NumRes r w) := by
 obtain ⟨c, hc⟩ : ∃ c, c = cmpI (P * S) (R * Q) := ⟨_, rfl⟩
 rcases hf with ⟨rfl, hr⟩ | ⟨rfl, hr⟩ | ⟨rfl, hr⟩ | ⟨rfl, hr⟩ | ⟨rfl, hr⟩ | ⟨rfl, hr⟩
 have hv := Lib.hid (show r = (truthZ (decide (c < 0)), 1, 0) from by rw [hr, hc])
 rotate_left
 have hv := Lib.hid (show r = (truthZ (decide (c ≤ 0)), 1, 0) from by rw [hr, hc])
 rotate_left
 have hv := Lib.hid (show r = (truthZ (c == 0), 1, 0) from by rw [hr, hc])
 rotate_left
 have hv := Lib.hid (show r = (truthZ (decide (0 ≤ c)), 1, 0) from by rw [hr, hc])
 rotate_left
 have hv := Lib.hid (show r = (truthZ (decide (0 < c)), 1, 0) from by rw [hr, hc])
 rotate_left
 have hv := Lib.hid (show r = (truthZ (c != 0), 1, 0) from by rw [hr, hc])
 rotate_left
 all_goals
  clear hr
  replace hc := Lib.hid hc
  replace Ra := Lib.hid Ra; replace la := Lib.hid la; replace Rb := Lib.hid Rb; replace lb := Lib.hid lb
  go_enter Tryz.func20, Tryz.ntmps20
  go_upto_region 1 with fail
  refine gen_wp (fun w' => Below w.heap.size w w' ∧ Box3 w' w.heap.size (.bool ab) (.slice ap an ac) (.slice aq am ae) ∧ Box3 w' (w.heap.size + 1) (.bool cb) (.slice cp cn cc) (.slice cq cm ce) ∧ Box3 w' (w.heap.size + 2) (.bool false) (.slice none 0 0) (.slice none 0 0))
   ⟨((((Below.refl _ _).alloc (Nat.le_refl _) _).alloc (by simp <;> omega) _).alloc (by simp <;> omega) _), (((Box3.new _ _ _ _ rfl).alloc _).alloc _), ((Box3.new _ _ _ _ (by simp <;> omega)).alloc _), (Box3.new _ _ _ _ (by simp <;> omega))⟩ ?_
  rintro w0 ⟨bb, Xa, Xb, X2⟩
  replace Ra := Ra.out.below bb; replace Rb := Rb.out.below bb
  replace bb := Lib.hid bb; replace Xa := Lib.hid Xa; replace Xb := Lib.hid Xb; replace X2 := Lib.hid X2; replace Ra := Lib.hid Ra; replace Rb := Lib.hid Rb
  have p00 := Xa.out.c0; have p01 := Xa.out.c1; have p02 := Xa.out.c2; have p10 := Xb.out.c0; have p11 := Xb.out.c1; have p12 := Xb.out.c2
  go_wp2_with fail
  clear p00 p01 p02 p10 p11 p12
  refine ((rCmp4_any ab ap aq an ac am ae P Q cb cp cq cn cc cm ce R S _ Ra.out la.out Rb.out lb.out).mono fun _ _ h => (show Says (.int .i64 c) _ _ _ by rw [hc.out]; exact h)).mono ?_
  rintro e v1 ⟨rfl, hb⟩
  replace bb := Lib.hid (below_then bb.out (Nat.le_refl _) hb); replace Xa := Lib.hid (Xa.out.later hb); replace Xb := Lib.hid (Xb.out.later hb); replace X2 := Lib.hid (X2.out.later hb); replace Ra := Lib.hid (Ra.out.below hb); replace Rb := Lib.hid (Rb.out.below hb)
  clear hb
  go_wp2_with fail
  refine (truth10_any _ _).mono ?_
  rintro e v2 ⟨db, dp, dn, dc, dq, dm, de, rfl, D, hb⟩
  replace bb := Lib.hid (below_then bb.out (Nat.le_refl _) hb); replace Xa := Lib.hid (Xa.out.later hb); replace Xb := Lib.hid (Xb.out.later hb); replace X2 := Lib.hid (X2.out.later hb); replace Ra := Lib.hid (Ra.out.below hb); replace Rb := Lib.hid (Rb.out.below hb)
  replace D := Lib.hid D
  clear hb
  replace X2 := X2.out
  replace bb := bb.out
  have q0 := X2.c0; have q1 := X2.c1; have q2 := X2.c2; have q3 := X2.fr 0; have q4 := X2.fr 1; have q5 := X2.fr 2
  have zz := X2.set (.bool db) (.slice dp dn dc) (.slice dq dm de)
  have e0 := zz.c0; have e1 := zz.c1; have e2 := zz.c2
  have Y2 := Lib.hid X2; have bb' := Lib.hid bb
  clear zz X2 bb
  go_wp2_with fail
  refine bodyPost_ret (v := .tuple #[.agg #[.bool db, .slice dp dn dc, .slice dq dm de], .int .i64 (0)]) (by simp [results, Tryz.results20, go_sem, e0, e1, e2]) rfl ?_
  exact NumRes.of (ResPost.stored D.out Y2.out bb'.out (by omega)) hv.out
end Go.Proofs.YtaepelipkkmeaaaGreat
namespace Go.Proofs.YtaepelipkkmeaaaGreat
open Go.RowKit Num
attribute [local go_sem ↓] Go.wp_at_zero Go.wp_at_succ
def smallQ (P : Int) (Q : Nat) : Bool := decide (Q = 1) && isSmall P
def smallP (P : Int) (Q : Nat) : Int := if smallQ P Q then P else 0
def smallR (P : Int) (Q : Nat) : Value := .tuple #[.int .i64 (smallP P Q), .bool (smallQ P Q)]
theorem small4_any (ab : Bool) (ap aq : Option Addr) (an ac am ae : Nat) (P : Int) (Q : Nat) (w : World) (Ra : Rt w ab ap an ac aq am ae P Q) (la : Low P Q) :
  Calls Tryz.prog 13 #[.agg #[.bool ab, .slice ap an ac, .slice aq am ae]] w (Says (smallR P Q) w) := by
 replace Ra := Lib.hid Ra; replace la := Lib.hid la
 by_cases hQ : Q = 1
 ·have e1 := Lib.hid (show smallR P Q = smallV P by subst hQ; rfl)
  have hQ' := Lib.hid hQ
  clear hQ
  go_enter Tryz.func13, Tryz.ntmps13
  go_upto_region 1 with fail
  refine gen_wp (fun w' => Below w.heap.size w w' ∧ Box3 w' w.heap.size (.bool ab) (.slice ap an ac) (.slice aq am ae)) ⟨(Below.refl _ _).alloc (Nat.le_refl _) _, Box3.new _ _ _ _ rfl⟩ ?_
  rintro w0 ⟨bb, X⟩
  have R0 := Lib.hid (Ra.out.below bb)
  have p0 := X.c0; have p1 := X.c1; have p2 := X.c2
  replace bb := Lib.hid bb; replace X := Lib.hid X
  go_wp2_with fail
  refine ((isWhole_any ab ap aq an ac am ae P Q _ R0.out).mono fun _ _ h => (show Says (.bool true) _ _ _ by rw [decide_eq_true hQ'.out] at h; exact h)).mono ?_
  rintro e v1 ⟨rfl, hb⟩
  replace bb := Lib.hid (below_then bb.out (Nat.le_refl _) hb); replace X := Lib.hid (X.out.later hb); replace R0 := Lib.hid (R0.out.below hb)
  clear hb p0 p1 p2
  have p0 := X.out.c0; have p1 := X.out.c1; have p2 := X.out.c2
  go_wp2_with fail
  refine (rTop_any ab ap aq an ac am ae P _ (R0.out.upper la.out)).mono ?_
  rintro e v2 ⟨tb, tp, tn, tc, rfl, T, hb⟩
  replace bb := Lib.hid (below_then bb.out (Nat.le_refl _) hb); replace T := Lib.hid T
  clear hb p0 p1 p2 X R0
  go_wp2_with fail
  refine (rSmall_any tb tp tn tc P _ (T.out.whole32 la.out.abs_lt) 32 (by omega) (by omega) la.out.abs_lt).mono ?_
  rintro e v3 ⟨rfl, hb⟩
  replace bb := Lib.hid (below_then bb.out (Nat.le_refl _) hb)
  clear hb T
  cases hsm : isSmall P
  all_goals
   have hv := Lib.hid (show smallV P = smallV P from rfl)
   unfold smallV at hv ⊢
   rw [hsm] at hv ⊢
   have hsm' := Lib.hid hsm
   clear hsm hv
   go_wp2_with fail
   go_ret2
   exact ⟨by rw [e1.out]; unfold smallV; rw [hsm'.out]; rfl, bb.out⟩
 ·have hs := Lib.hid (show smallR P Q = .tuple #[.int .i64 0, .bool false] by unfold smallR smallP smallQ; rw [decide_eq_false hQ]; rfl)
  have hQ' := Lib.hid hQ
  clear hQ
  go_enter Tryz.func13, Tryz.ntmps13
  go_upto_region 1 with fail
  refine gen_wp (fun w' => Below w.heap.size w w' ∧ Box3 w' w.heap.size (.bool ab) (.slice ap an ac) (.slice aq am ae)) ⟨(Below.refl _ _).alloc (Nat.le_refl _) _, Box3.new _ _ _ _ rfl⟩ ?_
  rintro w0 ⟨bb, X⟩
  have R0 := Lib.hid (Ra.out.below bb)
  have p0 := X.c0; have p1 := X.c1; have p2 := X.c2
  replace bb := Lib.hid bb
  go_wp2_with fail
  refine ((isWhole_any ab ap aq an ac am ae P Q _ R0.out).mono fun _ _ h => (show Says (.bool false) _ _ _ by rw [decide_eq_false hQ'.out] at h; exact h)).mono ?_
  rintro e v1 ⟨rfl, hb⟩
  replace bb := Lib.hid (below_then bb.out (Nat.le_refl _) hb)
  clear hb p0 p1 p2 X R0
  go_wp2_with fail
  go_ret2
  exact ⟨by rw [hs.out]; rfl, bb.out⟩
end Go.Proofs.YtaepelipkkmeaaaGreat
namespace Go.Proofs.YtaepelipkkmeaaaGreat
open Go.RowKit Num
attribute [local go_sem ↓] Go.wp_at_zero Go.wp_at_succ
def powN (P : Int) (Q : Nat) (R : Int) (S : Nat) : Int × Nat × Int := if smallQ R S = true then powRes P Q (smallP R S) else (0, 0, 8)
theorem small_bounds {P : Int} {Q : Nat} : -9223372036854775808 ≤ smallP P Q ∧ smallP P Q ≤ 9223372036854775807 := by
 unfold smallP
 cases h : smallQ P Q with
 | false => rw [if_neg (by decide)]; exact ⟨by decide, by decide⟩
 | true =>
  unfold smallQ isSmall at h
  rw [Bool.and_eq_true, decide_eq_true_iff, decide_eq_true_iff] at h
  exact h.2
end Go.Proofs.YtaepelipkkmeaaaGreat
namespace Go.Proofs.YtaepelipkkmeaaaGreat
open Go.RowKit Num
attribute [local go_sem ↓] Go.wp_at_zero Go.wp_at_succ
def num2R (f P : Int) (Q : Nat) (R : Int) (S : Nat) : Int × Nat × Int :=
 if f = 43 then (mkT (P * S + R * Q) ((Q : Int) * S), mkB (P * S + R * Q) ((Q : Int) * S), mkE (P * S + R * Q) ((Q : Int) * S)) else
 if f = 45 then (mkT (P * S + -R * Q) ((Q : Int) * S), mkB (P * S + -R * Q) ((Q : Int) * S), mkE (P * S + -R * Q) ((Q : Int) * S)) else
 if f = 215 then (mkT (P * R) ((Q : Int) * S), mkB (P * R) ((Q : Int) * S), mkE (P * R) ((Q : Int) * S)) else
 if f = 247 then (mkT (P * S) ((Q : Int) * R), mkB (P * S) ((Q : Int) * R), mkE (P * S) ((Q : Int) * R)) else
 if f = 8968 then maxR (cmpI (P * S) (R * Q)) P Q R S else
 if f = 8970 then minR (cmpI (P * S) (R * Q)) P Q R S else
 if f = 124 then modRes P Q R S else
 if f = 42 then powN P Q R S else
 if f = 60 then (truthZ (decide ((cmpI (P * S) (R * Q)) < 0)), 1, 0) else
 if f = 8804 then (truthZ (decide ((cmpI (P * S) (R * Q)) ≤ 0)), 1, 0) else
 if f = 61 then (truthZ ((cmpI (P * S) (R * Q)) == 0), 1, 0) else
 if f = 8805 then (truthZ (decide (0 ≤ (cmpI (P * S) (R * Q)))), 1, 0) else
 if f = 62 then (truthZ (decide (0 < (cmpI (P * S) (R * Q)))), 1, 0) else
 if f = 8800 then (truthZ ((cmpI (P * S) (R * Q)) != 0), 1, 0) else
 if f = 8743 then lcmRes P Q R S else
 if f = 8744 then gcdRes P Q R S else
 (0, 0, 8)
end Go.Proofs.YtaepelipkkmeaaaGreat
namespace Go.Proofs.YtaepelipkkmeaaaGreat
open Go.RowKit
def SlZ (w : World) (ao : Option Addr) (n : Nat) (f : Nat → Int) : Prop :=
 n = 0 ∨ ∃ b off, ao = some ⟨b, off, none⟩ ∧ ∀ j, j < n → w.cell? ⟨b, off + j, none⟩ = some (.int .i64 (f j))
theorem SlZ.below {w w' : World} {ao : Option Addr} {n : Nat} {f : Nat → Int} (h : SlZ w ao n f) (hb : Below w.heap.size w w') : SlZ w' ao n f := by
 rcases h with h | ⟨b, off, rfl, h⟩
 ·exact .inl h
 ·exact .inr ⟨b, off, rfl, fun j hj => (hb.cell (World.block_lt_of_cell? w _ (h j hj))).trans (h j hj)⟩
def intOfZ : Value → Int
 | .int _ i => i
 | _ => 0
def MemZ (f : Nat → Int) (n : Nat) (c : Int) : Prop := ∃ j, j < n ∧ f j = c
theorem in6_any (ao : Option Addr) (n nc : Nat) (f : Nat → Int) (c : Int) (w : World) (hn : n ≤ 9223372036854775807) (hf : SlZ w ao n f) :
  Calls Tryz.prog 9 #[.slice ao n nc, .int .i64 c] w fun e w' => (e = .returned (.bool true) ∧ MemZ f n c ∨ e = .returned (.bool false) ∧ ¬ MemZ f n c) ∧ w = w' := by
 go_enter Tryz.func9, Tryz.ntmps9
 go_wp2_with fail
 go_loop [5] (fun i => ∃ j : Nat, j ≤ n ∧ i = .int .i64 j ∧ Hid (∀ t, t < j → f t ≠ c)) (fun i => n - (intOfZ i).toNat)
 case atStart => exact ⟨0, Nat.zero_le _, rfl, Lib.hid fun t h => by omega⟩
 case round =>
  obtain ⟨j, hj, rfl, hd⟩ := hrel
  by_cases hlt : j < n
  ·rcases hf with h | ⟨b, off, rfl, hc⟩
   ·omega
   have c1 := hc j hlt
   clear hc
   by_cases he : f j = c
   ·have heb : (f j == c) = true := by rw [beq_iff_eq]; exact he
    have he' := Lib.hid he
    clear he
    go_wp2_with fail
    go_ret
    exact ⟨.inl ⟨rfl, j, hlt, he'.out⟩, rfl⟩
   ·have heb : (f j == c) = false := by rw [beq_eq_false_iff_ne]; exact he
    have he' := Lib.hid he
    clear he
    go_wp2_with fail
    go_round
    case rel =>
     refine ⟨j + 1, by omega, by go_num, Lib.hid fun t ht => ?_⟩
     by_cases e : t = j
     ·rw [e]; exact he'.out
     ·exact hd.out t (by omega)
    case measure => simp [intOfZ]; omega
  ·obtain rfl : j = n := by omega
   go_wp2_with fail
   go_ret
   exact ⟨.inr ⟨rfl, fun ⟨t, h1, h2⟩ => hd.out t h1 h2⟩, rfl⟩
end Go.Proofs.YtaepelipkkmeaaaGreat
namespace Go.Proofs.YtaepelipkkmeaaaGreat
open Go.RowKit
def prodZ (f : Nat → Int) : Nat → Int
 | 0 => 1
 | n + 1 => prodZ f n * f n
theorem prodZ_pos {f : Nat → Int} : ∀ n, (∀ j, j < n → 1 ≤ f j) → 1 ≤ prodZ f n
 | 0, _ => by show (1 : Int) ≤ 1; decide
 | n + 1, h => by
  have a := prodZ_pos n fun j hj => h j (by omega)
  have b := h n (by omega)
  show 1 ≤ prodZ f n * f n
  have := Int.mul_le_mul a b (by decide) (by omega)
  omega
theorem prodZ_congr {f g : Nat → Int} : ∀ n, (∀ j, j < n → f j = g j) → prodZ f n = prodZ g n
 | 0, _ => rfl
 | n + 1, h => by
  show prodZ f n * f n = prodZ g n * g n
  rw [prodZ_congr n fun j hj => h j (by omega), h n (by omega)]
structure Shape (f : Nat → Int) (n : Nat) (N : Int) : Prop where
 rank : n ≤ 6
 low : ∀ j, j < n → 0 ≤ f j
 high : ∀ j, j < n → f j ≤ 2048
 all : N = prodZ f n
 most : N ≤ 2048
end Go.Proofs.YtaepelipkkmeaaaGreat
namespace Go.Proofs.YtaepelipkkmeaaaGreat
open Go.RowKit
theorem slz_new (w : World) (L : List Int) (t : TypeId) (vs : Array Value) (h : vs = (L.map (Value.int .i64)).toArray) : SlZ (w.alloc (.cells vs t)) (some ⟨w.heap.size, 0, none⟩) L.length (fun j => L.getD j 0) := by
 subst h
 refine .inr ⟨w.heap.size, 0, rfl, fun j hj => ?_⟩
 rw [Nat.zero_add, World.cell?_alloc_new]
 simp [hj]
theorem owns_later {w w' : World} {base size n : Nat} {e : TypeId} {v : Value} {xs : List Value} (h : w.ownsRow base e size v n xs) (hb : Below w.heap.size w w') : w'.ownsRow base e size v n xs :=
 h.kept (row := none) ⟨hb.os, hb.tape, hb.output, hb.size, fun k hk _ => hb.block k hk⟩ (Classical.em _)
def intCells (f : Nat → Int) (n : Nat) : List Value := (List.range n).map fun j => Value.int .i64 (f j)
theorem intCells_length (f : Nat → Int) (n : Nat) : (intCells f n).length = n := by simp [intCells]
theorem intCells_get (f : Nat → Int) (n j : Nat) (h : j < n) : (intCells f n)[j]? = some (.int .i64 (f j)) := by simp [intCells, h]
theorem info64 : (Tryz.prog.info? 3).map (fun i => (i.zero, i.size, i.bytes)) = some (some (.int .i64 0), 1, 8) := by kernel_rfl
theorem told_wp {P : Program} {c : Code} {Q : Exit → Act → World → Prop} {a : Act} {W : World} (R : World → Prop) (hW : R W) (h : ∀ w', R w' → Code.wp P c Q a w') : Code.wp P c Q a W := h W hW
theorem told_calls {P : Program} {f : FuncId} {args : Array Value} {Q : Ending → World → Prop} {W : World} (R : World → Prop) (hW : R W) (h : ∀ w', R w' → Calls P f args w' Q) : Calls P f args W Q := h W hW
theorem slz_one (w : World) (t : TypeId) (x : Int) : SlZ (w.alloc (.cells #[.int .i64 x] t)) (some ⟨w.heap.size, 0, none⟩) 1 (fun _ => x) := by
 refine .inr ⟨w.heap.size, 0, rfl, fun j hj => ?_⟩
 obtain rfl : j = 0 := by omega
 rw [Nat.zero_add, World.cell?_alloc_new]
 rfl
def Tell (v : Value) (w : World) (e : Ending) (w' : World) : Prop := e = .returned v ∧ Below w.heap.size w w'
end Go.Proofs.YtaepelipkkmeaaaGreat
namespace Go.Proofs.YtaepelipkkmeaaaGreat
open Go.RowKit Num
structure NumF where
 neg : Bool
 an : Nat
 fa : Nat → Nat
 am : Nat
 ga : Nat → Nat
inductive Tree where
 | leaf
 | arr (S : Nat) (n : Nat) (sh : Nat → Int) (m : Nat) (L : Nat → Nat) (K C : Nat → Int) (N : Nat → NumF) (k : Nat → Nat) (sub : Nat → Nat → Tree)
def IsL (x : Nat) : Prop := x < 18446744073709551616
def IsZ (x : Int) : Prop := -9223372036854775808 ≤ x ∧ x ≤ 9223372036854775807
def IsN (n nc : Nat) : Prop := n ≤ nc ∧ nc ≤ 9223372036854775807 ∧ n ≤ 140737488355328
def NumP (w : World) (N : NumF) (c0 c1 c2 : Value) : Prop :=
 c0 = .bool N.neg ∧ (∃ ao ac, c1 = .slice ao N.an ac ∧ IsN N.an ac ∧ Sl w ao N.an N.fa ∧ Lim N.fa N.an) ∧ (∃ bo bc, c2 = .slice bo N.am bc ∧ IsN N.am bc ∧ Sl w bo N.am N.ga ∧ Lim N.ga N.am)
def RowP (w : World) (ao : Option Addr) (k : Nat) (R : Nat → Value → Value → Value → Prop) : Prop :=
 k = 0 ∨ ∃ b o, ao = some ⟨b, o, none⟩ ∧ ∀ j, j < k → ∃ d0 d1 d2, w.cell? ⟨b, o + j * 3, none⟩ = some d0 ∧ w.cell? ⟨b, o + j * 3 + 1, none⟩ = some d1 ∧ w.cell? ⟨b, o + j * 3 + 2, none⟩ = some d2 ∧ R j d0 d1 d2
def CellP (w : World) (L : Nat) (K : Int) (N : NumF) (C : Int) (k : Nat) (R : Nat → Value → Value → Value → Prop) (e : Nat → Value) : Prop :=
 e 0 = .int .u64 L ∧ IsL L ∧ e 1 = .int .i64 K ∧ IsZ K ∧ NumP w N (e 2) (e 3) (e 4) ∧ e 5 = .int .i64 C ∧ IsZ C ∧ ∃ ao kc, e 6 = .slice ao k kc ∧ IsN k kc ∧ RowP w ao k R
def ArrP (w : World) : Tree → Value → Value → Value → Prop
 | .leaf, _, _, _ => False
 | .arr S n sh m L K C N k sub, c0, c1, c2 =>
  c0 = .int .u64 S ∧ IsL S ∧ (∃ ao nc, c1 = .slice ao n nc ∧ IsN n nc ∧ SlZ w ao n sh ∧ ∀ j, j < n → IsZ (sh j)) ∧
  ∃ co mc, c2 = .slice co m mc ∧ IsN m mc ∧ (m = 0 ∨ ∃ b o, co = some ⟨b, o, none⟩ ∧ ∀ i, i < m → ∃ e : Nat → Value, (∀ t, t < 7 → w.cell? ⟨b, o + i * 7 + t, none⟩ = some (e t)) ∧
   CellP w (L i) (K i) (N i) (C i) (k i) (fun j d0 d1 d2 => ArrP w (sub i j) d0 d1 d2) e)
theorem ArrP.leaf {w : World} {c0 c1 c2 : Value} (h : ArrP w .leaf c0 c1 c2) : False := h
theorem NumP.below {w w' : World} {N : NumF} {c0 c1 c2 : Value} (h : NumP w N c0 c1 c2) (hb : Below w.heap.size w w') : NumP w' N c0 c1 c2 := by
 obtain ⟨h0, ⟨ao, ac, h1, h2, h3, h4⟩, ⟨bo, bc, k1, k2, k3, k4⟩⟩ := h
 exact ⟨h0, ⟨ao, ac, h1, h2, h3.below hb, h4⟩, ⟨bo, bc, k1, k2, k3.below hb, k4⟩⟩
theorem cell_below {w w' : World} {a : Addr} {v : Value} (h : w.cell? a = some v) (hb : Below w.heap.size w w') : w'.cell? a = some v := (hb.cell (World.block_lt_of_cell? w _ h)).trans h
theorem RowP.below {w w' : World} {ao : Option Addr} {k : Nat} {R Q : Nat → Value → Value → Value → Prop} (h : RowP w ao k R) (hb : Below w.heap.size w w') (hR : ∀ j d0 d1 d2, j < k → R j d0 d1 d2 → Q j d0 d1 d2) : RowP w' ao k Q := by
 rcases h with h | ⟨b, o, rfl, h⟩
 ·exact .inl h
 ·refine .inr ⟨b, o, rfl, fun j hj => ?_⟩
  obtain ⟨d0, d1, d2, h0, h1, h2, h3⟩ := h j hj
  exact ⟨d0, d1, d2, cell_below h0 hb, cell_below h1 hb, cell_below h2 hb, hR j d0 d1 d2 hj h3⟩
theorem CellP.below {w w' : World} {L : Nat} {K : Int} {N : NumF} {C : Int} {k : Nat} {R Q : Nat → Value → Value → Value → Prop} {e : Nat → Value} (h : CellP w L K N C k R e) (hb : Below w.heap.size w w') (hR : ∀ j d0 d1 d2, j < k → R j d0 d1 d2 → Q j d0 d1 d2) : CellP w' L K N C k Q e := by
 obtain ⟨h0, h1, h2, h3, h4, h5, h6, ao, kc, h7, h8, h9⟩ := h
 exact ⟨h0, h1, h2, h3, h4.below hb, h5, h6, ao, kc, h7, h8, h9.below hb hR⟩
theorem ArrP.below {w w' : World} : ∀ (A : Tree) (c0 c1 c2 : Value), ArrP w A c0 c1 c2 → Below w.heap.size w w' → ArrP w' A c0 c1 c2 := by
 intro A
 induction A with
 | leaf => intros; exact (ArrP.leaf ‹ArrP _ Tree.leaf _ _ _›).elim
 | arr S n sh m L K C N k sub ih =>
  intro c0 c1 c2 h hb
  obtain ⟨h0, h1, ⟨ao, nc, h2, h3, h4, h5⟩, co, mc, h6, h7, h8⟩ := h
  refine ⟨h0, h1, ⟨ao, nc, h2, h3, h4.below hb, h5⟩, co, mc, h6, h7, ?_⟩
  rcases h8 with h8 | ⟨b, o, rfl, h8⟩
  ·exact .inl h8
  ·refine .inr ⟨b, o, rfl, fun i hi => ?_⟩
   obtain ⟨e, h9, h10⟩ := h8 i hi
   exact ⟨e, fun t ht => cell_below (h9 t ht) hb, h10.below hb fun j d0 d1 d2 _ hd => ih i j d0 d1 d2 hd hb⟩
end Go.Proofs.YtaepelipkkmeaaaGreat
namespace Go.Proofs.YtaepelipkkmeaaaGreat
open Go.RowKit
def orL (a b : Nat) : Nat := a ||| b
theorem orL_is {a b : Nat} (ha : IsL a) (hb : IsL b) : IsL (orL a b) := Nat.or_lt_two_pow (n := 64) ha hb
end Go.Proofs.YtaepelipkkmeaaaGreat
namespace Go.Proofs.YtaepelipkkmeaaaGreat
open Go.RowKit
def simpleT : Tree → Bool
 | .leaf => false
 | .arr _ n _ m _ K _ _ _ _ => decide (n = 0) && decide (m = 1) && !decide (K 0 = 2)
def zeroF (N : NumF) : Bool := !N.neg && decide (N.an = 0) && decide (N.am = 0)
end Go.Proofs.YtaepelipkkmeaaaGreat
namespace Go.Proofs.YtaepelipkkmeaaaGreat
open Go.RowKit
def sumN (f : Nat → Nat) : Nat → Nat
 | 0 => 0
 | n + 1 => sumN f n + f n
def partsT : Tree → Nat
 | .leaf => 1
 | .arr _ n _ m _ _ _ N k sub => 1 + n + sumN (fun i => 1 + (N i).an + (N i).am + sumN (fun j => partsT (sub i j)) (k i)) m
def NestT : Tree → Nat → Prop
 | .leaf, _ => False
 | .arr _ _ _ _ _ _ _ _ _ _, 0 => False
 | .arr _ _ _ m _ _ _ _ k sub, d + 1 => ∀ i, i < m → ∀ j, j < k i → NestT (sub i j) d
def FewT (A : Tree) : Prop := partsT A ≤ 4000 ∧ NestT A 12
end Go.Proofs.YtaepelipkkmeaaaGreat
namespace Go.Proofs.YtaepelipkkmeaaaGreat
open Go.RowKit
theorem sumN_mono (f : Nat → Nat) {m : Nat} : ∀ n, m ≤ n → sumN f m ≤ sumN f n
  | 0, h => by obtain rfl : m = 0 := by omega
               exact Nat.le_refl _
  | n + 1, h => by
    by_cases e : m = n + 1
    · subst e; exact Nat.le_refl _
    · have := sumN_mono f n (show m ≤ n by omega)
      show sumN f m ≤ sumN f n + f n
      omega
theorem sumN_le {f g : Nat → Nat} : ∀ n, (∀ i, i < n → f i ≤ g i) → sumN f n ≤ sumN g n
 | 0, _ => Nat.le_refl _
 | n + 1, h => by
  have a := sumN_le n fun i hi => h i (by omega)
  have b := h n (by omega)
  show sumN f n + f n ≤ sumN g n + g n
  omega
theorem sumN_one (f : Nat → Nat) {i n : Nat} (h : i < n) : f i ≤ sumN f n := by
 have := sumN_mono f n (show i + 1 ≤ n by omega)
 have e : sumN f (i + 1) = sumN f i + f i := rfl
 omega
theorem sumN_const (c : Nat) : ∀ n, sumN (fun _ => c) n = c * n
 | 0 => rfl
 | n + 1 => by show sumN (fun _ => c) n + c = _; rw [sumN_const c n, Nat.mul_succ]
theorem parts_here {S n m : Nat} {sh : Nat → Int} {L : Nat → Nat} {K C : Nat → Int} {N : Nat → NumF} {k : Nat → Nat} {sub : Nat → Nat → Tree} : n + m + 1 ≤ partsT (.arr S n sh m L K C N k sub) := by
 have a := sumN_le (f := fun _ => 1) (g := fun i => 1 + (N i).an + (N i).am + sumN (fun j => partsT (sub i j)) (k i)) m fun i _ => by show 1 ≤ 1 + (N i).an + (N i).am + sumN (fun j => partsT (sub i j)) (k i); omega
 rw [sumN_const] at a
 show n + m + 1 ≤ 1 + n + sumN (fun i => 1 + (N i).an + (N i).am + sumN (fun j => partsT (sub i j)) (k i)) m
 omega
end Go.Proofs.YtaepelipkkmeaaaGreat
namespace Go.Proofs.YtaepelipkkmeaaaGreat
open Go.RowKit
structure Box7 (w : World) (B : Nat) (v0 v1 v2 v3 v4 v5 v6 : Value) : Prop where
 c0 : w.cell? ⟨B, 0, none⟩ = some v0
 c1 : w.cell? ⟨B, 1, none⟩ = some v1
 c2 : w.cell? ⟨B, 2, none⟩ = some v2
 c3 : w.cell? ⟨B, 3, none⟩ = some v3
 c4 : w.cell? ⟨B, 4, none⟩ = some v4
 c5 : w.cell? ⟨B, 5, none⟩ = some v5
 c6 : w.cell? ⟨B, 6, none⟩ = some v6
 fr : ∀ j, w.frozen? ⟨B, j, none⟩ = false
theorem Box7.lt {w : World} {B : Nat} {v0 v1 v2 v3 v4 v5 v6 : Value} (h : Box7 w B v0 v1 v2 v3 v4 v5 v6) : B < w.heap.size := World.block_lt_of_cell? w _ h.c0
theorem Box7.new {w : World} {B : Nat} (v0 v1 v2 v3 v4 v5 v6 : Value) (t : TypeId) (h : B = w.heap.size) : Box7 (w.alloc (.cells #[v0, v1, v2, v3, v4, v5, v6] t)) B v0 v1 v2 v3 v4 v5 v6 := by
 subst h
 exact ⟨by simp, by simp, by simp, by simp, by simp, by simp, by simp, fun j => by
  have hh := heap_alloc_new w (.cells #[v0, v1, v2, v3, v4, v5, v6] t)
  exact frozen_of_row _ _ j _ _ hh⟩
theorem Box7.below {w w' : World} {B C : Nat} {v0 v1 v2 v3 v4 v5 v6 : Value} (h : Box7 w B v0 v1 v2 v3 v4 v5 v6) (hb : Below C w w') (hC : B < C) : Box7 w' B v0 v1 v2 v3 v4 v5 v6 :=
 ⟨(hb.cell hC).trans h.c0, (hb.cell hC).trans h.c1, (hb.cell hC).trans h.c2, (hb.cell hC).trans h.c3, (hb.cell hC).trans h.c4, (hb.cell hC).trans h.c5, (hb.cell hC).trans h.c6, fun j => (hb.frozen hC).trans (h.fr j)⟩
theorem Box7.later {w w' : World} {B : Nat} {v0 v1 v2 v3 v4 v5 v6 : Value} (h : Box7 w B v0 v1 v2 v3 v4 v5 v6) (hb : Below w.heap.size w w') : Box7 w' B v0 v1 v2 v3 v4 v5 v6 := h.below hb h.lt
theorem Box7.alloc {w : World} {B : Nat} {v0 v1 v2 v3 v4 v5 v6 : Value} (h : Box7 w B v0 v1 v2 v3 v4 v5 v6) (o : Obj) : Box7 (w.alloc o) B v0 v1 v2 v3 v4 v5 v6 := h.later ((Below.refl _ w).alloc (Nat.le_refl _) o)
theorem Box7.drew {w : World} {B : Nat} {v0 v1 v2 v3 v4 v5 v6 : Value} (h : Box7 w B v0 v1 v2 v3 v4 v5 v6) : Box7 w.drew B v0 v1 v2 v3 v4 v5 v6 := ⟨h.c0, h.c1, h.c2, h.c3, h.c4, h.c5, h.c6, h.fr⟩
end Go.Proofs.YtaepelipkkmeaaaGreat
namespace Go.Proofs.YtaepelipkkmeaaaGreat
open Go.RowKit
theorem Box3.aside {w : World} {B D : Nat} {v0 v1 v2 : Value} (h : Box3 w B v0 v1 v2) (hne : B ≠ D) (t : Nat) (u : Value) : Box3 (w.setCell ⟨D, t, none⟩ u) B v0 v1 v2 := by
 have ne : ∀ j, (⟨B, j, none⟩ : Addr) ≠ ⟨D, t, none⟩ := fun j e => hne (by injection e)
 refine ⟨?_, ?_, ?_, fun j => by rw [World.frozen?_setCell]; exact h.fr j⟩
 ·rw [cell_set_ne (ne _)]; exact h.c0
 ·rw [cell_set_ne (ne _)]; exact h.c1
 ·rw [cell_set_ne (ne _)]; exact h.c2
end Go.Proofs.YtaepelipkkmeaaaGreat
