/-
  ratio.Pow, scrimref04.Pow.
  scrimref10.Number but for the product: what it tells of a right number.
  whole.Small.
  scrimref10.truth, scrimref04.Small, scrimref10.Numbers: what it tells of two right numbers.
  scrimref04.Small: a number as an int.
  scrimref10.Numbers: powers.
  scrimref10.Number and Numbers: each word in one.
  Lists of ints as they lie in memory; whether a number is in one; two that are the same (scrimref06.In, scrimref01.Ints).
  Shapes, plain: how many cells there are, or the error; which place is which cell. scrimref07.Ints, Count.
  Rows of ints that a call makes; worlds told anew.
  Arrays of arrays: what they are (trees), and how they lie in memory.
  Labels, as the document's answer has them (scrimref01): Bit, Has, Join, Flows.
  scrimref08.Simple, zero.
  scrimref08.left, Few: which arrays the statements ask of.
  scrimref08.Size, Depth, Total: through all cells and the arrays in them.
  scrimref08.SameCell, Same: two cells, two arrays, as they stand.
  scrimref08.Raise: an array with its own label raised.
  Arrays in memory, and in which blocks they lie.
  What Cover makes, and what holds while it makes it.
  scrimref08.Cover: an array with all labels raised, or with one label in their place.
  scrimref08.Erase, Match.
  The three lists of characters, and a number's class, as the document's answer has them (scrimref06).
  scrimref08.Cell, Right: which cells and arrays are right.
  scrimref08.Pack, Unpack: an array as a cell, a cell as an array.
  scrimref10.Conform, Pick.
  scrimref10.inner.
-/
import Derived.Test.YtaepelipkkmeaaaGreatMgsA
import Derived.Test.YtaepelipkkmeaaaGreatMgsB
import Derived.Test.YtaepelipkkmeaaaGreatMgsC
import Derived.Test.YtaepelipkkmeaaaGreatMgsD
import Derived.WalkKit
import Derived.Lib.Small
import Derived.Lib.Walk
import Derived.Lib.BitFns
import Derived.Deep.QuietTactic
import Derived.BigQuiet
import Derived.Deep.LoopGhost
import Derived.Laws.CopyOwn
import Derived.Deep.RegionWith
import Derived.WalkSpells
import Derived.WalkLawsBesides
import Derived.Lib.Hide
import Derived.Deep.RegionHeld3
import Derived.Deep.DrawnRows
import Derived.Deep.CutRange
import Derived.Test.YtaepelipkkmeaaaGreatChecked
import Derived.Laws.AppendOwn
import Derived.Laws.OwnMore
import Derived.Deep.AppendLies
namespace Go.Proofs.YtaepelipkkmeaaaGreat

open Go.RowKit Num

attribute [local go_sem ↓] Go.wp_at_zero Go.wp_at_succ

theorem powR_lt (n : Nat) : ∀ (p s v : Int), p.natAbs < pw 32 → powR n p s = some v → v.natAbs < pw 32 := by
  induction n using Nat.strongRecOn with
  | ind n ih =>
    intro p s v hp h
    by_cases h0 : n = 0
    · subst h0
      rw [powR_zero] at h
      injection h with h
      rw [← h]; exact hp
    · by_cases hs : s.natAbs < pw 32
      · by_cases h1 : n % 2 = 1
        · by_cases hq : (p * s).natAbs < pw 32
          · rw [powR_odd h0 h1 hs hq] at h
            exact ih (n / 2) (by omega) _ _ _ hq h
          · rw [powR_odd_great h0 h1 (Nat.le_of_not_lt hq)] at h; cases h
        · rw [powR_even h0 h1 hs hp] at h
          exact ih (n / 2) (by omega) _ _ _ hp h
      · rw [powR_great h0 (Nat.le_of_not_lt hs)] at h; cases h

theorem powV_lt (k x : Int) : (powV k x).natAbs < pw 32 := by
  unfold powV
  have h1 : (1 : Int).natAbs < pw 32 := Nat.lt_of_lt_of_le (by decide : 1 < pw 1) (pw_le (by omega))
  split
  · exact pw_pos _
  · cases h : powR k.toNat 1 x with
    | none => exact pw_pos _
    | some v => exact powR_lt _ _ _ _ h1 h

/-- A whole number and an error come back. -/
def PPost (T E : Int) (w : World) (e : Ending) (w' : World) : Prop :=
  ∃ b ao n nc, e = .returned (.tuple #[.agg #[.bool b, .slice ao n nc], .int .i64 E]) ∧ Right w' b ao n nc T ∧ Below w.heap.size w w'

theorem pow_split {k x E : Int} {w w' : World} {e : Ending} (h : powE k x = E) (p : PowPost k x w e w') : PPost (powV k x) E w e w' := by
  subst h; exact p

theorem grow_64 {x : Int} (h : x.natAbs < pw 32) : x.natAbs < pw 64 := Nat.lt_of_lt_of_le h (pw_le (by omega))

def pwRes (p q k : Int) : Int × Nat × Int := if powE k p ≠ 0 then (0, 0, powE k p) else if powE k q ≠ 0 then (0, 0, powE k q) else (mkT (powV k p) (powV k q), mkB (powV k p) (powV k q), mkE (powV k p) (powV k q))

def powRes (P : Int) (Q : Nat) (n : Int) : Int × Nat × Int := if n < 0 then (if P = 0 ∨ n = -9223372036854775808 then (0, 0, 3) else pwRes Q P (-n)) else pwRes P Q n

def PwPost (p q k : Int) := ResPost (pwRes p q k).1 (pwRes p q k).2.1 (pwRes p q k).2.2

def NumPowPost (P : Int) (Q : Nat) (n : Int) := ResPost (powRes P Q n).1 (powRes P Q n).2.1 (powRes P Q n).2.2

theorem pw_one {p q k E : Int} {w w' : World} {e : Ending} (h : powE k p = E) (hE : E ≠ 0) (r : ResPost 0 0 E w e w') : PwPost p q k w e w' := by
  unfold PwPost pwRes; rw [if_pos (by rw [h]; exact hE), h]; exact r

theorem pw_two {p q k E : Int} {w w' : World} {e : Ending} (h : powE k p = 0) (h2 : powE k q = E) (hE : E ≠ 0) (r : ResPost 0 0 E w e w') : PwPost p q k w e w' := by
  unfold PwPost pwRes; rw [if_neg (by rw [h]; decide), if_pos (by rw [h2]; exact hE), h2]; exact r

theorem pw_ok {p q k : Int} {w w' : World} {e : Ending} (h : powE k p = 0) (h2 : powE k q = 0) (r : MakePost (powV k p) (powV k q) w e w') : PwPost p q k w e w' := by
  unfold PwPost pwRes; rw [if_neg (by rw [h]; decide), if_neg (by rw [h2]; decide)]; exact r

theorem pow_bad {P n : Int} {Q : Nat} {w w' : World} {e : Ending} (hn : n < 0) (h : P = 0 ∨ n = -9223372036854775808) (r : ResPost 0 0 3 w e w') : NumPowPost P Q n w e w' := by
  unfold NumPowPost powRes; rw [if_pos hn, if_pos h]; exact r

theorem pow_neg {P n : Int} {Q : Nat} {w w' : World} {e : Ending} (hn : n < 0) (h : ¬ (P = 0 ∨ n = -9223372036854775808)) (r : PwPost Q P (-n) w e w') : NumPowPost P Q n w e w' := by
  unfold NumPowPost powRes; rw [if_pos hn, if_neg h]; exact r

theorem pow_pos {P n : Int} {Q : Nat} {w w' : World} {e : Ending} (hn : ¬ n < 0) (r : PwPost P Q n w e w') : NumPowPost P Q n w e w' := by
  unfold NumPowPost powRes; rw [if_neg hn]; exact r

set_option maxRecDepth 20000 in
set_option maxHeartbeats 4000000 in
theorem pow4_any (ab : Bool) (ap aq : Option Addr) (an ac am ae : Nat) (P : Int) (Q : Nat) (n : Int) (w : World) (Ra : Rt w ab ap an ac aq am ae P Q) (la : Low P Q) (n0 : -9223372036854775808 ≤ n) (n1 : n ≤ 9223372036854775807) :
    Calls Tryz.prog 123 #[.agg #[.bool ab, .slice ap an ac, .slice aq am ae], .int .i64 n] w (NumPowPost P Q n w) := by
  replace n0 := Lib.hid n0; replace n1 := Lib.hid n1
  replace Ra := Lib.hid Ra; replace la := Lib.hid la
  go_enter Tryz.func123, Tryz.ntmps123
  go_upto_region 1 with fail
  refine gen_wp (fun w' => Below w.heap.size w w' ∧ Box3 w' w.heap.size (.bool ab) (.slice ap an ac) (.slice aq am ae) ∧ Box3 w' (w.heap.size + 1) (.bool false) (.slice none 0 0) (.slice none 0 0))
    ⟨(((Below.refl _ _).alloc (Nat.le_refl _) _).alloc (by first | (simp; done) | (simp; omega)) _), ((Box3.new _ _ _ _ rfl).alloc _), (Box3.new _ _ _ _ (by first | (simp; done) | (simp; omega)))⟩ ?_
  rintro u0 ⟨bb, Xa, X2⟩
  replace Ra := Ra.out.below bb
  replace bb := Lib.hid bb; replace Xa := Lib.hid Xa; replace X2 := Lib.hid X2; replace Ra := Lib.hid Ra
  replace bb := bb.out; replace Xa := Xa.out; replace X2 := X2.out; replace Ra := Ra.out
  go_cut [6, 7] from 15 to 54 (fun s t wx => ∃ Y Z yb yo yn yc zb zo zn zc, s = .pointer (some ⟨Y, 0, none⟩) ∧ t = .pointer (some ⟨Z, 0, none⟩) ∧ Box wx Y (.bool yb) (.slice yo yn yc) ∧ Box wx Z (.bool zb) (.slice zo zn zc) ∧ Box3 wx w.heap.size (.bool ab) (.slice ap an ac) (.slice aq am ae) ∧ Box3 wx (w.heap.size + 1) (.bool false) (.slice none 0 0) (.slice none 0 0) ∧ Rt wx ab ap an ac aq am ae P Q ∧ Whole wx yb yo yn yc P ∧ Whole wx zb zo zn zc Q ∧ Below w.heap.size w wx ∧ w.heap.size + 1 < Y ∧ w.heap.size + 1 < Z ∧ Y ≠ Z)
  case first =>
    have lXa := Xa.lt
    have lX2 := X2.lt
    have bs := bb.size
    have sa0 := True.intro
    go_region_held3 (fun w' => w'.cell? ⟨w.heap.size, 0, none⟩ = some (.bool ab) ∧ w'.cell? ⟨w.heap.size, 1, none⟩ = some (.slice ap an ac) ∧ w'.cell? ⟨w.heap.size, 2, none⟩ = some (.slice aq am ae))
      (first | with_reducible exact ⟨(Xa.drew).c0, (Xa.drew).c1, (Xa.drew).c2⟩ | with_reducible exact ⟨((Xa.alloc _).drew).c0, ((Xa.alloc _).drew).c1, ((Xa.alloc _).drew).c2⟩ | with_reducible exact ⟨(((Xa.alloc _).alloc _).drew).c0, (((Xa.alloc _).alloc _).drew).c1, (((Xa.alloc _).alloc _).drew).c2⟩ | with_reducible exact ⟨Xa.c0, Xa.c1, Xa.c2⟩ | with_reducible exact ⟨(Xa.alloc _).c0, (Xa.alloc _).c1, (Xa.alloc _).c2⟩ | with_reducible exact ⟨((Xa.alloc _).alloc _).c0, ((Xa.alloc _).alloc _).c1, ((Xa.alloc _).alloc _).c2⟩ | with_reducible exact ⟨(Xa.other (by omega) _ _).c0, (Xa.other (by omega) _ _).c1, (Xa.other (by omega) _ _).c2⟩ | with_reducible exact ⟨((Xa.other (by omega) _ _).alloc _).c0, ((Xa.other (by omega) _ _).alloc _).c1, ((Xa.other (by omega) _ _).alloc _).c2⟩ | with_reducible exact ⟨((Xa.other (by omega) _ _).other (by omega) _ _).c0, ((Xa.other (by omega) _ _).other (by omega) _ _).c1, ((Xa.other (by omega) _ _).other (by omega) _ _).c2⟩ | go_keep)
      (first
      | (go_at_call 107; clear sa0; refine (upper_any ab ap aq an ac am ae _).mono ?_; rintro e u1 ⟨rfl, hb⟩; have hc : Below u0.heap.size u0 u1 := (by first | exact (Below.refl _ _).drew.trans hb | exact ((Below.refl _ _).alloc (by first | exact Nat.le_refl _ | (simp; done) | (simp; omega)) _).drew.trans (hb.mono (by first | (simp; done) | (simp; omega))) | exact (((Below.refl _ _).alloc (by first | exact Nat.le_refl _ | (simp; done) | (simp; omega)) _).alloc (by first | exact Nat.le_refl _ | (simp; done) | (simp; omega)) _).drew.trans (hb.mono (by first | (simp; done) | (simp; omega)))); have hz0 := hc.size; have Xa := Xa.later hc; have X2 := X2.later hc; have Ra := Ra.below hc; have bb := below_then bb (Nat.le_refl _) hc; (first | (with_reducible have mm := made2' hb; obtain ⟨m10, m11⟩ := mm) | (with_reducible have m10 := made1' hb) | skip); (try have k10 := m10.lt); (try have k11 := m11.lt); clear hb hc; have sa1 := True.intro)
      | (go_at_call 113; clear sa1; refine (lower_any ab ap aq an ac am ae _).mono ?_; rintro e u2 ⟨rfl, hb⟩; have hc : Below u1.heap.size u1 u2 := (by first | with_reducible exact hb | exact ((Below.refl _ _).alloc (by first | exact Nat.le_refl _ | (simp; done) | (simp; omega)) _).trans (hb.mono (by first | (simp; done) | (simp; omega))) | exact (((Below.refl _ _).alloc (by first | exact Nat.le_refl _ | (simp; done) | (simp; omega)) _).alloc (by first | exact Nat.le_refl _ | (simp; done) | (simp; omega)) _).trans (hb.mono (by first | (simp; done) | (simp; omega)))); have hz1 := hc.size; have Xa := Xa.later hc; have X2 := X2.later hc; have Ra := Ra.below hc; have bb := below_then bb (Nat.le_refl _) hc; (try have m10 := m10.later hc); (try have m11 := m11.later hc); (first | (with_reducible have mm := made2 hb; obtain ⟨m20, m21⟩ := mm) | (with_reducible have m20 := made1 hb) | skip); (try have k10 := m10.lt); (try have k11 := m11.lt); (try have k20 := m20.lt); (try have k21 := m21.lt); (try (have f100 := m10.c0; have f101 := m10.c1; have f102 := m10.fr 0; have f103 := m10.fr 1)); (try (have f110 := m11.c0; have f111 := m11.c1; have f112 := m11.fr 0; have f113 := m11.fr 1)); (try (have f200 := m20.c0; have f201 := m20.c1; have f202 := m20.fr 0; have f203 := m20.fr 1)); (try (have f210 := m21.c0; have f211 := m21.c1; have f212 := m21.fr 0; have f213 := m21.fr 1)); clear hb hc; have sa2 := True.intro))
    · go_wp2_with fail; go_meet; exact ⟨_, _, ab, ap, an, ac, false, aq, am, ae, rfl, rfl, ((Box.new _ _ _ (by first | (simp; done) | rfl)).alloc _), (Box.new _ _ _ (by first | (simp; done) | rfl)), ((Xa.alloc _).alloc _), ((X2.alloc _).alloc _), ((Ra.alloc _).alloc _), (((Ra.alloc _).alloc _)).upper la.out, (((Ra.alloc _).alloc _)).lower la.out, (Below.alloc (Below.alloc bb (by first | omega | (simp; omega) | (simp; done)) _) (by first | omega | (simp; omega) | (simp; done)) _), (by first | omega | (simp; omega)), (by first | omega | (simp; omega)), (by first | omega | (simp; omega) | simp)⟩
    · go_wp2_with fail; go_meet; exact ⟨_, _, ab, ap, an, ac, false, aq, am, ae, rfl, rfl, (Box.new _ _ _ (by first | (simp; done) | rfl)), ((Box.new _ _ _ (by first | (simp; done) | rfl)).alloc _), ((Xa.alloc _).alloc _), ((X2.alloc _).alloc _), ((Ra.alloc _).alloc _), (((Ra.alloc _).alloc _)).upper la.out, (((Ra.alloc _).alloc _)).lower la.out, (Below.alloc (Below.alloc bb (by first | omega | (simp; omega) | (simp; done)) _) (by first | omega | (simp; omega) | (simp; done)) _), (by first | omega | (simp; omega)), (by first | omega | (simp; omega)), (by first | omega | (simp; omega) | simp)⟩
    · go_wp2_with fail; go_meet; exact ⟨_, _, ab, ap, an, ac, false, aq, am, ae, rfl, rfl, ((m20.set _ _).alloc _), (Box.new _ _ _ (by first | (simp; done) | rfl)), ((Xa.other (by omega) _ _).alloc _), ((X2.other (by omega) _ _).alloc _), ((Ra.box m20 _ _).alloc _), (((Ra.box m20 _ _).alloc _)).upper la.out, (((Ra.box m20 _ _).alloc _)).lower la.out, (Below.alloc (below_set bb (by omega) _ _) (by first | omega | (simp; omega) | (simp; done)) _), (by first | omega | (simp; omega)), (by first | omega | (simp; omega)), (by first | omega | (simp; omega) | simp)⟩
    · go_wp2_with fail; go_meet; exact ⟨_, _, ab, ap, an, ac, false, aq, am, ae, rfl, rfl, ((m20.set _ _).other (by omega) _ _), ((m21.other (by omega) _ _).set _ _), ((Xa.other (by omega) _ _).other (by omega) _ _), ((X2.other (by omega) _ _).other (by omega) _ _), ((Ra.box m20 _ _).box (m21.other (by omega) _ _) _ _), (((Ra.box m20 _ _).box (m21.other (by omega) _ _) _ _)).upper la.out, (((Ra.box m20 _ _).box (m21.other (by omega) _ _) _ _)).lower la.out, (below_set (below_set bb (by omega) _ _) (by omega) _ _), (by first | omega | (simp; omega)), (by first | omega | (simp; omega)), (by first | omega | (simp; omega) | simp)⟩
    · go_wp2_with fail; go_meet; exact ⟨_, _, ab, ap, an, ac, false, aq, am, ae, rfl, rfl, (Box.new _ _ _ (by first | (simp; done) | rfl)), ((m20.set _ _).alloc _), ((Xa.other (by omega) _ _).alloc _), ((X2.other (by omega) _ _).alloc _), ((Ra.box m20 _ _).alloc _), (((Ra.box m20 _ _).alloc _)).upper la.out, (((Ra.box m20 _ _).alloc _)).lower la.out, (Below.alloc (below_set bb (by omega) _ _) (by first | omega | (simp; omega) | (simp; done)) _), (by first | omega | (simp; omega)), (by first | omega | (simp; omega)), (by first | omega | (simp; omega) | simp)⟩
    · go_wp2_with fail; go_meet; exact ⟨_, _, ab, ap, an, ac, false, aq, am, ae, rfl, rfl, ((m21.set _ _).other (by omega) _ _), ((m20.other (by omega) _ _).set _ _), ((Xa.other (by omega) _ _).other (by omega) _ _), ((X2.other (by omega) _ _).other (by omega) _ _), ((Ra.box m21 _ _).box (m20.other (by omega) _ _) _ _), (((Ra.box m21 _ _).box (m20.other (by omega) _ _) _ _)).upper la.out, (((Ra.box m21 _ _).box (m20.other (by omega) _ _) _ _)).lower la.out, (below_set (below_set bb (by omega) _ _) (by omega) _ _), (by first | omega | (simp; omega)), (by first | omega | (simp; omega)), (by first | omega | (simp; omega) | simp)⟩
    · go_wp2_with fail; go_meet; exact ⟨_, _, ab, ap, an, ac, false, aq, am, ae, rfl, rfl, ((m10.set _ _).alloc _), (Box.new _ _ _ (by first | (simp; done) | rfl)), ((Xa.other (by omega) _ _).alloc _), ((X2.other (by omega) _ _).alloc _), ((Ra.box m10 _ _).alloc _), (((Ra.box m10 _ _).alloc _)).upper la.out, (((Ra.box m10 _ _).alloc _)).lower la.out, (Below.alloc (below_set bb (by omega) _ _) (by first | omega | (simp; omega) | (simp; done)) _), (by first | omega | (simp; omega)), (by first | omega | (simp; omega)), (by first | omega | (simp; omega) | simp)⟩
    · go_wp2_with fail; go_meet; exact ⟨_, _, ab, ap, an, ac, false, aq, am, ae, rfl, rfl, ((m10.set _ _).other (by omega) _ _), ((m20.other (by omega) _ _).set _ _), ((Xa.other (by omega) _ _).other (by omega) _ _), ((X2.other (by omega) _ _).other (by omega) _ _), ((Ra.box m10 _ _).box (m20.other (by omega) _ _) _ _), (((Ra.box m10 _ _).box (m20.other (by omega) _ _) _ _)).upper la.out, (((Ra.box m10 _ _).box (m20.other (by omega) _ _) _ _)).lower la.out, (below_set (below_set bb (by omega) _ _) (by omega) _ _), (by first | omega | (simp; omega)), (by first | omega | (simp; omega)), (by first | omega | (simp; omega) | simp)⟩
    · go_wp2_with fail; go_meet; exact ⟨_, _, ab, ap, an, ac, false, aq, am, ae, rfl, rfl, ((m10.set _ _).other (by omega) _ _), ((m11.other (by omega) _ _).set _ _), ((Xa.other (by omega) _ _).other (by omega) _ _), ((X2.other (by omega) _ _).other (by omega) _ _), ((Ra.box m10 _ _).box (m11.other (by omega) _ _) _ _), (((Ra.box m10 _ _).box (m11.other (by omega) _ _) _ _)).upper la.out, (((Ra.box m10 _ _).box (m11.other (by omega) _ _) _ _)).lower la.out, (below_set (below_set bb (by omega) _ _) (by omega) _ _), (by first | omega | (simp; omega)), (by first | omega | (simp; omega)), (by first | omega | (simp; omega) | simp)⟩
    · go_wp2_with fail; go_meet; exact ⟨_, _, ab, ap, an, ac, false, aq, am, ae, rfl, rfl, (Box.new _ _ _ (by first | (simp; done) | rfl)), ((m10.set _ _).alloc _), ((Xa.other (by omega) _ _).alloc _), ((X2.other (by omega) _ _).alloc _), ((Ra.box m10 _ _).alloc _), (((Ra.box m10 _ _).alloc _)).upper la.out, (((Ra.box m10 _ _).alloc _)).lower la.out, (Below.alloc (below_set bb (by omega) _ _) (by first | omega | (simp; omega) | (simp; done)) _), (by first | omega | (simp; omega)), (by first | omega | (simp; omega)), (by first | omega | (simp; omega) | simp)⟩
    · go_wp2_with fail; go_meet; exact ⟨_, _, ab, ap, an, ac, false, aq, am, ae, rfl, rfl, ((m20.set _ _).other (by omega) _ _), ((m10.other (by omega) _ _).set _ _), ((Xa.other (by omega) _ _).other (by omega) _ _), ((X2.other (by omega) _ _).other (by omega) _ _), ((Ra.box m20 _ _).box (m10.other (by omega) _ _) _ _), (((Ra.box m20 _ _).box (m10.other (by omega) _ _) _ _)).upper la.out, (((Ra.box m20 _ _).box (m10.other (by omega) _ _) _ _)).lower la.out, (below_set (below_set bb (by omega) _ _) (by omega) _ _), (by first | omega | (simp; omega)), (by first | omega | (simp; omega)), (by first | omega | (simp; omega) | simp)⟩
    · go_wp2_with fail; go_meet; exact ⟨_, _, ab, ap, an, ac, false, aq, am, ae, rfl, rfl, ((m11.set _ _).other (by omega) _ _), ((m10.other (by omega) _ _).set _ _), ((Xa.other (by omega) _ _).other (by omega) _ _), ((X2.other (by omega) _ _).other (by omega) _ _), ((Ra.box m11 _ _).box (m10.other (by omega) _ _) _ _), (((Ra.box m11 _ _).box (m10.other (by omega) _ _) _ _)).upper la.out, (((Ra.box m11 _ _).box (m10.other (by omega) _ _) _ _)).lower la.out, (below_set (below_set bb (by omega) _ _) (by omega) _ _), (by first | omega | (simp; omega)), (by first | omega | (simp; omega)), (by first | omega | (simp; omega) | simp)⟩
  case rest =>
    obtain ⟨Y, Z, yb, yo, yn, yc, zb, zo, zn, zc, rfl, rfl, XY, XZ, Xa, X2, Ra, WY, WZ, bb, hY, hZ, hYZ⟩ := hcut
    replace bb := Lib.hid bb; replace Xa := Lib.hid Xa; replace X2 := Lib.hid X2; replace XY := Lib.hid XY; replace XZ := Lib.hid XZ; replace Ra := Lib.hid Ra; replace WY := Lib.hid WY; replace WZ := Lib.hid WZ
    by_cases hn : n < 0
    · have hd : decide (n < 0) = true := decide_eq_true hn
      replace hn := Lib.hid hn
      have gd : Hid (w.heap.size ≠ Y ∧ w.heap.size ≠ Z ∧ w.heap.size + 1 ≠ Y ∧ w.heap.size + 1 ≠ Z ∧ Y ≠ Z ∧ Z ≠ Y ∧ w.heap.size ≤ Y ∧ w.heap.size ≤ Z) := Lib.hid (by omega)
      by_cases hP : P = 0
      · have hs : P.sign = 0 := by rw [hP]; rfl
        have hPn : Hid (P = 0 ∨ n = -9223372036854775808) := Lib.hid (.inl hP)
        clear hP
        have p00 := Xa.out.c0; have p01 := Xa.out.c1; have p02 := Xa.out.c2
        go_wp2_with fail
        clear p00 p01 p02
        refine (sign_any ab ap aq an ac am ae P Q _ Ra.out la.out).mono ?_
        rw [hs]
        rintro e v21 ⟨rfl, hb⟩
        replace bb := Lib.hid (below_then bb.out (Nat.le_refl _) hb); replace Xa := Lib.hid (Xa.out.later hb); replace X2 := Lib.hid (X2.out.later hb); replace XY := Lib.hid (XY.out.later hb); replace XZ := Lib.hid (XZ.out.later hb); replace Ra := Lib.hid (Ra.out.below hb); replace WY := Lib.hid (WY.out.below hb); replace WZ := Lib.hid (WZ.out.below hb)
        clear hs hb Xa XY XZ Ra WY WZ
        replace X2 := X2.out
        replace bb := bb.out
        have q0 := X2.c0; have q1 := X2.c1; have q2 := X2.c2; have q3 := X2.fr 0; have q4 := X2.fr 1; have q5 := X2.fr 2
        have zz := X2.set (.bool false) (.slice none 0 0) (.slice none 0 0)
        have e0 := zz.c0; have e1 := zz.c1; have e2 := zz.c2
        have Y2 := Lib.hid X2; have bb' := Lib.hid bb
        clear zz X2 bb
        go_wp2_with fail
        refine bodyPost_ret (v := .tuple #[.agg #[.bool false, .slice none 0 0, .slice none 0 0], .int .i64 (3)]) (by simp [results, Tryz.results123, go_sem, e0, e1, e2]) rfl ?_
        exact pow_bad hn.out hPn.out (ResPost.stored (rt_zero _) Y2.out bb'.out (by omega))
      have hs : ¬ P.sign = 0 := fun e => hP (Int.sign_eq_zero_iff_zero.1 e)
      replace hP := Lib.hid hP
      have p00 := Xa.out.c0; have p01 := Xa.out.c1; have p02 := Xa.out.c2
      go_wp2_with fail
      clear p00 p01 p02
      refine (sign_any ab ap aq an ac am ae P Q _ Ra.out la.out).mono ?_
      rintro e v21 ⟨rfl, hb⟩
      replace bb := Lib.hid (below_then bb.out (Nat.le_refl _) hb); replace Xa := Lib.hid (Xa.out.later hb); replace X2 := Lib.hid (X2.out.later hb); replace XY := Lib.hid (XY.out.later hb); replace XZ := Lib.hid (XZ.out.later hb); replace Ra := Lib.hid (Ra.out.below hb); replace WY := Lib.hid (WY.out.below hb); replace WZ := Lib.hid (WZ.out.below hb)
      clear hb
      by_cases hm : n = -9223372036854775808
      · have hPn : Hid (P = 0 ∨ n = -9223372036854775808) := Lib.hid (.inr hm)
        have hm2 : (n == -9223372036854775808) = true := by rw [hm]; rfl
        clear hm Xa XY XZ Ra WY WZ
        replace X2 := X2.out
        replace bb := bb.out
        have q0 := X2.c0; have q1 := X2.c1; have q2 := X2.c2; have q3 := X2.fr 0; have q4 := X2.fr 1; have q5 := X2.fr 2
        have zz := X2.set (.bool false) (.slice none 0 0) (.slice none 0 0)
        have e0 := zz.c0; have e1 := zz.c1; have e2 := zz.c2
        have Y2 := Lib.hid X2; have bb' := Lib.hid bb
        clear zz X2 bb
        go_wp2_with fail
        refine bodyPost_ret (v := .tuple #[.agg #[.bool false, .slice none 0 0, .slice none 0 0], .int .i64 (3)]) (by simp [results, Tryz.results123, go_sem, e0, e1, e2]) rfl ?_
        exact pow_bad hn.out hPn.out (ResPost.stored (rt_zero _) Y2.out bb'.out (by omega))
      have hPn : Hid (¬ (P = 0 ∨ n = -9223372036854775808)) := Lib.hid (fun h => h.elim hP.out hm)
      have hm2 : (n == -9223372036854775808) = false := beq_eq_false_iff_ne.2 hm
      have hk1 : Hid (-n ≤ 9223372036854775807) := Lib.hid (by have := n0.out; omega)
      have hk0 : Hid (-9223372036854775808 ≤ -n) := Lib.hid (by have := n1.out; omega)
      have hw2 : IntKind.i64.wrap (-n) = -n := by have := hn.out; have := hk1.out; simp [IntKind.wrap, IntKind.bits, IntKind.signed]; omega
      have hw1 : wrap64 (-n) = -n := by rw [wrap_is]; exact hw2
      clear hm
      have pY0 := XY.out.c0; have pY1 := XY.out.c1; have pZ0 := XZ.out.c0; have pZ1 := XZ.out.c1; have fY0 := XY.out.fr 0; have fY1 := XY.out.fr 1; have fZ0 := XZ.out.fr 0; have fZ1 := XZ.out.fr 1
      have gd1 := gd.out.2.2.2.2.1; have gd2 := gd.out.2.2.2.2.2.1
      go_upto_region 6 with fail
      clear pY0 pY1 pZ0 pZ1 fY0 fY1 fZ0 fZ1 gd1 gd2 hs hm2
      refine gen_wp (fun w' => Below w.heap.size w w' ∧ Box3 w' w.heap.size (.bool ab) (.slice ap an ac) (.slice aq am ae) ∧ Box3 w' (w.heap.size + 1) (.bool false) (.slice none 0 0) (.slice none 0 0) ∧ Box w' Y (.bool zb) (.slice zo zn zc) ∧ Box w' Z (.bool yb) (.slice yo yn yc) ∧ Rt w' ab ap an ac aq am ae P Q ∧ Whole w' zb zo zn zc Q ∧ Whole w' yb yo yn yc P)
        ⟨below_set (below_set bb.out gd.out.2.2.2.2.2.2.1 _ _) gd.out.2.2.2.2.2.2.2 _ _, (Xa.out.other gd.out.1 _ _).other gd.out.2.1 _ _, (X2.out.other gd.out.2.2.1 _ _).other gd.out.2.2.2.1 _ _, (XY.out.set _ _).other gd.out.2.2.2.2.1 _ _, (XZ.out.other gd.out.2.2.2.2.2.1 _ _).set _ _, (Ra.out.box XY.out _ _).box (XZ.out.other gd.out.2.2.2.2.2.1 _ _) _ _, (WZ.out.box XY.out _ _).box (XZ.out.other gd.out.2.2.2.2.2.1 _ _) _ _, (WY.out.box XY.out _ _).box (XZ.out.other gd.out.2.2.2.2.2.1 _ _) _ _⟩ ?_
      clear bb Xa X2 XY XZ Ra WY WZ
      rintro x30 ⟨bb, Xa, X2, XY, XZ, Ra, WY, WZ⟩
      replace bb := Lib.hid bb; replace Xa := Lib.hid Xa; replace X2 := Lib.hid X2; replace XY := Lib.hid XY; replace XZ := Lib.hid XZ; replace Ra := Lib.hid Ra; replace WY := Lib.hid WY; replace WZ := Lib.hid WZ
      obtain ⟨E1, hE1⟩ : ∃ E1, Hid (powE (-n) ((Q : Int)) = E1) := ⟨_, Lib.hid rfl⟩
      obtain ⟨E2, hE2⟩ : ∃ E2, Hid (powE (-n) (P) = E2) := ⟨_, Lib.hid rfl⟩
      have p00 := XY.out.c0; have p01 := XY.out.c1
      go_wp2_with fail
      clear p00 p01
      refine ((wPow_any zb zo zn zc ((Q : Int)) (-n) _ WY.out (grow_64 la.out.bot_lt) hk0.out hk1.out).mono fun _ _ => pow_split hE1.out).mono ?_
      rintro e v22 ⟨db, do_, dn, dc, rfl, D, hb⟩
      replace bb := Lib.hid (below_then bb.out (Nat.le_refl _) hb); replace Xa := Lib.hid (Xa.out.later hb); replace X2 := Lib.hid (X2.out.later hb); replace XY := Lib.hid (XY.out.later hb); replace XZ := Lib.hid (XZ.out.later hb); replace Ra := Lib.hid (Ra.out.below hb); replace WY := Lib.hid (WY.out.below hb); replace WZ := Lib.hid (WZ.out.below hb)
      by_cases h1 : E1 = 0
      · subst h1
        replace D := Lib.hid D
        clear hb
        go_upto_region 7 with fail
        refine gen_wp (fun w' => Below w.heap.size w w' ∧ Box3 w' w.heap.size (.bool ab) (.slice ap an ac) (.slice aq am ae) ∧ Box3 w' (w.heap.size + 1) (.bool false) (.slice none 0 0) (.slice none 0 0) ∧ Box w' Y (.bool zb) (.slice zo zn zc) ∧ Box w' Z (.bool yb) (.slice yo yn yc) ∧ Box w' v22.heap.size (.bool db) (.slice do_ dn dc) ∧ Rt w' ab ap an ac aq am ae P Q ∧ Whole w' zb zo zn zc Q ∧ Whole w' yb yo yn yc P ∧ Right w' db do_ dn dc (powV (-n) ((Q : Int))))
          ⟨bb.out.alloc bb.out.size _, Xa.out.alloc _, X2.out.alloc _, XY.out.alloc _, XZ.out.alloc _, Box.new _ _ _ rfl, Ra.out.alloc _, WY.out.alloc _, WZ.out.alloc _, D.out.alloc _⟩ ?_
        clear bb Xa X2 XY XZ Ra WY WZ D
        rintro x22 ⟨bb, Xa, X2, XY, XZ, Xd, Ra, WY, WZ, D⟩
        replace bb := Lib.hid bb; replace Xa := Lib.hid Xa; replace X2 := Lib.hid X2; replace XY := Lib.hid XY; replace XZ := Lib.hid XZ; replace Xd := Lib.hid Xd; replace Ra := Lib.hid Ra; replace WY := Lib.hid WY; replace WZ := Lib.hid WZ; replace D := Lib.hid D
        go_upto_region 9 with fail
        have p00 := XZ.out.c0; have p01 := XZ.out.c1
        go_wp2_with fail
        clear p00 p01
        refine ((wPow_any yb yo yn yc (P) (-n) _ WZ.out (grow_64 la.out.abs_lt) hk0.out hk1.out).mono fun _ _ => pow_split hE2.out).mono ?_
        rintro e v23 ⟨eb, eo, en, ec, rfl, E, hb⟩
        replace bb := Lib.hid (below_then bb.out (Nat.le_refl _) hb); replace Xa := Lib.hid (Xa.out.later hb); replace X2 := Lib.hid (X2.out.later hb); replace XY := Lib.hid (XY.out.later hb); replace XZ := Lib.hid (XZ.out.later hb); replace Xd := Lib.hid (Xd.out.later hb); replace Ra := Lib.hid (Ra.out.below hb); replace WY := Lib.hid (WY.out.below hb); replace WZ := Lib.hid (WZ.out.below hb); replace D := Lib.hid (D.out.below hb)
        by_cases h2 : E2 = 0
        · subst h2
          replace E := Lib.hid E
          clear hb
          go_upto_region 10 with fail
          refine gen_wp (fun w' => Below w.heap.size w w' ∧ Box3 w' w.heap.size (.bool ab) (.slice ap an ac) (.slice aq am ae) ∧ Box3 w' (w.heap.size + 1) (.bool false) (.slice none 0 0) (.slice none 0 0) ∧ Box w' Y (.bool zb) (.slice zo zn zc) ∧ Box w' Z (.bool yb) (.slice yo yn yc) ∧ Box w' v22.heap.size (.bool db) (.slice do_ dn dc) ∧ Box w' v23.heap.size (.bool eb) (.slice eo en ec) ∧ Rt w' ab ap an ac aq am ae P Q ∧ Whole w' zb zo zn zc Q ∧ Whole w' yb yo yn yc P ∧ Right w' db do_ dn dc (powV (-n) ((Q : Int))) ∧ Right w' eb eo en ec (powV (-n) (P)))
            ⟨bb.out.alloc bb.out.size _, Xa.out.alloc _, X2.out.alloc _, XY.out.alloc _, XZ.out.alloc _, Xd.out.alloc _, Box.new _ _ _ rfl, Ra.out.alloc _, WY.out.alloc _, WZ.out.alloc _, D.out.alloc _, E.out.alloc _⟩ ?_
          clear bb Xa X2 XY XZ Xd Ra WY WZ D E
          rintro x23 ⟨bb, Xa, X2, XY, XZ, Xd, Xe, Ra, WY, WZ, D, E⟩
          replace bb := Lib.hid bb; replace Xa := Lib.hid Xa; replace X2 := Lib.hid X2; replace XY := Lib.hid XY; replace XZ := Lib.hid XZ; replace Xd := Lib.hid Xd; replace Xe := Lib.hid Xe; replace Ra := Lib.hid Ra; replace WY := Lib.hid WY; replace WZ := Lib.hid WZ; replace D := Lib.hid D; replace E := Lib.hid E
          go_upto_region 12 with fail
          have p00 := Xd.out.c0; have p01 := Xd.out.c1; have p10 := Xe.out.c0; have p11 := Xe.out.c1
          go_wp2_with fail
          clear p00 p01 p10 p11
          refine (make_any db eb do_ eo dn dc en ec (powV (-n) ((Q : Int))) (powV (-n) (P)) _ (D.out.whole32 (powV_lt (-n) ((Q : Int)))) (E.out.whole32 (powV_lt (-n) (P)))).mono ?_
          rintro e v24 ⟨zb, zp, zn, zc, zq, zm, ze, rfl, N, hb⟩
          replace bb := Lib.hid (below_then bb.out (Nat.le_refl _) hb); replace Xa := Lib.hid (Xa.out.later hb); replace X2 := Lib.hid (X2.out.later hb); replace XY := Lib.hid (XY.out.later hb); replace XZ := Lib.hid (XZ.out.later hb); replace Xd := Lib.hid (Xd.out.later hb); replace Xe := Lib.hid (Xe.out.later hb); replace Ra := Lib.hid (Ra.out.below hb); replace WY := Lib.hid (WY.out.below hb); replace WZ := Lib.hid (WZ.out.below hb); replace D := Lib.hid (D.out.below hb); replace E := Lib.hid (E.out.below hb)
          replace N := Lib.hid N
          clear hb Xa XY XZ Xd Xe Ra WY WZ D E
          replace X2 := X2.out
          replace bb := bb.out
          have q0 := X2.c0; have q1 := X2.c1; have q2 := X2.c2; have q3 := X2.fr 0; have q4 := X2.fr 1; have q5 := X2.fr 2
          have zz := X2.set (.bool zb) (.slice zp zn zc) (.slice zq zm ze)
          have e0 := zz.c0; have e1 := zz.c1; have e2 := zz.c2
          have Y2 := Lib.hid X2; have bb' := Lib.hid bb
          clear zz X2 bb
          go_wp2_with fail
          refine bodyPost_ret (v := .tuple #[.agg #[.bool zb, .slice zp zn zc, .slice zq zm ze], .int .i64 (mkE (powV (-n) ((Q : Int))) (powV (-n) (P)))]) (by simp [results, Tryz.results123, go_sem, e0, e1, e2]) rfl ?_
          exact pow_neg hn.out hPn.out (pw_ok hE1.out hE2.out (ResPost.stored N.out Y2.out bb'.out (by omega)))
        · replace h2 := Lib.hid h2
          replace E := Lib.hid E
          clear hb
          go_upto_region 10 with fail
          refine gen_wp (fun w' => Below w.heap.size w w' ∧ Box3 w' w.heap.size (.bool ab) (.slice ap an ac) (.slice aq am ae) ∧ Box3 w' (w.heap.size + 1) (.bool false) (.slice none 0 0) (.slice none 0 0) ∧ Box w' Y (.bool zb) (.slice zo zn zc) ∧ Box w' Z (.bool yb) (.slice yo yn yc) ∧ Box w' v22.heap.size (.bool db) (.slice do_ dn dc) ∧ Box w' v23.heap.size (.bool eb) (.slice eo en ec) ∧ Rt w' ab ap an ac aq am ae P Q ∧ Whole w' zb zo zn zc Q ∧ Whole w' yb yo yn yc P ∧ Right w' db do_ dn dc (powV (-n) ((Q : Int))) ∧ Right w' eb eo en ec (powV (-n) (P)))
            ⟨bb.out.alloc bb.out.size _, Xa.out.alloc _, X2.out.alloc _, XY.out.alloc _, XZ.out.alloc _, Xd.out.alloc _, Box.new _ _ _ rfl, Ra.out.alloc _, WY.out.alloc _, WZ.out.alloc _, D.out.alloc _, E.out.alloc _⟩ ?_
          clear bb Xa X2 XY XZ Xd Ra WY WZ D E
          rintro x23 ⟨bb, Xa, X2, XY, XZ, Xd, Xe, Ra, WY, WZ, D, E⟩
          replace bb := Lib.hid bb; replace Xa := Lib.hid Xa; replace X2 := Lib.hid X2; replace XY := Lib.hid XY; replace XZ := Lib.hid XZ; replace Xd := Lib.hid Xd; replace Xe := Lib.hid Xe; replace Ra := Lib.hid Ra; replace WY := Lib.hid WY; replace WZ := Lib.hid WZ; replace D := Lib.hid D; replace E := Lib.hid E
          have hz := h2.out
          clear Xa XY XZ Xd Xe Ra WY WZ D E
          replace X2 := X2.out
          replace bb := bb.out
          have q0 := X2.c0; have q1 := X2.c1; have q2 := X2.c2; have q3 := X2.fr 0; have q4 := X2.fr 1; have q5 := X2.fr 2
          have zz := X2.set (.bool false) (.slice none 0 0) (.slice none 0 0)
          have e0 := zz.c0; have e1 := zz.c1; have e2 := zz.c2
          have Y2 := Lib.hid X2; have bb' := Lib.hid bb
          clear zz X2 bb
          go_wp2_with fail
          refine bodyPost_ret (v := .tuple #[.agg #[.bool false, .slice none 0 0, .slice none 0 0], .int .i64 (E2)]) (by simp [results, Tryz.results123, go_sem, e0, e1, e2]) rfl ?_
          exact pow_neg hn.out hPn.out (pw_two hE1.out hE2.out h2.out (ResPost.stored (rt_zero _) Y2.out bb'.out (by omega)))
      · replace h1 := Lib.hid h1
        replace D := Lib.hid D
        clear hb
        go_upto_region 7 with fail
        refine gen_wp (fun w' => Below w.heap.size w w' ∧ Box3 w' w.heap.size (.bool ab) (.slice ap an ac) (.slice aq am ae) ∧ Box3 w' (w.heap.size + 1) (.bool false) (.slice none 0 0) (.slice none 0 0) ∧ Box w' Y (.bool zb) (.slice zo zn zc) ∧ Box w' Z (.bool yb) (.slice yo yn yc) ∧ Box w' v22.heap.size (.bool db) (.slice do_ dn dc) ∧ Rt w' ab ap an ac aq am ae P Q ∧ Whole w' zb zo zn zc Q ∧ Whole w' yb yo yn yc P ∧ Right w' db do_ dn dc (powV (-n) ((Q : Int))))
          ⟨bb.out.alloc bb.out.size _, Xa.out.alloc _, X2.out.alloc _, XY.out.alloc _, XZ.out.alloc _, Box.new _ _ _ rfl, Ra.out.alloc _, WY.out.alloc _, WZ.out.alloc _, D.out.alloc _⟩ ?_
        clear bb Xa X2 XY XZ Ra WY WZ D
        rintro x22 ⟨bb, Xa, X2, XY, XZ, Xd, Ra, WY, WZ, D⟩
        replace bb := Lib.hid bb; replace Xa := Lib.hid Xa; replace X2 := Lib.hid X2; replace XY := Lib.hid XY; replace XZ := Lib.hid XZ; replace Xd := Lib.hid Xd; replace Ra := Lib.hid Ra; replace WY := Lib.hid WY; replace WZ := Lib.hid WZ; replace D := Lib.hid D
        have hz := h1.out
        clear Xa XY XZ Xd Ra WY WZ D
        replace X2 := X2.out
        replace bb := bb.out
        have q0 := X2.c0; have q1 := X2.c1; have q2 := X2.c2; have q3 := X2.fr 0; have q4 := X2.fr 1; have q5 := X2.fr 2
        have zz := X2.set (.bool false) (.slice none 0 0) (.slice none 0 0)
        have e0 := zz.c0; have e1 := zz.c1; have e2 := zz.c2
        have Y2 := Lib.hid X2; have bb' := Lib.hid bb
        clear zz X2 bb
        go_wp2_with fail
        refine bodyPost_ret (v := .tuple #[.agg #[.bool false, .slice none 0 0, .slice none 0 0], .int .i64 (E1)]) (by simp [results, Tryz.results123, go_sem, e0, e1, e2]) rfl ?_
        exact pow_neg hn.out hPn.out (pw_one hE1.out h1.out (ResPost.stored (rt_zero _) Y2.out bb'.out (by omega)))
    · have hd : decide (n < 0) = false := decide_eq_false hn
      replace hn := Lib.hid hn
      go_upto_region 6 with fail
      clear hd
      obtain ⟨E1, hE1⟩ : ∃ E1, Hid (powE (n) (P) = E1) := ⟨_, Lib.hid rfl⟩
      obtain ⟨E2, hE2⟩ : ∃ E2, Hid (powE (n) ((Q : Int)) = E2) := ⟨_, Lib.hid rfl⟩
      have p00 := XY.out.c0; have p01 := XY.out.c1
      go_wp2_with fail
      clear p00 p01
      refine ((wPow_any yb yo yn yc (P) (n) _ WY.out (grow_64 la.out.abs_lt) n0.out n1.out).mono fun _ _ => pow_split hE1.out).mono ?_
      rintro e v21 ⟨db, do_, dn, dc, rfl, D, hb⟩
      replace bb := Lib.hid (below_then bb.out (Nat.le_refl _) hb); replace Xa := Lib.hid (Xa.out.later hb); replace X2 := Lib.hid (X2.out.later hb); replace XY := Lib.hid (XY.out.later hb); replace XZ := Lib.hid (XZ.out.later hb); replace Ra := Lib.hid (Ra.out.below hb); replace WY := Lib.hid (WY.out.below hb); replace WZ := Lib.hid (WZ.out.below hb)
      by_cases h1 : E1 = 0
      · subst h1
        replace D := Lib.hid D
        clear hb
        go_upto_region 7 with fail
        refine gen_wp (fun w' => Below w.heap.size w w' ∧ Box3 w' w.heap.size (.bool ab) (.slice ap an ac) (.slice aq am ae) ∧ Box3 w' (w.heap.size + 1) (.bool false) (.slice none 0 0) (.slice none 0 0) ∧ Box w' Y (.bool yb) (.slice yo yn yc) ∧ Box w' Z (.bool zb) (.slice zo zn zc) ∧ Box w' v21.heap.size (.bool db) (.slice do_ dn dc) ∧ Rt w' ab ap an ac aq am ae P Q ∧ Whole w' yb yo yn yc P ∧ Whole w' zb zo zn zc Q ∧ Right w' db do_ dn dc (powV (n) (P)))
          ⟨bb.out.alloc bb.out.size _, Xa.out.alloc _, X2.out.alloc _, XY.out.alloc _, XZ.out.alloc _, Box.new _ _ _ rfl, Ra.out.alloc _, WY.out.alloc _, WZ.out.alloc _, D.out.alloc _⟩ ?_
        clear bb Xa X2 XY XZ Ra WY WZ D
        rintro x21 ⟨bb, Xa, X2, XY, XZ, Xd, Ra, WY, WZ, D⟩
        replace bb := Lib.hid bb; replace Xa := Lib.hid Xa; replace X2 := Lib.hid X2; replace XY := Lib.hid XY; replace XZ := Lib.hid XZ; replace Xd := Lib.hid Xd; replace Ra := Lib.hid Ra; replace WY := Lib.hid WY; replace WZ := Lib.hid WZ; replace D := Lib.hid D
        go_upto_region 9 with fail
        have p00 := XZ.out.c0; have p01 := XZ.out.c1
        go_wp2_with fail
        clear p00 p01
        refine ((wPow_any zb zo zn zc ((Q : Int)) (n) _ WZ.out (grow_64 la.out.bot_lt) n0.out n1.out).mono fun _ _ => pow_split hE2.out).mono ?_
        rintro e v22 ⟨eb, eo, en, ec, rfl, E, hb⟩
        replace bb := Lib.hid (below_then bb.out (Nat.le_refl _) hb); replace Xa := Lib.hid (Xa.out.later hb); replace X2 := Lib.hid (X2.out.later hb); replace XY := Lib.hid (XY.out.later hb); replace XZ := Lib.hid (XZ.out.later hb); replace Xd := Lib.hid (Xd.out.later hb); replace Ra := Lib.hid (Ra.out.below hb); replace WY := Lib.hid (WY.out.below hb); replace WZ := Lib.hid (WZ.out.below hb); replace D := Lib.hid (D.out.below hb)
        by_cases h2 : E2 = 0
        · subst h2
          replace E := Lib.hid E
          clear hb
          go_upto_region 10 with fail
          refine gen_wp (fun w' => Below w.heap.size w w' ∧ Box3 w' w.heap.size (.bool ab) (.slice ap an ac) (.slice aq am ae) ∧ Box3 w' (w.heap.size + 1) (.bool false) (.slice none 0 0) (.slice none 0 0) ∧ Box w' Y (.bool yb) (.slice yo yn yc) ∧ Box w' Z (.bool zb) (.slice zo zn zc) ∧ Box w' v21.heap.size (.bool db) (.slice do_ dn dc) ∧ Box w' v22.heap.size (.bool eb) (.slice eo en ec) ∧ Rt w' ab ap an ac aq am ae P Q ∧ Whole w' yb yo yn yc P ∧ Whole w' zb zo zn zc Q ∧ Right w' db do_ dn dc (powV (n) (P)) ∧ Right w' eb eo en ec (powV (n) ((Q : Int))))
            ⟨bb.out.alloc bb.out.size _, Xa.out.alloc _, X2.out.alloc _, XY.out.alloc _, XZ.out.alloc _, Xd.out.alloc _, Box.new _ _ _ rfl, Ra.out.alloc _, WY.out.alloc _, WZ.out.alloc _, D.out.alloc _, E.out.alloc _⟩ ?_
          clear bb Xa X2 XY XZ Xd Ra WY WZ D E
          rintro x22 ⟨bb, Xa, X2, XY, XZ, Xd, Xe, Ra, WY, WZ, D, E⟩
          replace bb := Lib.hid bb; replace Xa := Lib.hid Xa; replace X2 := Lib.hid X2; replace XY := Lib.hid XY; replace XZ := Lib.hid XZ; replace Xd := Lib.hid Xd; replace Xe := Lib.hid Xe; replace Ra := Lib.hid Ra; replace WY := Lib.hid WY; replace WZ := Lib.hid WZ; replace D := Lib.hid D; replace E := Lib.hid E
          go_upto_region 12 with fail
          have p00 := Xd.out.c0; have p01 := Xd.out.c1; have p10 := Xe.out.c0; have p11 := Xe.out.c1
          go_wp2_with fail
          clear p00 p01 p10 p11
          refine (make_any db eb do_ eo dn dc en ec (powV (n) (P)) (powV (n) ((Q : Int))) _ (D.out.whole32 (powV_lt (n) (P))) (E.out.whole32 (powV_lt (n) ((Q : Int))))).mono ?_
          rintro e v23 ⟨zb, zp, zn, zc, zq, zm, ze, rfl, N, hb⟩
          replace bb := Lib.hid (below_then bb.out (Nat.le_refl _) hb); replace Xa := Lib.hid (Xa.out.later hb); replace X2 := Lib.hid (X2.out.later hb); replace XY := Lib.hid (XY.out.later hb); replace XZ := Lib.hid (XZ.out.later hb); replace Xd := Lib.hid (Xd.out.later hb); replace Xe := Lib.hid (Xe.out.later hb); replace Ra := Lib.hid (Ra.out.below hb); replace WY := Lib.hid (WY.out.below hb); replace WZ := Lib.hid (WZ.out.below hb); replace D := Lib.hid (D.out.below hb); replace E := Lib.hid (E.out.below hb)
          replace N := Lib.hid N
          clear hb Xa XY XZ Xd Xe Ra WY WZ D E
          replace X2 := X2.out
          replace bb := bb.out
          have q0 := X2.c0; have q1 := X2.c1; have q2 := X2.c2; have q3 := X2.fr 0; have q4 := X2.fr 1; have q5 := X2.fr 2
          have zz := X2.set (.bool zb) (.slice zp zn zc) (.slice zq zm ze)
          have e0 := zz.c0; have e1 := zz.c1; have e2 := zz.c2
          have Y2 := Lib.hid X2; have bb' := Lib.hid bb
          clear zz X2 bb
          go_wp2_with fail
          refine bodyPost_ret (v := .tuple #[.agg #[.bool zb, .slice zp zn zc, .slice zq zm ze], .int .i64 (mkE (powV (n) (P)) (powV (n) ((Q : Int))))]) (by simp [results, Tryz.results123, go_sem, e0, e1, e2]) rfl ?_
          exact pow_pos (by have := hn.out; omega) (pw_ok hE1.out hE2.out (ResPost.stored N.out Y2.out bb'.out (by omega)))
        · replace h2 := Lib.hid h2
          replace E := Lib.hid E
          clear hb
          go_upto_region 10 with fail
          refine gen_wp (fun w' => Below w.heap.size w w' ∧ Box3 w' w.heap.size (.bool ab) (.slice ap an ac) (.slice aq am ae) ∧ Box3 w' (w.heap.size + 1) (.bool false) (.slice none 0 0) (.slice none 0 0) ∧ Box w' Y (.bool yb) (.slice yo yn yc) ∧ Box w' Z (.bool zb) (.slice zo zn zc) ∧ Box w' v21.heap.size (.bool db) (.slice do_ dn dc) ∧ Box w' v22.heap.size (.bool eb) (.slice eo en ec) ∧ Rt w' ab ap an ac aq am ae P Q ∧ Whole w' yb yo yn yc P ∧ Whole w' zb zo zn zc Q ∧ Right w' db do_ dn dc (powV (n) (P)) ∧ Right w' eb eo en ec (powV (n) ((Q : Int))))
            ⟨bb.out.alloc bb.out.size _, Xa.out.alloc _, X2.out.alloc _, XY.out.alloc _, XZ.out.alloc _, Xd.out.alloc _, Box.new _ _ _ rfl, Ra.out.alloc _, WY.out.alloc _, WZ.out.alloc _, D.out.alloc _, E.out.alloc _⟩ ?_
          clear bb Xa X2 XY XZ Xd Ra WY WZ D E
          rintro x22 ⟨bb, Xa, X2, XY, XZ, Xd, Xe, Ra, WY, WZ, D, E⟩
          replace bb := Lib.hid bb; replace Xa := Lib.hid Xa; replace X2 := Lib.hid X2; replace XY := Lib.hid XY; replace XZ := Lib.hid XZ; replace Xd := Lib.hid Xd; replace Xe := Lib.hid Xe; replace Ra := Lib.hid Ra; replace WY := Lib.hid WY; replace WZ := Lib.hid WZ; replace D := Lib.hid D; replace E := Lib.hid E
          have hz := h2.out
          clear Xa XY XZ Xd Xe Ra WY WZ D E
          replace X2 := X2.out
          replace bb := bb.out
          have q0 := X2.c0; have q1 := X2.c1; have q2 := X2.c2; have q3 := X2.fr 0; have q4 := X2.fr 1; have q5 := X2.fr 2
          have zz := X2.set (.bool false) (.slice none 0 0) (.slice none 0 0)
          have e0 := zz.c0; have e1 := zz.c1; have e2 := zz.c2
          have Y2 := Lib.hid X2; have bb' := Lib.hid bb
          clear zz X2 bb
          go_wp2_with fail
          refine bodyPost_ret (v := .tuple #[.agg #[.bool false, .slice none 0 0, .slice none 0 0], .int .i64 (E2)]) (by simp [results, Tryz.results123, go_sem, e0, e1, e2]) rfl ?_
          exact pow_pos (by have := hn.out; omega) (pw_two hE1.out hE2.out h2.out (ResPost.stored (rt_zero _) Y2.out bb'.out (by omega)))
      · replace h1 := Lib.hid h1
        replace D := Lib.hid D
        clear hb
        go_upto_region 7 with fail
        refine gen_wp (fun w' => Below w.heap.size w w' ∧ Box3 w' w.heap.size (.bool ab) (.slice ap an ac) (.slice aq am ae) ∧ Box3 w' (w.heap.size + 1) (.bool false) (.slice none 0 0) (.slice none 0 0) ∧ Box w' Y (.bool yb) (.slice yo yn yc) ∧ Box w' Z (.bool zb) (.slice zo zn zc) ∧ Box w' v21.heap.size (.bool db) (.slice do_ dn dc) ∧ Rt w' ab ap an ac aq am ae P Q ∧ Whole w' yb yo yn yc P ∧ Whole w' zb zo zn zc Q ∧ Right w' db do_ dn dc (powV (n) (P)))
          ⟨bb.out.alloc bb.out.size _, Xa.out.alloc _, X2.out.alloc _, XY.out.alloc _, XZ.out.alloc _, Box.new _ _ _ rfl, Ra.out.alloc _, WY.out.alloc _, WZ.out.alloc _, D.out.alloc _⟩ ?_
        clear bb Xa X2 XY XZ Ra WY WZ D
        rintro x21 ⟨bb, Xa, X2, XY, XZ, Xd, Ra, WY, WZ, D⟩
        replace bb := Lib.hid bb; replace Xa := Lib.hid Xa; replace X2 := Lib.hid X2; replace XY := Lib.hid XY; replace XZ := Lib.hid XZ; replace Xd := Lib.hid Xd; replace Ra := Lib.hid Ra; replace WY := Lib.hid WY; replace WZ := Lib.hid WZ; replace D := Lib.hid D
        have hz := h1.out
        clear Xa XY XZ Xd Ra WY WZ D
        replace X2 := X2.out
        replace bb := bb.out
        have q0 := X2.c0; have q1 := X2.c1; have q2 := X2.c2; have q3 := X2.fr 0; have q4 := X2.fr 1; have q5 := X2.fr 2
        have zz := X2.set (.bool false) (.slice none 0 0) (.slice none 0 0)
        have e0 := zz.c0; have e1 := zz.c1; have e2 := zz.c2
        have Y2 := Lib.hid X2; have bb' := Lib.hid bb
        clear zz X2 bb
        go_wp2_with fail
        refine bodyPost_ret (v := .tuple #[.agg #[.bool false, .slice none 0 0, .slice none 0 0], .int .i64 (E1)]) (by simp [results, Tryz.results123, go_sem, e0, e1, e2]) rfl ?_
        exact pow_pos (by have := hn.out; omega) (pw_one hE1.out h1.out (ResPost.stored (rt_zero _) Y2.out bb'.out (by omega)))

end Go.Proofs.YtaepelipkkmeaaaGreat
namespace Go.Proofs.YtaepelipkkmeaaaGreat

open Go.RowKit Num

attribute [local go_sem ↓] Go.wp_at_zero Go.wp_at_succ

def NumRes (r : Int × Nat × Int) := ResPost r.1 r.2.1 r.2.2

theorem NumRes.of {r : Int × Nat × Int} {T : Int} {B : Nat} {E : Int} {w w' : World} {e : Ending} (h : ResPost T B E w e w') (hr : r = (T, B, E)) : NumRes r w e w' := by rw [hr]; exact h

/-- It answers whether two numbers are the same. -/
theorem same4_iff (ab : Bool) (ap aq : Option Addr) (an ac am ae : Nat) (P : Int) (Q : Nat) (cb : Bool) (cp cq : Option Addr) (cn cc cm ce : Nat) (R : Int) (S : Nat) (w : World) (A : Rt w ab ap an ac aq am ae P Q) (B : Rt w cb cp cn cc cq cm ce R S) (v : Bool) (hv : v = decide (P = R ∧ Q = S)) :
    Calls Tryz.prog 21 #[.agg #[.bool ab, .slice ap an ac, .slice aq am ae], .agg #[.bool cb, .slice cp cn cc, .slice cq cm ce]] w (Says (.bool v) w) := by
  subst hv
  by_cases h : P = R ∧ Q = S
  · obtain ⟨rfl, rfl⟩ := h
    rw [decide_eq_true (by exact ⟨rfl, rfl⟩)]
    exact same4_any ab ap aq an ac am ae P Q cb cp cq cn cc cm ce w A B
  · rw [decide_eq_false h]
    obtain ⟨f, f1, f2, f3, f4, f5⟩ := A.top.ex
    obtain ⟨g, g1, g2, g3, g4, _⟩ := A.bot.ex
    obtain ⟨f', f1', f2', f3', f4', f5'⟩ := B.top.ex
    obtain ⟨g', g1', g2', g3', g4', _⟩ := B.bot.ex
    refine (same4B_any ab cb ap aq cp cq an ac am ae cn cc cm ce f g f' g' w (by omega) (by omega) f3 g3 f3' g3').mono ?_
    rintro e w' ⟨r, rfl, hr, hb⟩
    cases r with
    | false => exact ⟨rfl, hb⟩
    | true =>
      obtain ⟨k1, ⟨k2, k3⟩, ⟨k4, k5⟩⟩ := hr.1 rfl
      refine absurd ?_ h
      have e1 : P.natAbs = R.natAbs := by rw [← f4.val, ← f4'.val, ← k2]; exact val_congr k3
      have e2 : Q = S := by
        have a1 := g4.val; have a2 := g4'.val
        rw [Int.natAbs_natCast] at a1 a2
        rw [← a1, ← a2, ← k4]; exact val_congr k5
      have e3 : decide (P < 0) = decide (R < 0) := by rw [← f5, ← f5', k1]
      refine ⟨?_, e2⟩
      by_cases hp : P < 0
      · rw [decide_eq_true hp] at e3; have := of_decide_eq_true e3.symm; omega
      · rw [decide_eq_false hp] at e3; have := of_decide_eq_false e3.symm; omega

end Go.Proofs.YtaepelipkkmeaaaGreat
namespace Go.Proofs.YtaepelipkkmeaaaGreat

open Go.RowKit Num

attribute [local go_sem ↓] Go.wp_at_zero Go.wp_at_succ

theorem or_word {x y : Nat} (hx : x < 4294967296) (hy : y < 4294967296) : bits BinOp.or IntKind.u64 (x : Int) ((y : Int) * 4294967296) = ((x + y * 4294967296 : Nat) : Int) := by
  have e : (y : Int) * 4294967296 = ((y * 4294967296 : Nat) : Int) := by omega
  rw [e, or64 _ _ (by omega) (by omega)]
  have h := or_low (a := x) (u := 32) (m := y) hx
  have h4 : x ||| y * 4294967296 = x + y * 4294967296 := by rw [Nat.mul_comm y, show (4294967296 : Nat) = 2 ^ 32 from rfl, h]
  rw [h4]

theorem or_zero {y : Nat} (hy : y < 4294967296) : bits BinOp.or IntKind.u64 (0 : Int) (y : Int) = (y : Int) := by
  have h := or64 0 y (by omega) (by omega)
  simpa using h

/-- Is it an int's? -/
def isSmall (x : Int) : Bool := decide (-9223372036854775808 ≤ x ∧ x ≤ 9223372036854775807)

/-- The number as an int, and true; 0 and false. -/
def smallV (x : Int) : Value := .tuple #[.int .i64 (if isSmall x then x else 0), .bool (isSmall x)]

set_option maxHeartbeats 1000000 in
theorem wSmall_any (b : Bool) (ao : Option Addr) (n nc : Nat) (x : Int) (w : World) (A : Whole w b ao n nc x) :
    Calls Tryz.prog 157 #[.agg #[.bool b, .slice ao n nc]] w (Says (smallV x) w) := by
  have A' := Lib.hid A
  clear A
  go_enter Tryz.func157, Tryz.ntmps157
  go_wp2_with fail
  refine gen_calls (fun w' => Below w.heap.size w w' ∧ Box w' w.heap.size (.bool b) (.slice ao n nc))
    ⟨((Below.refl _ w).alloc (Nat.le_refl _) _), (Box.new _ _ _ rfl)⟩ ?_
  rintro w0 ⟨hb0, x0⟩
  refine (wNorm_any b ao n nc x _ (A'.out.below hb0)).mono ?_
  rintro e w1 ⟨sb, so, sn, sc, rfl, hR, hb⟩
  have y0 := x0.later hb
  have hb1 := below_then hb0 (Nat.le_refl _) hb
  have hR1 := Lib.hid (hR.box y0 (.bool sb) (.slice so sn sc))
  have hB1 := Lib.hid (below_set hb1 (Nat.le_refl _) (.bool sb) (.slice so sn sc))
  have z0 := y0.set (.bool sb) (.slice so sn sc)
  have q1 := y0.c0; have q2 := y0.c1; have q3 := y0.fr 0; have q4 := y0.fr 1
  have e0 := z0.c0; have e1 := z0.c1
  clear hb0 hb x0 y0 hb1 hR
  by_cases h2 : 2 < sn
  · have h2i : (2 : Int) < (sn : Int) := by omega
    obtain ⟨f, f1, f2, hs, cf, hsg⟩ := hR1.out.ex
    have hbig : isSmall x = false := by
      have h1 := cf.val
      have h3 : f (sn - 1) ≠ 0 := by rcases cf.top with h | h <;> omega
      obtain ⟨j, rfl⟩ : ∃ j, sn = j + 1 + 1 + 1 := ⟨sn - 3, by omega⟩
      have h3 : f (j + 1 + 1) ≠ 0 := h3
      have h4 := val_ge h3
      have h5 : pw 2 ≤ pw (j + 1 + 1) := pw_le (by omega)
      have h6 : pw 2 = 18446744073709551616 := rfl
      simp only [isSmall, decide_eq_false_iff_not]
      omega
    have hbig' := Lib.hid hbig
    clear f1 f2 hs cf hsg hbig
    go_wp2_with fail
    go_ret2
    refine ⟨?_, hB1.out⟩
    simp [smallV, hbig'.out]
  · have z0' := Lib.hid z0
    clear z0
    go_wp2_with fail
    refine gen_wp (fun w' => Below w.heap.size w w' ∧ Box w' w.heap.size (.bool sb) (.slice so sn sc) ∧ Right w' sb so sn sc x) ⟨hB1.out, z0'.out, hR1.out⟩ ?_
    rintro w2 ⟨hb2, z, hR⟩
    obtain ⟨f, f1, f2, hs, cf, hsg⟩ := hR.ex
    have hb2' := Lib.hid hb2; have hs' := Lib.hid hs; have cf' := Lib.hid cf; have hsg' := Lib.hid hsg
    have p0 := z.c0
    clear hb2 z hR hs cf hsg hR1 hB1 q1 q2 q3 q4 e0 e1 z0'
    go_loop [4, 16] (fun s i => ∃ j : Nat, j ≤ sn ∧ i = .int .i64 j ∧ s = .int .u64 (val f j)) (fun _ i => sn - (intOf i).toNat)
    case atStart => exact ⟨0, Nat.zero_le _, rfl, rfl⟩
    case round =>
      obtain ⟨j, hj, rfl, rfl⟩ := hrel
      by_cases hlt : j < sn
      · rcases hs'.out with h | ⟨g, off, rfl, hc⟩
        · omega
        have hcell := hc j hlt
        have hl := cf'.out.lim j hlt
        clear hc
        have hj01 : j = 0 ∨ j = 1 := by omega
        rcases hj01 with rfl | rfl
        · simp only [Nat.add_zero] at hcell
          go_wp2_with fail
          go_round
          case rel =>
            refine ⟨1, by omega, rfl, int_eq ?_⟩
            rw [val_succ, val_zero]
            simp only [pw, Nat.zero_add, Nat.mul_one]
            exact or_zero hl
          case measure => simp [intOf]; omega
        · have hl0 := cf'.out.lim 0 (by omega)
          go_wp2_with fail
          go_round
          case rel =>
            refine ⟨2, by omega, rfl, int_eq ?_⟩
            have e1 : val f 1 = f 0 := by simp [val, pw]
            have e2 : val f 2 = f 0 + f 1 * 4294967296 := by simp [val, pw]
            rw [e1, e2]
            exact or_word hl0 hl
          case measure => simp [intOf]; omega
      · obtain rfl : j = sn := by omega
        have hv : val f j = x.natAbs := cf'.out.val
        rw [hv]
        have hj1 := hlt
        have hfin : ∀ (z : Int) (t : Bool), (t = true → z = x) → (t = false → z = 0) → isSmall x = t → Ending.returned (.tuple #[.int .i64 z, .bool t]) = .returned (smallV x) := by
          intro z t h1 h0 ht
          cases t
          · rw [h0 rfl]; simp [smallV, ht]
          · rw [h1 rfl]; simp [smallV, ht]
        have hfin' := Lib.hid hfin
        clear hfin
        cases sb
        · have hx0 : 0 ≤ x := by have := hsg'.out; simp at this; exact this
          by_cases hle : (x.natAbs : Int) ≤ 9223372036854775807
          · have es : isSmall x = true := by simp only [isSmall, decide_eq_true_eq]; omega
            have es' := Lib.hid es
            have en : Hid ((x.natAbs : Int) = x) := Lib.hid (by omega)
            clear es hx0
            go_wp2_with fail
            go_ret2
            exact ⟨hfin'.out _ _ (fun _ => en.out) (fun h => by cases h) es'.out, hb2'.out⟩
          · have es : isSmall x = false := by simp only [isSmall, decide_eq_false_iff_not]; omega
            have es' := Lib.hid es
            have hgt : decide ((x.natAbs : Int) ≤ 9223372036854775807) = false := decide_eq_false hle
            clear es hx0
            go_wp2_with fail
            go_ret2
            exact ⟨hfin'.out _ _ (fun h => by cases h) (fun _ => rfl) es'.out, hb2'.out⟩
        · have hx0 : x < 0 := by have := hsg'.out; simp at this; exact this
          by_cases hle : (x.natAbs : Int) ≤ 9223372036854775808
          · have es : isSmall x = true := by simp only [isSmall, decide_eq_true_eq]; omega
            have es' := Lib.hid es
            have en : Hid (wrap64 (IntKind.u64.wrap (-(x.natAbs : Int))) = x) := Lib.hid (by
              have : (x.natAbs : Int) = -x := by omega
              rw [this]
              simp [wrap64, IntKind.wrap, IntKind.bits, IntKind.signed]
              omega)
            clear es hx0
            go_wp2_with fail
            go_ret2
            exact ⟨hfin'.out _ _ (fun _ => en.out) (fun h => by cases h) es'.out, hb2'.out⟩
          · have es : isSmall x = false := by simp only [isSmall, decide_eq_false_iff_not]; omega
            have es' := Lib.hid es
            have hgt : decide ((x.natAbs : Int) ≤ 9223372036854775808) = false := decide_eq_false hle
            clear es hx0
            go_wp2_with fail
            go_ret2
            exact ⟨hfin'.out _ _ (fun h => by cases h) (fun _ => rfl) es'.out, hb2'.out⟩

end Go.Proofs.YtaepelipkkmeaaaGreat
namespace Go.Proofs.YtaepelipkkmeaaaGreat

open Go.RowKit Num

attribute [local go_sem ↓] Go.wp_at_zero Go.wp_at_succ

/-- The greater, the less. -/
def maxR (c P : Int) (Q : Nat) (R : Int) (S : Nat) : Int × Nat × Int := if 0 < c then (P, Q, 0) else (R, S, 0)

def minR (c P : Int) (Q : Nat) (R : Int) (S : Nat) : Int × Nat × Int := if c < 0 then (P, Q, 0) else (R, S, 0)

def truthZ (b : Bool) : Int := if b then 1 else 0

end Go.Proofs.YtaepelipkkmeaaaGreat
namespace Go.Proofs.YtaepelipkkmeaaaGreat

open Go.RowKit Num

attribute [local go_sem ↓] Go.wp_at_zero Go.wp_at_succ

/-- A number as an int, and true; 0 and false. -/
def smallQ (P : Int) (Q : Nat) : Bool := decide (Q = 1) && isSmall P

def smallP (P : Int) (Q : Nat) : Int := if smallQ P Q then P else 0

def smallR (P : Int) (Q : Nat) : Value := .tuple #[.int .i64 (smallP P Q), .bool (smallQ P Q)]

end Go.Proofs.YtaepelipkkmeaaaGreat
namespace Go.Proofs.YtaepelipkkmeaaaGreat

open Go.RowKit Num

attribute [local go_sem ↓] Go.wp_at_zero Go.wp_at_succ

/-- A power, if the exponent is an int. -/
def powN (P : Int) (Q : Nat) (R : Int) (S : Nat) : Int × Nat × Int := if smallQ R S = true then powRes P Q (smallP R S) else (0, 0, 8)

theorem small_bounds {P : Int} {Q : Nat} : -9223372036854775808 ≤ smallP P Q ∧ smallP P Q ≤ 9223372036854775807 := by
  unfold smallP
  cases h : smallQ P Q with
  | false => rw [if_neg (by decide)]; exact ⟨by decide, by decide⟩
  | true =>
    unfold smallQ isSmall at h
    rw [Bool.and_eq_true, decide_eq_true_iff, decide_eq_true_iff] at h
    exact h.2

end Go.Proofs.YtaepelipkkmeaaaGreat
namespace Go.Proofs.YtaepelipkkmeaaaGreat

open Go.RowKit Num

attribute [local go_sem ↓] Go.wp_at_zero Go.wp_at_succ

/-- What a word of two numbers tells: the top, the bottom, the error. -/
def num2R (f P : Int) (Q : Nat) (R : Int) (S : Nat) : Int × Nat × Int :=
  if f = 43 then (mkT (P * S + R * Q) ((Q : Int) * S), mkB (P * S + R * Q) ((Q : Int) * S), mkE (P * S + R * Q) ((Q : Int) * S)) else
  if f = 45 then (mkT (P * S + -R * Q) ((Q : Int) * S), mkB (P * S + -R * Q) ((Q : Int) * S), mkE (P * S + -R * Q) ((Q : Int) * S)) else
  if f = 215 then (mkT (P * R) ((Q : Int) * S), mkB (P * R) ((Q : Int) * S), mkE (P * R) ((Q : Int) * S)) else
  if f = 247 then (mkT (P * S) ((Q : Int) * R), mkB (P * S) ((Q : Int) * R), mkE (P * S) ((Q : Int) * R)) else
  if f = 8968 then maxR (cmpI (P * S) (R * Q)) P Q R S else
  if f = 8970 then minR (cmpI (P * S) (R * Q)) P Q R S else
  if f = 124 then modRes P Q R S else
  if f = 42 then powN P Q R S else
  if f = 60 then (truthZ (decide ((cmpI (P * S) (R * Q)) < 0)), 1, 0) else
  if f = 8804 then (truthZ (decide ((cmpI (P * S) (R * Q)) ≤ 0)), 1, 0) else
  if f = 61 then (truthZ ((cmpI (P * S) (R * Q)) == 0), 1, 0) else
  if f = 8805 then (truthZ (decide (0 ≤ (cmpI (P * S) (R * Q)))), 1, 0) else
  if f = 62 then (truthZ (decide (0 < (cmpI (P * S) (R * Q)))), 1, 0) else
  if f = 8800 then (truthZ ((cmpI (P * S) (R * Q)) != 0), 1, 0) else
  if f = 8743 then lcmRes P Q R S else
  if f = 8744 then gcdRes P Q R S else
  (0, 0, 8)

end Go.Proofs.YtaepelipkkmeaaaGreat
namespace Go.Proofs.YtaepelipkkmeaaaGreat

open Go.RowKit

/-- n ints behind an address. -/
def SlZ (w : World) (ao : Option Addr) (n : Nat) (f : Nat → Int) : Prop :=
  n = 0 ∨ ∃ b off, ao = some ⟨b, off, none⟩ ∧ ∀ j, j < n → w.cell? ⟨b, off + j, none⟩ = some (.int .i64 (f j))

theorem SlZ.below {w w' : World} {ao : Option Addr} {n : Nat} {f : Nat → Int} (h : SlZ w ao n f) (hb : Below w.heap.size w w') : SlZ w' ao n f := by
  rcases h with h | ⟨b, off, rfl, h⟩
  · exact .inl h
  · exact .inr ⟨b, off, rfl, fun j hj => (hb.cell (World.block_lt_of_cell? w _ (h j hj))).trans (h j hj)⟩

def intOfZ : Value → Int
  | .int _ i => i
  | _ => 0

/-- Two rows of numbers are the same. -/
def SameZ (n m : Nat) (f g : Nat → Int) : Prop := n = m ∧ ∀ j, j < n → f j = g j

end Go.Proofs.YtaepelipkkmeaaaGreat
namespace Go.Proofs.YtaepelipkkmeaaaGreat

open Go.RowKit

/-- The product of the first lengths. -/
def prodZ (f : Nat → Int) : Nat → Int
  | 0 => 1
  | n + 1 => prodZ f n * f n

theorem prodZ_pos {f : Nat → Int} : ∀ n, (∀ j, j < n → 1 ≤ f j) → 1 ≤ prodZ f n
  | 0, _ => by show (1 : Int) ≤ 1; decide
  | n + 1, h => by
    have a := prodZ_pos n fun j hj => h j (by omega)
    have b := h n (by omega)
    show 1 ≤ prodZ f n * f n
    have := Int.mul_le_mul a b (by decide) (by omega)
    omega

theorem prodZ_congr {f g : Nat → Int} : ∀ n, (∀ j, j < n → f j = g j) → prodZ f n = prodZ g n
  | 0, _ => rfl
  | n + 1, h => by
    show prodZ f n * f n = prodZ g n * g n
    rw [prodZ_congr n fun j hj => h j (by omega), h n (by omega)]

/-- A shape of which Count tells no error. -/
structure Shape (f : Nat → Int) (n : Nat) (N : Int) : Prop where
  rank : n ≤ 6
  low : ∀ j, j < n → 0 ≤ f j
  high : ∀ j, j < n → f j ≤ 2048
  all : N = prodZ f n
  most : N ≤ 2048

set_option maxRecDepth 20000 in
set_option maxHeartbeats 1000000 in
theorem ints7_any (ao bo : Option Addr) (n nc m mc : Nat) (f g : Nat → Int) (w : World) (hn : n ≤ 9223372036854775807) (hf : SlZ w ao n f) (hg : SlZ w bo m g) :
    Calls Tryz.prog 33 #[.slice ao n nc, .slice bo m mc] w fun e w' => (e = .returned (.bool true) ∧ SameZ n m f g ∨ e = .returned (.bool false) ∧ ¬ SameZ n m f g) ∧ Below w.heap.size w w' := by
  by_cases hnm : n = m
  · subst hnm
    go_enter Tryz.func33, Tryz.ntmps33
    go_wp2_with fail
    go_loopw [5] (fun i wr => ∃ j : Nat, j ≤ n ∧ i = .int .i64 j ∧ Hid (∀ t, t < j → f t = g t) ∧ ∃ q, wr = w.drewN q) (fun i _ => n - (intOfZ i).toNat)
    case atStart => exact ⟨0, Nat.zero_le _, rfl, Lib.hid fun t h => by omega, 0, rfl⟩
    case round =>
      obtain ⟨j, hj, rfl, hd, q, rfl⟩ := hrel
      by_cases hlt : j < n
      · rcases hf with h | ⟨b, off, rfl, hc⟩
        · omega
        rcases hg with h | ⟨b', off', rfl, hc'⟩
        · omega
        have c1 := hc j hlt
        have c2 := hc' j hlt
        clear hc hc'
        have i0 : (0 : Int) ≤ (j : Int) := by omega
        have i1 : (j : Int) < (n : Int) := by omega
        by_cases he : f j = g j
        · have heb : (f j != g j) = false := by rw [bne_eq_false_iff_eq]; exact he
          have he' := Lib.hid he
          clear he
          go_wp2_with fail
          go_quiet (fail)
          go_wp2_with fail
          go_roundw
          case rel =>
            refine ⟨j + 1, by omega, by go_num, Lib.hid fun t ht => ?_, _, rfl⟩
            by_cases e : t = j
            · rw [e]; exact he'.out
            · exact hd.out t (by omega)
          case measure => simp [intOfZ]; omega
        · have heb : (f j != g j) = true := by rw [bne_iff_ne]; exact he
          have he' := Lib.hid he
          clear he
          go_wp2_with fail
          go_quiet (fail)
          go_wp2_with fail
          go_ret
          exact ⟨.inr ⟨rfl, fun ⟨_, h⟩ => he'.out (h j hlt)⟩, below_drewN (below_drewN (Below.refl _ _) _) _⟩
      · obtain rfl : j = n := by omega
        go_wp2_with fail
        go_ret
        exact ⟨.inl ⟨rfl, rfl, hd.out⟩, below_drewN (Below.refl _ _) _⟩
  · have hnb : ((n : Int) != (m : Int)) = true := by rw [bne_iff_ne]; omega
    have hnm' := Lib.hid hnm
    have hnp : ¬ ((n : Int) = (m : Int)) := by omega
    clear hnm
    go_enter Tryz.func33, Tryz.ntmps33
    go_wp2_with fail
    go_ret
    exact ⟨.inr ⟨rfl, fun ⟨h, _⟩ => hnm'.out h⟩, Below.refl _ _⟩

end Go.Proofs.YtaepelipkkmeaaaGreat
namespace Go.Proofs.YtaepelipkkmeaaaGreat

open Go.RowKit

theorem owns_later {w w' : World} {base size n : Nat} {e : TypeId} {v : Value} {xs : List Value} (h : w.ownsRow base e size v n xs) (hb : Below w.heap.size w w') : w'.ownsRow base e size v n xs :=
  h.kept (row := none) ⟨hb.os, hb.tape, hb.output, hb.size, fun k hk _ => hb.block k hk⟩ (Classical.em _)

def intCells (f : Nat → Int) (n : Nat) : List Value := (List.range n).map fun j => Value.int .i64 (f j)

theorem intCells_length (f : Nat → Int) (n : Nat) : (intCells f n).length = n := by simp [intCells]

theorem intCells_get (f : Nat → Int) (n j : Nat) (h : j < n) : (intCells f n)[j]? = some (.int .i64 (f j)) := by simp [intCells, h]

theorem info64 : (Tryz.prog.info? 3).map (fun i => (i.zero, i.size, i.bytes)) = some (some (.int .i64 0), 1, 8) := by kernel_rfl

/-- A world, told anew by what holds of it. -/
theorem told_wp {P : Program} {c : Code} {Q : Exit → Act → World → Prop} {a : Act} {W : World} (R : World → Prop) (hW : R W) (h : ∀ w', R w' → Code.wp P c Q a w') : Code.wp P c Q a W := h W hW

theorem told_calls {P : Program} {f : FuncId} {args : Array Value} {Q : Ending → World → Prop} {W : World} (R : World → Prop) (hW : R W) (h : ∀ w', R w' → Calls P f args w' Q) : Calls P f args W Q := h W hW

theorem slz_one (w : World) (t : TypeId) (x : Int) : SlZ (w.alloc (.cells #[.int .i64 x] t)) (some ⟨w.heap.size, 0, none⟩) 1 (fun _ => x) := by
  refine .inr ⟨w.heap.size, 0, rfl, fun j hj => ?_⟩
  obtain rfl : j = 0 := by omega
  rw [Nat.zero_add, World.cell?_alloc_new]
  rfl

/-- It answers v, and what lay there lies as it did. -/
def Tell (v : Value) (w : World) (e : Ending) (w' : World) : Prop := e = .returned v ∧ Below w.heap.size w w'

end Go.Proofs.YtaepelipkkmeaaaGreat
namespace Go.Proofs.YtaepelipkkmeaaaGreat

open Go.RowKit Num

/-- A number's fields: its sign, its limbs above and below the stroke. -/
structure NumF where
  neg : Bool
  an : Nat
  fa : Nat → Nat
  am : Nat
  ga : Nat → Nat

/-- An array (a leaf is none): the label S, n lengths sh, m cells; of the i-th cell its label L, its kind K, its character C, its number N, and the k arrays in it. -/
inductive Tree where
  | leaf
  | arr (S : Nat) (n : Nat) (sh : Nat → Int) (m : Nat) (L : Nat → Nat) (K C : Nat → Int) (N : Nat → NumF) (k : Nat → Nat) (sub : Nat → Nat → Tree)

/-- A label. -/
def IsL (x : Nat) : Prop := x < 18446744073709551616

/-- An int. -/
def IsZ (x : Int) : Prop := -9223372036854775808 ≤ x ∧ x ≤ 9223372036854775807

/-- A length and a capacity as they come. -/
def IsN (n nc : Nat) : Prop := n ≤ nc ∧ nc ≤ 9223372036854775807 ∧ n ≤ 140737488355328

/-- A number's three cells. -/
def NumP (w : World) (N : NumF) (c0 c1 c2 : Value) : Prop :=
  c0 = .bool N.neg ∧ (∃ ao ac, c1 = .slice ao N.an ac ∧ IsN N.an ac ∧ Sl w ao N.an N.fa ∧ Lim N.fa N.an) ∧ (∃ bo bc, c2 = .slice bo N.am bc ∧ IsN N.am bc ∧ Sl w bo N.am N.ga ∧ Lim N.ga N.am)

/-- k arrays behind an address: R tells which. -/
def RowP (w : World) (ao : Option Addr) (k : Nat) (R : Nat → Value → Value → Value → Prop) : Prop :=
  k = 0 ∨ ∃ b o, ao = some ⟨b, o, none⟩ ∧ ∀ j, j < k → ∃ d0 d1 d2, w.cell? ⟨b, o + j * 3, none⟩ = some d0 ∧ w.cell? ⟨b, o + j * 3 + 1, none⟩ = some d1 ∧ w.cell? ⟨b, o + j * 3 + 2, none⟩ = some d2 ∧ R j d0 d1 d2

/-- A cell's seven cells of memory. -/
def CellP (w : World) (L : Nat) (K : Int) (N : NumF) (C : Int) (k : Nat) (R : Nat → Value → Value → Value → Prop) (e : Nat → Value) : Prop :=
  e 0 = .int .u64 L ∧ IsL L ∧ e 1 = .int .i64 K ∧ IsZ K ∧ NumP w N (e 2) (e 3) (e 4) ∧ e 5 = .int .i64 C ∧ IsZ C ∧ ∃ ao kc, e 6 = .slice ao k kc ∧ IsN k kc ∧ RowP w ao k R

/-- An array's three cells. -/
def ArrP (w : World) : Tree → Value → Value → Value → Prop
  | .leaf, _, _, _ => False
  | .arr S n sh m L K C N k sub, c0, c1, c2 =>
    c0 = .int .u64 S ∧ IsL S ∧ (∃ ao nc, c1 = .slice ao n nc ∧ IsN n nc ∧ SlZ w ao n sh ∧ ∀ j, j < n → IsZ (sh j)) ∧
    ∃ co mc, c2 = .slice co m mc ∧ IsN m mc ∧ (m = 0 ∨ ∃ b o, co = some ⟨b, o, none⟩ ∧ ∀ i, i < m → ∃ e : Nat → Value, (∀ t, t < 7 → w.cell? ⟨b, o + i * 7 + t, none⟩ = some (e t)) ∧
      CellP w (L i) (K i) (N i) (C i) (k i) (fun j d0 d1 d2 => ArrP w (sub i j) d0 d1 d2) e)

theorem ArrP.leaf {w : World} {c0 c1 c2 : Value} (h : ArrP w .leaf c0 c1 c2) : False := h

theorem NumP.below {w w' : World} {N : NumF} {c0 c1 c2 : Value} (h : NumP w N c0 c1 c2) (hb : Below w.heap.size w w') : NumP w' N c0 c1 c2 := by
  obtain ⟨h0, ⟨ao, ac, h1, h2, h3, h4⟩, ⟨bo, bc, k1, k2, k3, k4⟩⟩ := h
  exact ⟨h0, ⟨ao, ac, h1, h2, h3.below hb, h4⟩, ⟨bo, bc, k1, k2, k3.below hb, k4⟩⟩

theorem cell_below {w w' : World} {a : Addr} {v : Value} (h : w.cell? a = some v) (hb : Below w.heap.size w w') : w'.cell? a = some v := (hb.cell (World.block_lt_of_cell? w _ h)).trans h

theorem RowP.below {w w' : World} {ao : Option Addr} {k : Nat} {R Q : Nat → Value → Value → Value → Prop} (h : RowP w ao k R) (hb : Below w.heap.size w w') (hR : ∀ j d0 d1 d2, j < k → R j d0 d1 d2 → Q j d0 d1 d2) : RowP w' ao k Q := by
  rcases h with h | ⟨b, o, rfl, h⟩
  · exact .inl h
  · refine .inr ⟨b, o, rfl, fun j hj => ?_⟩
    obtain ⟨d0, d1, d2, h0, h1, h2, h3⟩ := h j hj
    exact ⟨d0, d1, d2, cell_below h0 hb, cell_below h1 hb, cell_below h2 hb, hR j d0 d1 d2 hj h3⟩

theorem CellP.below {w w' : World} {L : Nat} {K : Int} {N : NumF} {C : Int} {k : Nat} {R Q : Nat → Value → Value → Value → Prop} {e : Nat → Value} (h : CellP w L K N C k R e) (hb : Below w.heap.size w w') (hR : ∀ j d0 d1 d2, j < k → R j d0 d1 d2 → Q j d0 d1 d2) : CellP w' L K N C k Q e := by
  obtain ⟨h0, h1, h2, h3, h4, h5, h6, ao, kc, h7, h8, h9⟩ := h
  exact ⟨h0, h1, h2, h3, h4.below hb, h5, h6, ao, kc, h7, h8, h9.below hb hR⟩

theorem ArrP.below {w w' : World} : ∀ (A : Tree) (c0 c1 c2 : Value), ArrP w A c0 c1 c2 → Below w.heap.size w w' → ArrP w' A c0 c1 c2 := by
  intro A
  induction A with
  | leaf => intros; exact (ArrP.leaf ‹ArrP _ Tree.leaf _ _ _›).elim
  | arr S n sh m L K C N k sub ih =>
    intro c0 c1 c2 h hb
    obtain ⟨h0, h1, ⟨ao, nc, h2, h3, h4, h5⟩, co, mc, h6, h7, h8⟩ := h
    refine ⟨h0, h1, ⟨ao, nc, h2, h3, h4.below hb, h5⟩, co, mc, h6, h7, ?_⟩
    rcases h8 with h8 | ⟨b, o, rfl, h8⟩
    · exact .inl h8
    · refine .inr ⟨b, o, rfl, fun i hi => ?_⟩
      obtain ⟨e, h9, h10⟩ := h8 i hi
      exact ⟨e, fun t ht => cell_below (h9 t ht) hb, h10.below hb fun j d0 d1 d2 _ hd => ih i j d0 d1 d2 hd hb⟩

end Go.Proofs.YtaepelipkkmeaaaGreat
namespace Go.Proofs.YtaepelipkkmeaaaGreat

open Go.RowKit

/-- The join of two labels. -/
def orL (a b : Nat) : Nat := a ||| b

theorem orL_is {a b : Nat} (ha : IsL a) (hb : IsL b) : IsL (orL a b) := Nat.or_lt_two_pow (n := 64) ha hb

end Go.Proofs.YtaepelipkkmeaaaGreat
namespace Go.Proofs.YtaepelipkkmeaaaGreat

open Go.RowKit

/-- One cell without axes that is no box. -/
def simpleT : Tree → Bool
  | .leaf => false
  | .arr _ n _ m _ K _ _ _ _ => decide (n = 0) && decide (m = 1) && !decide (K 0 = 2)

/-- Is a number's field empty? -/
def zeroF (N : NumF) : Bool := !N.neg && decide (N.an = 0) && decide (N.am = 0)

end Go.Proofs.YtaepelipkkmeaaaGreat
namespace Go.Proofs.YtaepelipkkmeaaaGreat

open Go.RowKit

def sumN (f : Nat → Nat) : Nat → Nat
  | 0 => 0
  | n + 1 => sumN f n + f n

/-- How many parts an array has. -/
def partsT : Tree → Nat
  | .leaf => 1
  | .arr _ n _ m _ _ _ N k sub => 1 + n + sumN (fun i => 1 + (N i).an + (N i).am + sumN (fun j => partsT (sub i j)) (k i)) m

/-- No more than d arrays are within one another. -/
def NestT : Tree → Nat → Prop
  | .leaf, _ => False
  | .arr _ _ _ _ _ _ _ _ _ _, 0 => False
  | .arr _ _ _ m _ _ _ _ k sub, d + 1 => ∀ i, i < m → ∀ j, j < k i → NestT (sub i j) d

/-- What is left of n parts behind an array. -/
def LeftIs (A : Tree) (d : Nat) (n r : Int) : Prop := r ≤ n ∧ IsZ r ∧ (0 ≤ r → (partsT A : Int) = n - r ∧ NestT A d)

set_option maxRecDepth 20000 in
set_option maxHeartbeats 4000000 in
theorem left8_any : ∀ (A : Tree) (d : Nat) (n : Int) (c0 c1 c2 : Value) (w : World), ArrP w A c0 c1 c2 → d ≤ 12 → 0 ≤ n → n ≤ 4000 →
    Calls Tryz.prog 92 #[.agg #[c0, c1, c2], .int .i64 d, .int .i64 n] w fun e w' => (∃ r : Int, e = .returned (.int .i64 r) ∧ LeftIs A d n r) ∧ Below w.heap.size w w' := by
  intro A
  induction A with
  | leaf => intros; exact (ArrP.leaf ‹ArrP _ Tree.leaf _ _ _›).elim
  | arr S p sh m L K C N k sub ih =>
    intro d n c0 c1 c2 w h hd hn0 hn1
    obtain ⟨rfl, _, ⟨ao, nc, rfl, hp, _⟩, co, mc, rfl, hm, hc⟩ := h
    have hp1 := hp.1; have hp2 := hp.2.1; have hp3 := hp.2.2; have hm1 := hm.1; have hm2 := hm.2.1; have hm3 := hm.2.2
    have hbox := Box3.new (.int .u64 S) (.slice ao p nc) (.slice co m mc) 45 (show w.heap.size = w.heap.size from rfl)
    have hbel := (Below.refl w.heap.size w).alloc (Nat.le_refl _) (.cells #[.int .u64 S, .slice ao p nc, .slice co m mc] 45)
    go_enter Tryz.func92, Tryz.ntmps92
    by_cases hd00 : d = 0
    · subst hd00
      go_wp2_with fail
      go_ret
      exact ⟨⟨-1, rfl, by omega, ⟨by omega, by omega⟩, fun h => by omega⟩, hbel⟩
    · obtain ⟨d', hd'⟩ : ∃ d', d = d' + 1 := ⟨d - 1, by omega⟩
      have hD := Lib.hid hd'
      have hDd := Lib.hid (show (d : Int) - 1 = (d' : Int) by omega)
      have hdl : d' ≤ 12 := by omega
      have hd0 : ((d : Int) == 0) = false := by rw [beq_eq_false_iff_ne]; omega
      clear hd' hd00
      have hc' := Lib.hid hc
      clear hc
      go_wp2_with fail
      go_loopw [2, 7] (fun q i wr => ∃ (t : Nat) (r : Int), t ≤ m ∧ i = .int .i64 t ∧ q = .int .i64 r ∧ r ≤ n ∧ IsZ r ∧ Hid (0 ≤ r → ((1 + p + sumN (fun i => 1 + (N i).an + (N i).am + sumN (fun j => partsT (sub i j)) (k i)) t : Nat) : Int) = n - r ∧ ∀ x, x < t → ∀ j, j < k x → NestT (sub x j) d') ∧ Hid (Box3 wr w.heap.size (.int .u64 S) (.slice ao p nc) (.slice co m mc)) ∧ Hid (Below w.heap.size w wr)) (fun _ i _ => m - (intOfZ i).toNat)
      case atStart =>
        refine ⟨0, n - 1 - p, Nat.zero_le _, rfl, by rfl, by omega, ⟨by omega, by omega⟩, Lib.hid fun h => ⟨by show ((1 + p + 0 : Nat) : Int) = _; omega, fun x hx => by omega⟩, Lib.hid hbox, Lib.hid hbel⟩
      case round =>
        obtain ⟨t, r, ht, rfl, rfl, hrn, hrz, hsum, hbx, hbr⟩ := hrel
        clear hbox hbel
        by_cases hr0 : 0 ≤ r
        · by_cases hlt : t < m
          · rcases hc'.out with h0 | ⟨b, o, rfl, hcells⟩
            · omega
            obtain ⟨e, he, q0, q1, q2, q3, ⟨q4, ⟨a1, ac, q5, q6, _⟩, ⟨b1, bc, q7, q8, _⟩⟩, q9, q10, io, kc, q11, q12, q13⟩ := hcells t hlt
            have an1 := q6.1; have an2 := q6.2.1; have an3 := q6.2.2; have am1 := q8.1; have am2 := q8.2.1; have am3 := q8.2.2; have kk1 := q12.1; have kk2 := q12.2.1
            have x3 := he 3 (by decide); have x4 := he 4 (by decide); have x6 := he 6 (by decide)
            rw [q5] at x3; rw [q7] at x4; rw [q11] at x6
            have y3 := cell_below x3 hbr.out; have y4 := cell_below x4 hbr.out; have y6 := cell_below x6 hbr.out
            have z2 := hbx.out.c2
            have hrow := Lib.hid q13
            have hg := Lib.hid x6
            obtain ⟨kt, hkt⟩ : ∃ kt, kt = k t := ⟨_, rfl⟩
            obtain ⟨an, han⟩ : ∃ an, an = (N t).an := ⟨_, rfl⟩
            obtain ⟨am, ham⟩ : ∃ am, am = (N t).am := ⟨_, rfl⟩
            rw [← hkt] at y6 kk1 hrow hg
            rw [← han] at y3 an1 an3
            rw [← ham] at y4 am1 am3
            have hkt' := Lib.hid hkt; have han' := Lib.hid han; have ham' := Lib.hid ham
            have hz1 := hrz.1; have hz2 := hrz.2
            clear hcells he q0 q1 q2 q3 q4 q5 q6 q7 q8 q9 q10 q11 q12 q13 x3 x4 x6 hkt han ham hrz
            go_wp2_with fail
            go_quiet (fail)
            have hbr2 := Lib.hid (below_drewN hbr.out nq)
            have hbx2 := Lib.hid (hbx.out.later (below_drewN (Below.refl _ _) nq))
            have hS0 := Lib.hid (hsum.out hr0)
            clear hbr hbx hsum y3 y4 y6 z2
            go_wp2_with fail
            go_loopw [2, 8] (fun q j wi => ∃ (u : Nat) (v : Int), u ≤ kt ∧ j = .int .i64 u ∧ q = .int .i64 v ∧ v ≤ n ∧ IsZ v ∧ Hid (0 ≤ v → ((1 + p + sumN (fun i => 1 + (N i).an + (N i).am + sumN (fun j => partsT (sub i j)) (k i)) t + (1 + an + am + sumN (fun j => partsT (sub t j)) u) : Nat) : Int) = n - v ∧ ∀ j, j < u → NestT (sub t j) d') ∧ Hid (Box3 wi w.heap.size (.int .u64 S) (.slice ao p nc) (.slice (some ⟨b, o, none⟩) m mc)) ∧ Hid (Below w.heap.size w wi)) (fun _ j _ => kt - (intOfZ j).toNat)
            case atStart =>
              refine ⟨0, r - 1 - an - am, Nat.zero_le _, rfl, by rfl, by omega, ⟨by omega, by omega⟩, Lib.hid fun h => ⟨?_, fun j hj => by omega⟩, hbx2, hbr2⟩
              have := hS0.out.1
              show ((1 + p + sumN (fun i => 1 + (N i).an + (N i).am + sumN (fun j => partsT (sub i j)) (k i)) t + (1 + an + am + 0) : Nat) : Int) = _
              omega
            case round =>
              obtain ⟨u, v, hu, rfl, rfl, hvn, hvz, hvs, hbx3, hbr3⟩ := hrel
              clear hbx2 hbr2
              have z3 := hbx3.out.c2
              have y7 := cell_below hg.out hbr3.out
              by_cases hv0 : 0 ≤ v
              · by_cases hul : u < kt
                · rcases hrow.out with h0 | ⟨b', o', rfl, hrows⟩
                  · omega
                  obtain ⟨d0, d1, d2, r0, r1, r2, r3⟩ := hrows u hul
                  have s0 := cell_below r0 hbr3.out; have s1 := cell_below r1 hbr3.out; have s2 := cell_below r2 hbr3.out
                  have hA := Lib.hid (ArrP.below _ _ _ _ r3 hbr3.out)
                  clear hrows r0 r1 r2 r3
                  go_wp2_with fail
                  rw [hDd.out]
                  refine (ih t u d' v d0 d1 d2 wr hA.out hdl hv0 (by omega)).mono ?_
                  rintro e2 w2 ⟨⟨v2, rfl, g1, g2, g3⟩, hb2⟩
                  have hbr4 := Lib.hid (hbr3.out.trans (hb2.mono hbr3.out.size))
                  have hbx4 := Lib.hid (hbx3.out.later hb2)
                  have hnew := Lib.hid g3
                  clear hb2 g3 s0 s1 s2 z3 y7
                  go_wp2_with fail
                  go_roundw
                  case rel =>
                    refine ⟨u + 1, v2, by omega, by go_num, rfl, by omega, g2, Lib.hid fun h => ⟨?_, fun j hj => ?_⟩, hbx4, hbr4⟩
                    · have k1 := (hvs.out hv0).1; have k2 := (hnew.out h).1
                      show ((1 + p + sumN (fun i => 1 + (N i).an + (N i).am + sumN (fun j => partsT (sub i j)) (k i)) t + (1 + an + am + (sumN (fun j => partsT (sub t j)) u + partsT (sub t u))) : Nat) : Int) = _
                      omega
                    · by_cases e3 : j = u
                      · rw [e3]; exact (hnew.out h).2
                      · exact (hvs.out hv0).2 j (by omega)
                  case measure => simp [intOfZ]; omega
                · obtain rfl : u = kt := by omega
                  go_wp2_with fail
                  go_roundw
                  case rel =>
                    refine ⟨t + 1, v, by omega, by go_num, rfl, hvn, hvz, Lib.hid fun h => ⟨?_, fun x hx j hj => ?_⟩, hbx3, hbr3⟩
                    · have k1 := (hvs.out hv0).1
                      show ((1 + p + (sumN (fun i => 1 + (N i).an + (N i).am + sumN (fun j => partsT (sub i j)) (k i)) t + (1 + (N t).an + (N t).am + sumN (fun j => partsT (sub t j)) (k t))) : Nat) : Int) = _
                      rw [← han'.out, ← ham'.out, ← hkt'.out]
                      omega
                    · by_cases e3 : x = t
                      · subst e3; exact (hvs.out hv0).2 j (by rw [hkt'.out]; exact hj)
                      · exact hS0.out.2 x (by omega) j hj
                  case measure => simp [intOfZ]; omega
              · have hv1 := Lib.hid hv0
                by_cases hul : u < kt
                all_goals
                  go_wp2_with fail
                  go_roundw
                  case rel => exact ⟨t + 1, v, by omega, by go_num, rfl, hvn, hvz, Lib.hid fun h => absurd h hv1.out, hbx3, hbr3⟩
                  case measure => simp [intOfZ]; omega
          · obtain rfl : t = m := by omega
            have z2 := hbx.out.c2
            go_wp2_with fail
            go_ret
            exact ⟨⟨r, rfl, hrn, hrz, fun h => ⟨(hsum.out h).1, by rw [hD.out]; exact (hsum.out h).2⟩⟩, hbr.out⟩
        · have z2 := hbx.out.c2
          by_cases hlt : t < m
          all_goals
            go_wp2_with fail
            go_ret
            exact ⟨⟨r, rfl, hrn, hrz, fun h => by omega⟩, hbr.out⟩

/-- What Few says of an array. -/
def FewT (A : Tree) : Prop := partsT A ≤ 4000 ∧ NestT A 12

set_option maxRecDepth 20000 in
set_option maxHeartbeats 1000000 in
theorem few8_any (A : Tree) (c0 c1 c2 : Value) (w : World) (h : ArrP w A c0 c1 c2) :
    Calls Tryz.prog 34 #[.agg #[c0, c1, c2]] w fun e w' => (∃ r, e = .returned (.bool r) ∧ (r = true → FewT A)) ∧ Below w.heap.size w w' := by
  have hbox := Box3.new c0 c1 c2 45 (show w.heap.size = w.heap.size from rfl)
  have hbel := Lib.hid ((Below.refl w.heap.size w).alloc (Nat.le_refl _) (.cells #[c0, c1, c2] 45))
  have hA := Lib.hid (ArrP.below _ _ _ _ h ((Below.refl w.heap.size w).alloc (Nat.le_refl _) (.cells #[c0, c1, c2] 45)))
  have z0 := hbox.c0; have z1 := hbox.c1; have z2 := hbox.c2
  clear h hbox
  go_enter Tryz.func34, Tryz.ntmps34
  go_wp2_with fail
  refine (left8_any A 12 4000 c0 c1 c2 _ hA.out (by decide) (by decide) (by decide)).mono ?_
  rintro e w1 ⟨⟨r, rfl, h1, h2, h3⟩, hb⟩
  have b1 := Lib.hid (hbel.out.trans (hb.mono hbel.out.size))
  have h3' := Lib.hid h3
  clear hb h3 z0 z1 z2
  go_wp2_with fail
  go_ret
  refine ⟨⟨_, rfl, fun h => ?_⟩, b1.out⟩
  have h0 : 0 ≤ r := by simpa using h
  have := (h3'.out h0).1
  exact ⟨by omega, (h3'.out h0).2⟩

end Go.Proofs.YtaepelipkkmeaaaGreat
namespace Go.Proofs.YtaepelipkkmeaaaGreat

open Go.RowKit

theorem sumN_mono (f : Nat → Nat) {m : Nat} : ∀ n, m ≤ n → sumN f m ≤ sumN f n
  | 0, h => by obtain rfl : m = 0 := by omega
               exact Nat.le_refl _
  | n + 1, h => by
    by_cases e : m = n + 1
    · subst e; exact Nat.le_refl _
    · have := sumN_mono f n (show m ≤ n by omega)
      show sumN f m ≤ sumN f n + f n
      omega

theorem sumN_le {f g : Nat → Nat} : ∀ n, (∀ i, i < n → f i ≤ g i) → sumN f n ≤ sumN g n
  | 0, _ => Nat.le_refl _
  | n + 1, h => by
    have a := sumN_le n fun i hi => h i (by omega)
    have b := h n (by omega)
    show sumN f n + f n ≤ sumN g n + g n
    omega

theorem sumN_one (f : Nat → Nat) {i n : Nat} (h : i < n) : f i ≤ sumN f n := by
  have := sumN_mono f n (show i + 1 ≤ n by omega)
  have e : sumN f (i + 1) = sumN f i + f i := rfl
  omega

theorem sumN_const (c : Nat) : ∀ n, sumN (fun _ => c) n = c * n
  | 0 => rfl
  | n + 1 => by show sumN (fun _ => c) n + c = _; rw [sumN_const c n, Nat.mul_succ]

/-- .. and an array has no more lengths, cells, or arrays in a cell. -/
theorem parts_here {S n m : Nat} {sh : Nat → Int} {L : Nat → Nat} {K C : Nat → Int} {N : Nat → NumF} {k : Nat → Nat} {sub : Nat → Nat → Tree} : n + m + 1 ≤ partsT (.arr S n sh m L K C N k sub) := by
  have a := sumN_le (f := fun _ => 1) (g := fun i => 1 + (N i).an + (N i).am + sumN (fun j => partsT (sub i j)) (k i)) m fun i _ => by show 1 ≤ 1 + (N i).an + (N i).am + sumN (fun j => partsT (sub i j)) (k i); omega
  rw [sumN_const] at a
  show n + m + 1 ≤ 1 + n + sumN (fun i => 1 + (N i).an + (N i).am + sumN (fun j => partsT (sub i j)) (k i)) m
  omega

end Go.Proofs.YtaepelipkkmeaaaGreat
namespace Go.Proofs.YtaepelipkkmeaaaGreat

open Go.RowKit

/-- Seven cells of a new block. -/
structure Box7 (w : World) (B : Nat) (v0 v1 v2 v3 v4 v5 v6 : Value) : Prop where
  c0 : w.cell? ⟨B, 0, none⟩ = some v0
  c1 : w.cell? ⟨B, 1, none⟩ = some v1
  c2 : w.cell? ⟨B, 2, none⟩ = some v2
  c3 : w.cell? ⟨B, 3, none⟩ = some v3
  c4 : w.cell? ⟨B, 4, none⟩ = some v4
  c5 : w.cell? ⟨B, 5, none⟩ = some v5
  c6 : w.cell? ⟨B, 6, none⟩ = some v6
  fr : ∀ j, w.frozen? ⟨B, j, none⟩ = false

theorem Box7.lt {w : World} {B : Nat} {v0 v1 v2 v3 v4 v5 v6 : Value} (h : Box7 w B v0 v1 v2 v3 v4 v5 v6) : B < w.heap.size := World.block_lt_of_cell? w _ h.c0

theorem Box7.new {w : World} {B : Nat} (v0 v1 v2 v3 v4 v5 v6 : Value) (t : TypeId) (h : B = w.heap.size) : Box7 (w.alloc (.cells #[v0, v1, v2, v3, v4, v5, v6] t)) B v0 v1 v2 v3 v4 v5 v6 := by
  subst h
  exact ⟨by simp, by simp, by simp, by simp, by simp, by simp, by simp, fun j => by
    have hh := heap_alloc_new w (.cells #[v0, v1, v2, v3, v4, v5, v6] t)
    exact frozen_of_row _ _ j _ _ hh⟩

theorem Box7.below {w w' : World} {B C : Nat} {v0 v1 v2 v3 v4 v5 v6 : Value} (h : Box7 w B v0 v1 v2 v3 v4 v5 v6) (hb : Below C w w') (hC : B < C) : Box7 w' B v0 v1 v2 v3 v4 v5 v6 :=
  ⟨(hb.cell hC).trans h.c0, (hb.cell hC).trans h.c1, (hb.cell hC).trans h.c2, (hb.cell hC).trans h.c3, (hb.cell hC).trans h.c4, (hb.cell hC).trans h.c5, (hb.cell hC).trans h.c6, fun j => (hb.frozen hC).trans (h.fr j)⟩

theorem Box7.later {w w' : World} {B : Nat} {v0 v1 v2 v3 v4 v5 v6 : Value} (h : Box7 w B v0 v1 v2 v3 v4 v5 v6) (hb : Below w.heap.size w w') : Box7 w' B v0 v1 v2 v3 v4 v5 v6 := h.below hb h.lt

theorem Box7.alloc {w : World} {B : Nat} {v0 v1 v2 v3 v4 v5 v6 : Value} (h : Box7 w B v0 v1 v2 v3 v4 v5 v6) (o : Obj) : Box7 (w.alloc o) B v0 v1 v2 v3 v4 v5 v6 := h.later ((Below.refl _ w).alloc (Nat.le_refl _) o)

theorem Box7.drew {w : World} {B : Nat} {v0 v1 v2 v3 v4 v5 v6 : Value} (h : Box7 w B v0 v1 v2 v3 v4 v5 v6) : Box7 w.drew B v0 v1 v2 v3 v4 v5 v6 := ⟨h.c0, h.c1, h.c2, h.c3, h.c4, h.c5, h.c6, h.fr⟩

/-- It answers whether P. -/
def BoolPost (P : Prop) (w : World) (e : Ending) (w' : World) : Prop := ∃ r, e = .returned (.bool r) ∧ (r = true ↔ P) ∧ Below w.heap.size w w'

/-- Two numbers' fields are the same. -/
def SameF (N M : NumF) : Prop := N.neg = M.neg ∧ (N.an = M.an ∧ ∀ j, j < N.an → N.fa j = M.fa j) ∧ (N.am = M.am ∧ ∀ j, j < N.am → N.ga j = M.ga j)

/-- Two cells are the same: P tells it of the arrays in them. -/
def SameC (L : Nat) (K : Int) (N : NumF) (C : Int) (k : Nat) (L' : Nat) (K' : Int) (N' : NumF) (C' : Int) (k' : Nat) (P : Nat → Prop) : Prop :=
  L = L' ∧ K = K' ∧ C = C' ∧ SameF N N' ∧ k = k' ∧ ∀ j, j < k → P j

end Go.Proofs.YtaepelipkkmeaaaGreat
namespace Go.Proofs.YtaepelipkkmeaaaGreat

open Go.RowKit

theorem Box3.aside {w : World} {B D : Nat} {v0 v1 v2 : Value} (h : Box3 w B v0 v1 v2) (hne : B ≠ D) (t : Nat) (u : Value) : Box3 (w.setCell ⟨D, t, none⟩ u) B v0 v1 v2 := by
  have ne : ∀ j, (⟨B, j, none⟩ : Addr) ≠ ⟨D, t, none⟩ := fun j e => hne (by injection e)
  refine ⟨?_, ?_, ?_, fun j => by rw [World.frozen?_setCell]; exact h.fr j⟩
  · rw [cell_set_ne (ne _)]; exact h.c0
  · rw [cell_set_ne (ne _)]; exact h.c1
  · rw [cell_set_ne (ne _)]; exact h.c2

end Go.Proofs.YtaepelipkkmeaaaGreat
namespace Go.Proofs.YtaepelipkkmeaaaGreat

open Go.RowKit Num

def SlQ (w : World) (Q : Nat → Prop) (ao : Option Addr) (n : Nat) (f : Nat → Nat) : Prop :=
  n = 0 ∨ ∃ b off, ao = some ⟨b, off, none⟩ ∧ Q b ∧ ∀ j, j < n → w.cell? ⟨b, off + j, none⟩ = some (.int .u32 (f j))

def SlZQ (w : World) (Q : Nat → Prop) (ao : Option Addr) (n : Nat) (f : Nat → Int) : Prop :=
  n = 0 ∨ ∃ b off, ao = some ⟨b, off, none⟩ ∧ Q b ∧ ∀ j, j < n → w.cell? ⟨b, off + j, none⟩ = some (.int .i64 (f j))

def NumQ (w : World) (Q : Nat → Prop) (N : NumF) (c0 c1 c2 : Value) : Prop :=
  c0 = .bool N.neg ∧ (∃ ao ac, c1 = .slice ao N.an ac ∧ IsN N.an ac ∧ SlQ w Q ao N.an N.fa ∧ Lim N.fa N.an) ∧ (∃ bo bc, c2 = .slice bo N.am bc ∧ IsN N.am bc ∧ SlQ w Q bo N.am N.ga ∧ Lim N.ga N.am)

def RowQ (w : World) (Q : Nat → Prop) (ao : Option Addr) (k : Nat) (R : Nat → Value → Value → Value → Prop) : Prop :=
  k = 0 ∨ ∃ b o, ao = some ⟨b, o, none⟩ ∧ Q b ∧ ∀ j, j < k → ∃ d0 d1 d2, w.cell? ⟨b, o + j * 3, none⟩ = some d0 ∧ w.cell? ⟨b, o + j * 3 + 1, none⟩ = some d1 ∧ w.cell? ⟨b, o + j * 3 + 2, none⟩ = some d2 ∧ R j d0 d1 d2

def CellQ (w : World) (Q : Nat → Prop) (L : Nat) (K : Int) (N : NumF) (C : Int) (k : Nat) (R : Nat → Value → Value → Value → Prop) (e : Nat → Value) : Prop :=
  e 0 = .int .u64 L ∧ IsL L ∧ e 1 = .int .i64 K ∧ IsZ K ∧ NumQ w Q N (e 2) (e 3) (e 4) ∧ e 5 = .int .i64 C ∧ IsZ C ∧ ∃ ao kc, e 6 = .slice ao k kc ∧ IsN k kc ∧ RowQ w Q ao k R

/-- As ArrP, and all of it in blocks of which Q holds. -/
def ArrQ (w : World) (Q : Nat → Prop) : Tree → Value → Value → Value → Prop
  | .leaf, _, _, _ => False
  | .arr S n sh m L K C N k sub, c0, c1, c2 =>
    c0 = .int .u64 S ∧ IsL S ∧ (∃ ao nc, c1 = .slice ao n nc ∧ IsN n nc ∧ SlZQ w Q ao n sh ∧ ∀ j, j < n → IsZ (sh j)) ∧
    ∃ co mc, c2 = .slice co m mc ∧ IsN m mc ∧ (m = 0 ∨ ∃ b o, co = some ⟨b, o, none⟩ ∧ Q b ∧ ∀ i, i < m → ∃ e : Nat → Value, (∀ t, t < 7 → w.cell? ⟨b, o + i * 7 + t, none⟩ = some (e t)) ∧
      CellQ w Q (L i) (K i) (N i) (C i) (k i) (fun j d0 d1 d2 => ArrQ w Q (sub i j) d0 d1 d2) e)

theorem cell_kept {w w' : World} {b o : Nat} {v : Value} (h : w.cell? ⟨b, o, none⟩ = some v) (e : w'.heap[b]? = w.heap[b]?) : w'.cell? ⟨b, o, none⟩ = some v := (World.cell?_of_block (a := ⟨b, o, none⟩) e).trans h

theorem SlQ.keep {w w' : World} {Q Q' : Nat → Prop} {ao : Option Addr} {n : Nat} {f : Nat → Nat} (h : SlQ w Q ao n f) (hk : ∀ b, Q b → b < w.heap.size → w'.heap[b]? = w.heap[b]?) (hq : ∀ b, Q b → b < w.heap.size → Q' b) : SlQ w' Q' ao n f := by
  by_cases h0 : n = 0
  · exact .inl h0
  rcases h with h | ⟨b, o, rfl, h1, h2⟩
  · exact .inl h
  · have hb := World.block_lt_of_cell? w _ (h2 0 (by omega))
    exact .inr ⟨b, o, rfl, hq b h1 hb, fun j hj => cell_kept (h2 j hj) (hk b h1 hb)⟩

theorem SlZQ.keep {w w' : World} {Q Q' : Nat → Prop} {ao : Option Addr} {n : Nat} {f : Nat → Int} (h : SlZQ w Q ao n f) (hk : ∀ b, Q b → b < w.heap.size → w'.heap[b]? = w.heap[b]?) (hq : ∀ b, Q b → b < w.heap.size → Q' b) : SlZQ w' Q' ao n f := by
  by_cases h0 : n = 0
  · exact .inl h0
  rcases h with h | ⟨b, o, rfl, h1, h2⟩
  · exact .inl h
  · have hb := World.block_lt_of_cell? w _ (h2 0 (by omega))
    exact .inr ⟨b, o, rfl, hq b h1 hb, fun j hj => cell_kept (h2 j hj) (hk b h1 hb)⟩

theorem NumQ.keep {w w' : World} {Q Q' : Nat → Prop} {N : NumF} {c0 c1 c2 : Value} (h : NumQ w Q N c0 c1 c2) (hk : ∀ b, Q b → b < w.heap.size → w'.heap[b]? = w.heap[b]?) (hq : ∀ b, Q b → b < w.heap.size → Q' b) : NumQ w' Q' N c0 c1 c2 := by
  obtain ⟨h0, ⟨ao, ac, h1, h2, h3, h4⟩, ⟨bo, bc, k1, k2, k3, k4⟩⟩ := h
  exact ⟨h0, ⟨ao, ac, h1, h2, h3.keep hk hq, h4⟩, ⟨bo, bc, k1, k2, k3.keep hk hq, k4⟩⟩

theorem RowQ.keep {w w' : World} {Q Q' : Nat → Prop} {ao : Option Addr} {k : Nat} {R R' : Nat → Value → Value → Value → Prop} (h : RowQ w Q ao k R) (hk : ∀ b, Q b → b < w.heap.size → w'.heap[b]? = w.heap[b]?) (hq : ∀ b, Q b → b < w.heap.size → Q' b) (hR : ∀ j d0 d1 d2, R j d0 d1 d2 → R' j d0 d1 d2) : RowQ w' Q' ao k R' := by
  by_cases h0 : k = 0
  · exact .inl h0
  rcases h with h | ⟨b, o, rfl, h1, h2⟩
  · exact .inl h
  · have hb : b < w.heap.size := by
      obtain ⟨d0, d1, d2, e0, _⟩ := h2 0 (by omega)
      exact World.block_lt_of_cell? w _ e0
    refine .inr ⟨b, o, rfl, hq b h1 hb, fun j hj => ?_⟩
    obtain ⟨d0, d1, d2, e0, e1, e2, e3⟩ := h2 j hj
    exact ⟨d0, d1, d2, cell_kept e0 (hk b h1 hb), cell_kept e1 (hk b h1 hb), cell_kept e2 (hk b h1 hb), hR j d0 d1 d2 e3⟩

theorem CellQ.keep {w w' : World} {Q Q' : Nat → Prop} {L : Nat} {K : Int} {N : NumF} {C : Int} {k : Nat} {R R' : Nat → Value → Value → Value → Prop} {e : Nat → Value} (h : CellQ w Q L K N C k R e) (hk : ∀ b, Q b → b < w.heap.size → w'.heap[b]? = w.heap[b]?) (hq : ∀ b, Q b → b < w.heap.size → Q' b) (hR : ∀ j d0 d1 d2, R j d0 d1 d2 → R' j d0 d1 d2) : CellQ w' Q' L K N C k R' e := by
  obtain ⟨h0, h1, h2, h3, h4, h5, h6, ao, kc, h7, h8, h9⟩ := h
  exact ⟨h0, h1, h2, h3, h4.keep hk hq, h5, h6, ao, kc, h7, h8, h9.keep hk hq hR⟩

theorem ArrQ.leaf {w : World} {Q : Nat → Prop} {c0 c1 c2 : Value} (h : ArrQ w Q .leaf c0 c1 c2) : False := h

theorem ArrQ.keep {w w' : World} {Q Q' : Nat → Prop} (hk : ∀ b, Q b → b < w.heap.size → w'.heap[b]? = w.heap[b]?) (hq : ∀ b, Q b → b < w.heap.size → Q' b) : ∀ (A : Tree) (c0 c1 c2 : Value), ArrQ w Q A c0 c1 c2 → ArrQ w' Q' A c0 c1 c2 := by
  intro A
  induction A with
  | leaf => intros; exact (ArrQ.leaf ‹ArrQ _ _ Tree.leaf _ _ _›).elim
  | arr S n sh m L K C N k sub ih =>
    intro c0 c1 c2 h
    obtain ⟨h0, h1, ⟨ao, nc, h2, h3, h4, h5⟩, co, mc, h6, h7, h8⟩ := h
    refine ⟨h0, h1, ⟨ao, nc, h2, h3, h4.keep hk hq, h5⟩, co, mc, h6, h7, ?_⟩
    by_cases h0 : m = 0
    · exact .inl h0
    rcases h8 with h8 | ⟨b, o, rfl, h8, h9⟩
    · exact .inl h8
    · have hb : b < w.heap.size := by
        obtain ⟨e, h10, _⟩ := h9 0 (by omega)
        exact World.block_lt_of_cell? w _ (h10 0 (by decide))
      refine .inr ⟨b, o, rfl, hq b h8 hb, fun i hi => ?_⟩
      obtain ⟨e, h10, h11⟩ := h9 i hi
      exact ⟨e, fun t ht => cell_kept (h10 t ht) (hk b h8 hb), h11.keep hk hq fun j d0 d1 d2 hd => ih i j d0 d1 d2 hd⟩

theorem blk_lt {w : World} {b o : Nat} {v : Value} (h : w.cell? ⟨b, o, none⟩ = some v) : b < w.heap.size := World.block_lt_of_cell? w _ h

theorem Sl.within {w : World} {ao : Option Addr} {n : Nat} {f : Nat → Nat} (h : Sl w ao n f) : SlQ w (· < w.heap.size) ao n f := by
  by_cases h0 : n = 0
  · exact .inl h0
  · rcases h with h | ⟨b, o, rfl, h⟩
    · exact .inl h
    · exact .inr ⟨b, o, rfl, blk_lt (h 0 (by omega)), h⟩

theorem SlZ.within {w : World} {ao : Option Addr} {n : Nat} {f : Nat → Int} (h : SlZ w ao n f) : SlZQ w (· < w.heap.size) ao n f := by
  by_cases h0 : n = 0
  · exact .inl h0
  · rcases h with h | ⟨b, o, rfl, h⟩
    · exact .inl h
    · exact .inr ⟨b, o, rfl, blk_lt (h 0 (by omega)), h⟩

theorem NumP.within {w : World} {N : NumF} {c0 c1 c2 : Value} (h : NumP w N c0 c1 c2) : NumQ w (· < w.heap.size) N c0 c1 c2 := by
  obtain ⟨h0, ⟨ao, ac, h1, h2, h3, h4⟩, ⟨bo, bc, k1, k2, k3, k4⟩⟩ := h
  exact ⟨h0, ⟨ao, ac, h1, h2, h3.within, h4⟩, ⟨bo, bc, k1, k2, k3.within, k4⟩⟩

theorem ArrP.within {w : World} : ∀ (A : Tree) (c0 c1 c2 : Value), ArrP w A c0 c1 c2 → ArrQ w (· < w.heap.size) A c0 c1 c2 := by
  intro A
  induction A with
  | leaf => intros; exact (ArrP.leaf ‹ArrP _ Tree.leaf _ _ _›).elim
  | arr S n sh m L K C N k sub ih =>
    intro c0 c1 c2 h
    obtain ⟨h0, h1, ⟨ao, nc, h2, h3, h4, h5⟩, co, mc, h6, h7, h8⟩ := h
    refine ⟨h0, h1, ⟨ao, nc, h2, h3, h4.within, h5⟩, co, mc, h6, h7, ?_⟩
    by_cases hm0 : m = 0
    · exact .inl hm0
    rcases h8 with h8 | ⟨b, o, rfl, h9⟩
    · exact .inl h8
    · refine .inr ⟨b, o, rfl, ?_, fun i hi => ?_⟩
      · obtain ⟨e, h10, _⟩ := h9 0 (by omega)
        exact blk_lt (h10 0 (by decide))
      · obtain ⟨e, h10, q0, q1, q2, q3, q4, q5, q6, io, kc, q7, q8, q9⟩ := h9 i hi
        refine ⟨e, h10, q0, q1, q2, q3, q4.within, q5, q6, io, kc, q7, q8, ?_⟩
        by_cases hk0 : k i = 0
        · exact .inl hk0
        rcases q9 with q9 | ⟨b', o', rfl, q9⟩
        · exact .inl q9
        · refine .inr ⟨b', o', rfl, ?_, fun j hj => ?_⟩
          · obtain ⟨d0, d1, d2, r0, _⟩ := q9 0 (by omega)
            exact blk_lt r0
          · obtain ⟨d0, d1, d2, r0, r1, r2, r3⟩ := q9 j hj
            exact ⟨d0, d1, d2, r0, r1, r2, ih i j d0 d1 d2 r3⟩

theorem SlQ.plain {w : World} {Q : Nat → Prop} {ao : Option Addr} {n : Nat} {f : Nat → Nat} (h : SlQ w Q ao n f) : Sl w ao n f := by
  rcases h with h | ⟨b, o, e, _, h⟩
  · exact .inl h
  · exact .inr ⟨b, o, e, h⟩

theorem SlZQ.plain {w : World} {Q : Nat → Prop} {ao : Option Addr} {n : Nat} {f : Nat → Int} (h : SlZQ w Q ao n f) : SlZ w ao n f := by
  rcases h with h | ⟨b, o, e, _, h⟩
  · exact .inl h
  · exact .inr ⟨b, o, e, h⟩

theorem ArrQ.plain {w : World} {Q : Nat → Prop} : ∀ (A : Tree) (c0 c1 c2 : Value), ArrQ w Q A c0 c1 c2 → ArrP w A c0 c1 c2 := by
  intro A
  induction A with
  | leaf => intros; exact (ArrQ.leaf ‹ArrQ _ _ Tree.leaf _ _ _›).elim
  | arr S n sh m L K C N k sub ih =>
    intro c0 c1 c2 h
    obtain ⟨h0, h1, ⟨ao, nc, h2, h3, h4, h5⟩, co, mc, h6, h7, h8⟩ := h
    refine ⟨h0, h1, ⟨ao, nc, h2, h3, h4.plain, h5⟩, co, mc, h6, h7, ?_⟩
    rcases h8 with h8 | ⟨b, o, rfl, _, h9⟩
    · exact .inl h8
    · refine .inr ⟨b, o, rfl, fun i hi => ?_⟩
      obtain ⟨e, h10, q0, q1, q2, q3, ⟨p0, ⟨ao, ac, p1, p2, p3, p4⟩, ⟨bo, bc, p5, p6, p7, p8⟩⟩, q5, q6, io, kc, q7, q8, q9⟩ := h9 i hi
      refine ⟨e, h10, q0, q1, q2, q3, ⟨p0, ⟨ao, ac, p1, p2, p3.plain, p4⟩, ⟨bo, bc, p5, p6, p7.plain, p8⟩⟩, q5, q6, io, kc, q7, q8, ?_⟩
      rcases q9 with q9 | ⟨b', o', rfl, _, q9⟩
      · exact .inl q9
      · refine .inr ⟨b', o', rfl, fun j hj => ?_⟩
        obtain ⟨d0, d1, d2, r0, r1, r2, r3⟩ := q9 j hj
        exact ⟨d0, d1, d2, r0, r1, r2, ih i j d0 d1 d2 r3⟩

/-- Rows of so many cells each, one behind the other. -/
def rowsN (es : Nat → List Value) (n : Nat) : List Value := (List.range n).flatMap es

def putL (es : Nat → List Value) (i : Nat) (x : List Value) (j : Nat) : List Value := if j = i then x else es j

theorem rowsN_length {es : Nat → List Value} {s : Nat} : ∀ n, (∀ i, i < n → (es i).length = s) → (rowsN es n).length = n * s
  | 0, _ => by simp [rowsN]
  | n + 1, h => by
    have e : rowsN es (n + 1) = rowsN es n ++ es n := by unfold rowsN; rw [List.range_succ, List.flatMap_append]; simp
    rw [e, List.length_append, rowsN_length n fun i hi => h i (by omega), h n (by omega), Nat.succ_mul]

theorem rowsN_get {es : Nat → List Value} {s : Nat} : ∀ n, (∀ i, i < n → (es i).length = s) → ∀ i t, i < n → t < s → (rowsN es n)[i * s + t]? = (es i)[t]?
  | 0, _, i, t, hi, _ => by omega
  | n + 1, h, i, t, hi, ht => by
    have e : rowsN es (n + 1) = rowsN es n ++ es n := by unfold rowsN; rw [List.range_succ, List.flatMap_append]; simp
    have hl := rowsN_length n fun i hi => h i (by omega)
    rw [e]
    by_cases hin : i < n
    · have : i * s + t < n * s := by
        have := Nat.mul_le_mul_right s (show i + 1 ≤ n by omega)
        rw [Nat.succ_mul] at this
        omega
      rw [List.getElem?_append_left (by omega)]
      exact rowsN_get n (fun i hi => h i (by omega)) i t hin ht
    · obtain rfl : i = n := by omega
      rw [List.getElem?_append_right (by omega), hl, Nat.add_sub_cancel_left]

end Go.Proofs.YtaepelipkkmeaaaGreat
namespace Go.Proofs.YtaepelipkkmeaaaGreat

open Go.RowKit Num

theorem infoCell : (Tryz.prog.info? 65).map (fun i => (i.zero, i.size, i.bytes)) = some (some (.agg #[.int .u64 0, .int .i64 0, .bool false, .slice none 0 0, .slice none 0 0, .int .i64 0, .slice none 0 0]), 7, 104) := by kernel_rfl

theorem infoArr : (Tryz.prog.info? 45).map (fun i => (i.zero, i.size, i.bytes)) = some (some (.agg #[.int .u64 0, .slice none 0 0, .slice none 0 0]), 3, 56) := by kernel_rfl

/-- A cell of what is made: R tells which arrays are in it. -/
abbrev CellF := Nat → World → (Nat → Prop) → (Nat → Value) → Prop

def KeepF (F : CellF) : Prop := ∀ x (w w' : World) (Q Q' : Nat → Prop) e, F x w Q e → (∀ b, Q b → b < w.heap.size → w'.heap[b]? = w.heap[b]?) → (∀ b, Q b → b < w.heap.size → Q' b) → F x w' Q' e

end Go.Proofs.YtaepelipkkmeaaaGreat
namespace Go.Proofs.YtaepelipkkmeaaaGreat

open Go.RowKit Num

theorem Box7.set0 {w : World} {B : Nat} {z0 z1 z2 z3 z4 z5 z6 : Value} (h : Box7 w B z0 z1 z2 z3 z4 z5 z6) (v : Value) : Box7 (w.setCell ⟨B, 0, none⟩ v) B v z1 z2 z3 z4 z5 z6 := by
  have ne : ∀ {j k : Nat}, j ≠ k → (⟨B, j, none⟩ : Addr) ≠ ⟨B, k, none⟩ := fun h e => h (by injection e)
  exact ⟨World.cell?_setCell_same _ _ _ h.c0, (cell_set_ne (ne (by decide))).trans h.c1, (cell_set_ne (ne (by decide))).trans h.c2, (cell_set_ne (ne (by decide))).trans h.c3, (cell_set_ne (ne (by decide))).trans h.c4, (cell_set_ne (ne (by decide))).trans h.c5, (cell_set_ne (ne (by decide))).trans h.c6, fun j => by rw [World.frozen?_setCell]; exact h.fr j⟩

theorem parts_pos (A : Tree) : 1 ≤ partsT A := by
  obtain _ | ⟨S, n, sh, m, L, K, C, N, k, sub⟩ := A
  · exact Nat.le_refl _
  show 1 ≤ 1 + n + sumN (fun i => 1 + (N i).an + (N i).am + sumN (fun j => partsT (sub i j)) (k i)) m
  omega

theorem ArrQ.form {w : World} {Q : Nat → Prop} {A : Tree} {c0 c1 c2 : Value} (h : ArrQ w Q A c0 c1 c2) : ∃ (S n nc m mc : Nat) (ao co : Option Addr), c0 = .int .u64 S ∧ c1 = .slice ao n nc ∧ c2 = .slice co m mc := by
  obtain _ | ⟨S, n, sh, m, L, K, C, N, k, sub⟩ := A
  · exact (ArrQ.leaf h).elim
  obtain ⟨rfl, _, ⟨ao, nc, rfl, _⟩, co, mc, rfl, _⟩ := h
  exact ⟨S, n, nc, m, mc, ao, co, rfl, rfl, rfl⟩

theorem own_form {w : World} {B size n : Nat} {e : TypeId} {v : Value} {xs : List Value} (h : w.ownsRow B e size v n xs) : ∃ ao cap, v = .slice ao n cap ∧ n ≤ cap ∧ cap ≤ 9223372036854775807 ∧ (n = 0 ∨ ∃ g, ao = some ⟨g, 0, none⟩ ∧ v.ownBlock = some g ∧ B ≤ g ∧ g < w.heap.size) := by
  rcases h.2 with ⟨rfl, rfl⟩ | ⟨g, cap, cur, rfl, hb, hg, hnc, hcm, hcs, ht⟩
  · exact ⟨none, 0, rfl, Nat.le_refl _, by omega, .inl rfl⟩
  · exact ⟨_, cap, rfl, hnc, by unfold maxLen at hcm; omega, .inr ⟨g, rfl, rfl, hb, (h.lt g rfl).2⟩⟩

end Go.Proofs.YtaepelipkkmeaaaGreat
namespace Go.Proofs.YtaepelipkkmeaaaGreat

open Go.RowKit Num

/-- What a call that makes an array tells. -/
def TreePost (T : Tree) (w : World) (e : Ending) (w' : World) : Prop := ∃ d0 d1 d2, e = .returned (.agg #[d0, d1, d2]) ∧ ArrP w' T d0 d1 d2 ∧ Below w.heap.size w w'

end Go.Proofs.YtaepelipkkmeaaaGreat
namespace Go.Proofs.YtaepelipkkmeaaaGreat

open Go.RowKit

/-- Is there such a character? -/
def mayZ (c : Int) : Bool := decide (0 ≤ c) && decide (c ≤ 1114111) && (decide (c < 55296) || decide (57343 < c))

end Go.Proofs.YtaepelipkkmeaaaGreat
namespace Go.Proofs.YtaepelipkkmeaaaGreat

open Go.RowKit Num

/-- A number's fields are right: they are a number in lowest terms. -/
def RightF (N : NumF) : Prop := ∃ (P : Int) (Q : Nat), Low P Q ∧ N.neg = decide (P < 0) ∧ Canon P.natAbs N.an N.fa ∧ Canon Q N.am N.ga

/-- A cell is right, with d boxes left: simple and right tell it of the array in it. -/
def CellT (K : Int) (N : NumF) (C : Int) (k : Nat) (simple : Bool) (d : Nat) (R : Prop) : Prop :=
  (K = 0 ∧ C = 0 ∧ k = 0 ∧ RightF N) ∨ (K = 1 ∧ zeroF N = true ∧ k = 0 ∧ mayZ C = true) ∨ (K = 2 ∧ zeroF N = true ∧ C = 0 ∧ k = 1 ∧ 0 < d ∧ simple = false ∧ R)

/-- An array is right, with d boxes left. -/
def RightT : Tree → Nat → Prop
  | .leaf, _ => False
  | .arr _ n sh m _ K C N k sub, d => Shape sh n (m : Int) ∧ ∀ i, i < m → CellT (K i) (N i) (C i) (k i) (simpleT (sub i 0)) d (RightT (sub i 0) (d - 1))

end Go.Proofs.YtaepelipkkmeaaaGreat
namespace Go.Proofs.YtaepelipkkmeaaaGreat

open Go.RowKit Num

/-- A cell by its fields. -/
structure CellD where
  L : Nat
  K : Int
  N : NumF
  C : Int
  k : Nat
  sub : Nat → Tree

def CellR (w : World) (c : CellD) (e : Nat → Value) : Prop := CellP w c.L c.K c.N c.C c.k (fun j d0 d1 d2 => ArrP w (c.sub j) d0 d1 d2) e

/-- What a call that makes a cell tells. -/
def CellPost (c : CellD) (w : World) (e : Ending) (w' : World) : Prop := ∃ v : Nat → Value, e = .returned (.agg #[v 0, v 1, v 2, v 3, v 4, v 5, v 6]) ∧ CellR w' c v ∧ Below w.heap.size w w'

def zeroN : NumF := ⟨false, 0, fun _ => 0, 0, fun _ => 0⟩

theorem Box7.setAll {w : World} {B : Nat} {z0 z1 z2 z3 z4 z5 z6 : Value} (h : Box7 w B z0 z1 z2 z3 z4 z5 z6) (v0 v1 v2 v3 v4 v5 v6 : Value) :
    Box7 (((((((w.setCell ⟨B, 0, none⟩ v0).setCell ⟨B, 1, none⟩ v1).setCell ⟨B, 2, none⟩ v2).setCell ⟨B, 3, none⟩ v3).setCell ⟨B, 4, none⟩ v4).setCell ⟨B, 5, none⟩ v5).setCell ⟨B, 6, none⟩ v6) B v0 v1 v2 v3 v4 v5 v6 := by
  have ne : ∀ {j k : Nat}, j ≠ k → (⟨B, j, none⟩ : Addr) ≠ ⟨B, k, none⟩ := fun h e => h (by injection e)
  have lt : ∀ {j : Nat} {x v : Value} {w' : World}, w'.cell? ⟨B, j, none⟩ = some x → (w'.setCell ⟨B, j, none⟩ v).cell? ⟨B, j, none⟩ = some v := fun h => World.cell?_setCell_same _ _ _ h
  have sk : ∀ {j k : Nat} {x : Option Value} {v : Value} {w' : World}, j ≠ k → w'.cell? ⟨B, j, none⟩ = x → (w'.setCell ⟨B, k, none⟩ v).cell? ⟨B, j, none⟩ = x := fun hn h => (cell_set_ne (ne hn)).trans h
  refine ⟨?_, ?_, ?_, ?_, ?_, ?_, ?_, fun j => by simp only [World.frozen?_setCell]; exact h.fr j⟩
  · exact sk (by decide) (sk (by decide) (sk (by decide) (sk (by decide) (sk (by decide) (sk (by decide) (lt h.c0))))))
  · exact sk (by decide) (sk (by decide) (sk (by decide) (sk (by decide) (sk (by decide) (lt (sk (by decide) h.c1))))))
  · exact sk (by decide) (sk (by decide) (sk (by decide) (sk (by decide) (lt (sk (by decide) (sk (by decide) h.c2))))))
  · exact sk (by decide) (sk (by decide) (sk (by decide) (lt (sk (by decide) (sk (by decide) (sk (by decide) h.c3))))))
  · exact sk (by decide) (sk (by decide) (lt (sk (by decide) (sk (by decide) (sk (by decide) (sk (by decide) h.c4))))))
  · exact sk (by decide) (lt (sk (by decide) (sk (by decide) (sk (by decide) (sk (by decide) (sk (by decide) h.c5))))))
  · exact lt (sk (by decide) (sk (by decide) (sk (by decide) (sk (by decide) (sk (by decide) (sk (by decide) h.c6))))))

theorem below_setAll {w w' : World} {A B : Nat} (h : Below A w w') (hB : A ≤ B) (v0 v1 v2 v3 v4 v5 v6 : Value) :
    Below A w (((((((w'.setCell ⟨B, 0, none⟩ v0).setCell ⟨B, 1, none⟩ v1).setCell ⟨B, 2, none⟩ v2).setCell ⟨B, 3, none⟩ v3).setCell ⟨B, 4, none⟩ v4).setCell ⟨B, 5, none⟩ v5).setCell ⟨B, 6, none⟩ v6) :=
  ((((((h.setCell (p := ⟨B, 0, none⟩) hB v0).setCell (p := ⟨B, 1, none⟩) hB v1).setCell (p := ⟨B, 2, none⟩) hB v2).setCell (p := ⟨B, 3, none⟩) hB v3).setCell (p := ⟨B, 4, none⟩) hB v4).setCell (p := ⟨B, 5, none⟩) hB v5).setCell (p := ⟨B, 6, none⟩) hB v6

theorem Box7.aside {w : World} {B D : Nat} {v0 v1 v2 v3 v4 v5 v6 : Value} (h : Box7 w B v0 v1 v2 v3 v4 v5 v6) (hne : B ≠ D) (t : Nat) (u : Value) : Box7 (w.setCell ⟨D, t, none⟩ u) B v0 v1 v2 v3 v4 v5 v6 := by
  have ne : ∀ j, (⟨B, j, none⟩ : Addr) ≠ ⟨D, t, none⟩ := fun j e => hne (by injection e)
  exact ⟨(cell_set_ne (ne _)).trans h.c0, (cell_set_ne (ne _)).trans h.c1, (cell_set_ne (ne _)).trans h.c2, (cell_set_ne (ne _)).trans h.c3, (cell_set_ne (ne _)).trans h.c4, (cell_set_ne (ne _)).trans h.c5, (cell_set_ne (ne _)).trans h.c6, fun j => by rw [World.frozen?_setCell]; exact h.fr j⟩

end Go.Proofs.YtaepelipkkmeaaaGreat
namespace Go.Proofs.YtaepelipkkmeaaaGreat

open Go.RowKit Num

attribute [local go_sem ↓] Go.wp_at_zero Go.wp_at_succ

/-- Do two shapes go together: the error; the shape. -/
def confE (n : Nat) (f : Nat → Int) (m : Nat) (g : Nat → Int) : Int := if n = 0 then 0 else if m = 0 then 0 else if n ≠ m then 5 else if ∀ j, j < n → f j = g j then 0 else 4

/-- The cell at a place; the only one; none. -/
def zeroD : CellD := ⟨0, 0, zeroN, 0, 0, fun _ => .leaf⟩

def pickT : Tree → Int → CellD
  | .leaf, _ => zeroD
  | .arr _ n _ m L K C N k sub, i => if n = 0 ∧ 0 < m then ⟨L 0, K 0, N 0, C 0, k 0, sub 0⟩ else if i < 0 ∨ (m : Int) ≤ i ∨ n = 0 then zeroD else ⟨L i.toNat, K i.toNat, N i.toNat, C i.toNat, k i.toNat, sub i.toNat⟩

/-- A cell as it lies, in blocks that Q tells. -/
def CellNQ (w : World) (Q : Nat → Prop) (c : CellD) (e : Nat → Value) : Prop := CellQ w Q c.L c.K c.N c.C c.k (fun j d0 d1 d2 => ArrQ w Q (c.sub j) d0 d1 d2) e

def CellQPost (c : CellD) (Q : Nat → Prop) (w : World) (e : Ending) (w' : World) : Prop := ∃ v : Nat → Value, e = .returned (.agg #[v 0, v 1, v 2, v 3, v 4, v 5, v 6]) ∧ CellNQ w' Q c v ∧ Below w.heap.size w w'

end Go.Proofs.YtaepelipkkmeaaaGreat
namespace Go.Proofs.YtaepelipkkmeaaaGreat

open Go.RowKit Num

attribute [local go_sem ↓] Go.wp_at_zero Go.wp_at_succ

/-- What is in a cell; it alone, without its label. -/
def innerT (c : CellD) : Tree := if c.K = 2 then c.sub 0 else .arr 0 0 (fun _ => 0) 1 (fun _ => 0) (fun _ => c.K) (fun _ => c.C) (fun _ => c.N) (fun _ => c.k) (fun _ => c.sub)

theorem Box3.aside7 {w : World} {B D : Nat} {v0 v1 v2 : Value} (h : Box3 w B v0 v1 v2) (hne : B ≠ D) (t : Nat) (u : Value) : Box3 (w.setCell ⟨D, t, none⟩ u) B v0 v1 v2 := by
  have ne : ∀ j, (⟨B, j, none⟩ : Addr) ≠ ⟨D, t, none⟩ := fun j e => hne (by injection e)
  exact ⟨(cell_set_ne (ne _)).trans h.c0, (cell_set_ne (ne _)).trans h.c1, (cell_set_ne (ne _)).trans h.c2, fun j => by rw [World.frozen?_setCell]; exact h.fr j⟩

theorem madeQ {w w2 : World} {Q0 : Nat → Prop} {L : Nat} {K : Int} {N : NumF} {C : Int} {k : Nat} {sub : Nat → Tree} {e : Nat → Value} {z0 z1 z2 : Value} (t : TypeId) (h : CellNQ w Q0 ⟨L, K, N, C, k, sub⟩ e) (hL : IsL L) (b2 : Below w.heap.size w w2) (y2 : Box3 w2 (w.heap.size + 1) z0 z1 z2)
    (v0 v1 v2 v3 v4 v5 v6 : Value) (hv : (Value.agg #[v0, v1, v2, v3, v4, v5, v6]) = .agg #[e 0, e 1, e 2, e 3, e 4, e 5, e 6]) (W : World)
    (hW : W = (((w2.setCell ⟨w.heap.size + 1, 0, none⟩ (.int .u64 L)).setCell ⟨w.heap.size + 1, 1, none⟩ (.slice none 0 0)).setCell ⟨w.heap.size + 1, 2, none⟩ (.slice (some ⟨w2.heap.size, 0, none⟩) 1 1)).alloc (.cells #[v0, v1, v2, v3, v4, v5, v6] t)) :
    Box3 W (w.heap.size + 1) (.int .u64 L) (.slice none 0 0) (.slice (some ⟨w2.heap.size, 0, none⟩) 1 1) ∧ Below w.heap.size w W ∧
    ArrQ W (fun b => Q0 b ∨ w.heap.size ≤ b) (.arr L 0 (fun _ => 0) 1 (fun _ => L) (fun _ => K) (fun _ => C) (fun _ => N) (fun _ => k) (fun _ => sub)) (.int .u64 L) (.slice none 0 0) (.slice (some ⟨w2.heap.size, 0, none⟩) 1 1) := by
  have z := y2.set (.int .u64 L) (.slice none 0 0) (.slice (some ⟨w2.heap.size, 0, none⟩) 1 1)
  have bz := below_set3 b2 (B := w.heap.size + 1) (by omega) (.int .u64 L) (.slice none 0 0) (.slice (some ⟨w2.heap.size, 0, none⟩) 1 1)
  have zA := z.alloc (.cells #[v0, v1, v2, v3, v4, v5, v6] t)
  have bA := bz.alloc bz.size (.cells #[v0, v1, v2, v3, v4, v5, v6] t)
  have n7 := Box7.new (w := (((w2.setCell ⟨w.heap.size + 1, 0, none⟩ (.int .u64 L)).setCell ⟨w.heap.size + 1, 1, none⟩ (.slice none 0 0)).setCell ⟨w.heap.size + 1, 2, none⟩ (.slice (some ⟨w2.heap.size, 0, none⟩) 1 1))) (B := w2.heap.size) v0 v1 v2 v3 v4 v5 v6 t (by simp)
  rw [← hW] at zA bA n7
  simp only [Value.agg.injEq, Array.mk.injEq, List.cons.injEq, and_true] at hv
  obtain ⟨rfl, rfl, rfl, rfl, rfl, rfl, rfl⟩ := hv
  refine ⟨zA, bA, rfl, hL, ⟨none, 0, rfl, ⟨Nat.le_refl _, by decide, by decide⟩, .inl rfl, fun j hj => absurd hj (Nat.not_lt_zero _)⟩, _, _, rfl, ⟨Nat.le_refl _, by decide, by decide⟩, .inr ⟨_, _, rfl, .inr b2.size, fun i hi => ?_⟩⟩
  obtain rfl : i = 0 := by omega
  refine ⟨e, fun t ht => ?_, CellQ.keep h (fun b _ hb => bA.block b hb) (fun _ hq _ => .inl hq) fun j d0 d1 d2 hd => ArrQ.keep (fun b _ hb => bA.block b hb) (fun _ hq _ => .inl hq) _ _ _ _ hd⟩
  rcases t with _ | _ | _ | _ | _ | _ | _ | t
  · exact n7.c0
  · exact n7.c1
  · exact n7.c2
  · exact n7.c3
  · exact n7.c4
  · exact n7.c5
  · exact n7.c6
  · omega

/-- An array of blocks that Q tells, and of new ones. -/
def TreeQN (T : Tree) (Q : Nat → Prop) (w : World) (e : Ending) (w' : World) : Prop := ∃ d0 d1 d2, e = .returned (.agg #[d0, d1, d2]) ∧ ArrQ w' (fun b => Q b ∨ w.heap.size ≤ b) T d0 d1 d2 ∧ Below w.heap.size w w'

end Go.Proofs.YtaepelipkkmeaaaGreat
