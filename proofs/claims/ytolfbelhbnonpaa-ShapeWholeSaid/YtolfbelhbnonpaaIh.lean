/-
  What the functions of package shape are to tell (as hypotheses of the walks of the statements); scrimlaw07.awake, ShapeCounts.
-/
import Derived.Test.YtolfbelhbnonpaaIg
namespace Go.Proofs.Ytolfbelhbnonpaa
open Go.RowKit

/-- Which cell stands at a place, and whether one does. -/
def IndexB (f : Nat → Int) (n : Nat) (g : Nat → Int) (m : Nat) (k : Int) (ok : Bool) : Prop :=
  ((∃ N, Shape f n N) ∧ m = n ∧ PlaceIs f g n k ∧ ok = true) ∨ (k = 0 ∧ ok = false ∧ ¬ ((∃ N, Shape f n N) ∧ m = n ∧ ∃ c, PlaceIs f g n c))

/-- The place of a cell, and whether there is one. -/
def AtIs (f : Nat → Int) (n : Nat) (c : Int) (r : Nat) (h : Nat → Int) (ok : Bool) : Prop :=
  ((∃ N, Shape f n N ∧ 0 ≤ c ∧ c < N) ∧ r = n ∧ PlaceIs f h n c ∧ ok = true) ∨ (r = 0 ∧ ok = false ∧ ¬ ∃ N, Shape f n N ∧ 0 ≤ c ∧ c < N)

/-- Some row of ints, and a bool. -/
def SomeB (R : Nat → (Nat → Int) → Bool → Prop) (w : World) (e : Ending) (w' : World) : Prop :=
  ∃ ao r rc h ok, e = .returned (.tuple #[.slice ao r rc, .bool ok]) ∧ r ≤ rc ∧ rc ≤ 9223372036854775807 ∧ SlZ w' ao r h ∧ Below w.heap.size w w' ∧ R r h ok

theorem MadeB.some {R : Nat → (Nat → Int) → Bool → Prop} {w w' : World} {e : Ending} (h : MadeB R w e w') : SomeB R w e w' := by
  obtain ⟨v, r, k, ok, rfl, ho, hb, hR⟩ := h
  obtain ⟨ao, cap, rfl, h1, h2, h3⟩ := owns_ints ho
  exact ⟨ao, r, cap, k, ok, rfl, h1, h2, h3, hb, hR⟩

def CountC : Prop := ∀ (ao : Option Addr) (n nc : Nat) (f : Nat → Int) (w : World), n ≤ nc → nc ≤ 9223372036854775807 → SlZ w ao n f →
  Calls Try.prog 7 #[.slice ao n nc] w fun e w' => (∃ N E : Int, e = .returned (.tuple #[.int .i64 N, .int .i64 E]) ∧ CountIs f n N E) ∧ Below w.heap.size w w'

def IndexC : Prop := ∀ (ao bo : Option Addr) (n nc m mc : Nat) (f g : Nat → Int) (w : World), n ≤ nc → nc ≤ 9223372036854775807 → SlZ w ao n f → m ≤ mc → mc ≤ 9223372036854775807 → SlZ w bo m g →
  Calls Try.prog 10 #[.slice ao n nc, .slice bo m mc] w fun e w' => (∃ (k : Int) (ok : Bool), e = .returned (.tuple #[.int .i64 k, .bool ok]) ∧ IndexB f n g m k ok) ∧ Below w.heap.size w w'

def AtC : Prop := ∀ (ao : Option Addr) (n nc : Nat) (f : Nat → Int) (c : Int) (w : World), n ≤ nc → nc ≤ 9223372036854775807 → SlZ w ao n f → -9223372036854775808 ≤ c → c ≤ 9223372036854775807 →
  Calls Try.prog 12 #[.slice ao n nc, .int .i64 c] w (SomeB (AtIs f n c) w)

def AroundC : Prop := ∀ (ao : Option Addr) (n nc : Nat) (f : Nat → Int) (axis : Int) (w : World), n ≤ nc → nc ≤ 9223372036854775807 → SlZ w ao n f → -9223372036854775808 ≤ axis → axis ≤ 9223372036854775807 →
  Calls Try.prog 15 #[.slice ao n nc, .int .i64 axis] w fun e w' => (∃ b k a ok, e = .returned (.tuple #[.int .i64 b, .int .i64 k, .int .i64 a, .bool ok]) ∧ AroundIs f n axis b k a ok) ∧ Below w.heap.size w w'

def WithC : Prop := ∀ (ao : Option Addr) (n nc : Nat) (f : Nat → Int) (axis m : Int) (w : World), n ≤ nc → nc ≤ 9223372036854775807 → n ≤ 1000 → SlZ w ao n f → -9223372036854775808 ≤ axis → axis ≤ 9223372036854775807 → -9223372036854775808 ≤ m → m ≤ 9223372036854775807 →
  Calls Try.prog 17 #[.slice ao n nc, .int .i64 axis, .int .i64 m] w (SomeB (WithIs f n axis m) w)

def WithoutC : Prop := ∀ (ao : Option Addr) (n nc : Nat) (f : Nat → Int) (axis : Int) (w : World), n ≤ nc → nc ≤ 9223372036854775807 → n ≤ 1000 → SlZ w ao n f → -9223372036854775808 ≤ axis → axis ≤ 9223372036854775807 →
  Calls Try.prog 19 #[.slice ao n nc, .int .i64 axis] w (SomeB (LessIs f n axis) w)

def two7 (x y : Int) (j : Nat) : Int := if j = 0 then x else y

theorem slz_two (w : World) (t : TypeId) (x y : Int) : SlZ (w.alloc (.cells #[.int .i64 x, .int .i64 y] t)) (some ⟨w.heap.size, 0, none⟩) 2 (two7 x y) := by
  refine .inr ⟨w.heap.size, 0, rfl, fun j hj => ?_⟩
  rw [Nat.zero_add, World.cell?_alloc_new]
  have : j = 0 ∨ j = 1 := by omega
  rcases this with rfl | rfl <;> rfl

theorem shape_23 : Shape (two7 2 3) 2 6 :=
  ⟨by decide, fun j _ => by unfold two7; split <;> decide, fun j _ => by unfold two7; split <;> decide, by decide, by decide⟩

theorem place_10 : PlaceIs (two7 2 3) (two7 1 0) 2 3 := by
  refine ⟨fun j hj => ?_, by decide⟩
  have : j = 0 ∨ j = 1 := by omega
  rcases this with rfl | rfl <;> decide

set_option maxRecDepth 20000 in
set_option maxHeartbeats 2000000 in
theorem awake7_any (hC : CountC) (hI : IndexC) (w : World) : Calls Try.prog 9 #[] w (Tell (.bool true) w) := by
  go_enter Try.func9, Try.ntmps9
  go_wp2_with fail
  refine told_calls (fun w' => Below w.heap.size w w' ∧ SlZ w' (some ⟨w.heap.size, 0, none⟩) 2 (two7 2 3)) ⟨(Below.refl _ _).alloc (Nat.le_refl _) _, slz_two w _ 2 3⟩ ?_
  rintro w0 ⟨b0, z0⟩
  refine (hC _ 2 2 _ w0 (by omega) (by omega) z0).mono ?_
  rintro e w1 ⟨⟨N, E, rfl, hN⟩, hb⟩
  obtain ⟨rfl, rfl⟩ := hN.uniq (fun _ _ => rfl) shape_23.countIs
  have b1 := Lib.hid (b0.trans (hb.mono b0.size))
  clear hb b0 z0 hN
  go_wp2_with fail
  refine told_calls (fun w' => Below w.heap.size w w' ∧ SlZ w' (some ⟨w1.heap.size, 0, none⟩) 2 (two7 2 3) ∧ SlZ w' (some ⟨w1.heap.size + 1, 0, none⟩) 2 (two7 1 0))
    ⟨(b1.out.alloc b1.out.size _).alloc (by have := b1.out.size; simp; omega) _, (slz_two w1 _ 2 3).below ((Below.refl _ _).alloc (Nat.le_refl _) _), by
      have := slz_two (w1.alloc (.cells #[.int .i64 2, .int .i64 3] 3)) 3 1 0
      simpa using this⟩ ?_
  rintro w2 ⟨b2, z2, y2⟩
  refine (hI _ _ 2 2 2 2 _ _ w2 (by omega) (by omega) z2 (by omega) (by omega) y2).mono ?_
  rintro e w3 ⟨⟨k, ok, rfl, hk⟩, hb⟩
  have b3 := Lib.hid (b2.trans (hb.mono b2.size))
  rcases hk with ⟨_, _, hp, rfl⟩ | ⟨_, _, h⟩
  · obtain rfl : k = 3 := hp.2.symm.trans place_10.2
    clear hb b2 z2 y2 hp b1
    go_wp2_with fail
    go_ret
    exact ⟨rfl, b3.out⟩
  · exact absurd ⟨⟨_, shape_23⟩, rfl, _, place_10⟩ h

set_option maxRecDepth 20000 in
set_option maxHeartbeats 2000000 in
theorem counts_walk (hC : CountC) (hI : IndexC) (ao : Option Addr) (n nc : Nat) (f : Nat → Int) (w : World) (hn : n ≤ nc) (hnc : nc ≤ 9223372036854775807) (hf : SlZ w ao n f) :
    Calls Try.prog 3 #[.slice ao n nc] w (Tell (.bool true) w) := by
  have hA := awake7_any hC hI
  go_enter Try.func3, Try.ntmps3
  go_wp2_with fail
  refine (hC ao n nc f w hn hnc hf).mono ?_
  rintro e w1 ⟨⟨N, E, rfl, hN⟩, hb⟩
  have b1 := Lib.hid hb
  have z1 := hf.below hb
  have hN' := Lib.hid hN
  clear hb hf hN
  go_wp2_with fail
  refine (count7_any ao n nc f w1 (by omega) z1).mono ?_
  rintro e w2 ⟨⟨M, D, rfl, hM⟩, rfl⟩
  obtain ⟨rfl, rfl⟩ := hN'.out.uniq (fun _ _ => rfl) hM
  clear hM z1 hN'
  go_wp2_with fail
  refine (hA _).mono ?_
  rintro e w2 ⟨rfl, hb⟩
  have b2 := Lib.hid (b1.out.trans (hb.mono b1.out.size))
  clear hb b1
  go_wp2_with fail
  go_ret
  exact ⟨rfl, b2.out⟩

end Go.Proofs.Ytolfbelhbnonpaa
