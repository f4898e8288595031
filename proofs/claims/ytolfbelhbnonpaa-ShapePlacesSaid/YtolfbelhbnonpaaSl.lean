/-
  What the walks say of slices of limbs in memory: 'Sl' (a slice reads as these limbs), small laws. No program is named here but for the limbs' type.
-/
import Derived.Test.YtolfbelhbnonpaaNum
import Derived.WalkKit
import Derived.WalkSpells
import Derived.WalkLawsBesides
import Derived.Lib.Hide
namespace Go.Proofs.Ytolfbelhbnonpaa
open Go.RowKit Num

/-- The slice at this address reads as the n limbs f. -/
def Sl (w : World) (ao : Option Addr) (n : Nat) (f : Nat → Nat) : Prop :=
  n = 0 ∨ ∃ b off, ao = some ⟨b, off, none⟩ ∧ ∀ j, j < n → w.cell? ⟨b, off + j, none⟩ = some (.int .u32 (f j))

/-- A slice's length, for a measure. -/
def lenOf : Value → Nat
  | .slice _ n _ => n
  | _ => 0

theorem Sl.nil (w : World) (ao : Option Addr) (f : Nat → Nat) : Sl w ao 0 f := .inl rfl

theorem Sl.mono {w : World} {ao : Option Addr} {n m : Nat} {f : Nat → Nat} (h : Sl w ao n f) (hm : m ≤ n) : Sl w ao m f := by
  rcases h with rfl | ⟨b, off, rfl, hc⟩
  · exact .inl (by omega)
  · exact .inr ⟨b, off, rfl, fun j hj => hc j (by omega)⟩

theorem Sl.congr {w : World} {ao : Option Addr} {n : Nat} {f g : Nat → Nat} (h : Sl w ao n f) (e : ∀ j, j < n → f j = g j) : Sl w ao n g := by
  rcases h with rfl | ⟨b, off, rfl, hc⟩
  · exact .inl rfl
  · exact .inr ⟨b, off, rfl, fun j hj => by rw [← e j hj]; exact hc j hj⟩

theorem Sl.below {w w' : World} {ao : Option Addr} {n : Nat} {f : Nat → Nat} (h : Sl w ao n f) (hb : Below w.heap.size w w') : Sl w' ao n f := by
  rcases h with rfl | ⟨b, off, rfl, hc⟩
  · exact .inl rfl
  · exact .inr ⟨b, off, rfl, fun j hj => (hb.cell (World.block_lt_of_cell? w _ (hc j hj))).trans (hc j hj)⟩

theorem Sl.same {w w' : World} {ao : Option Addr} {n : Nat} {f : Nat → Nat} (h : Sl w ao n f) (e : ∀ a, w'.cell? a = w.cell? a) : Sl w' ao n f := by
  rcases h with rfl | ⟨b, off, rfl, hc⟩
  · exact .inl rfl
  · exact .inr ⟨b, off, rfl, fun j hj => (e _).trans (hc j hj)⟩

/-- A slice of limbs, handed in to be read. -/
structure Arg (w : World) (ao : Option Addr) (n nc : Nat) (f : Nat → Nat) : Prop where
  len : n ≤ nc
  cap : nc ≤ 9223372036854775807
  few : n ≤ 1000000
  sl : Sl w ao n f
  lim : Lim f n

theorem Arg.below {w w' : World} {ao : Option Addr} {n nc : Nat} {f : Nat → Nat} (h : Arg w ao n nc f) (hb : Below w.heap.size w w') : Arg w' ao n nc f := ⟨h.len, h.cap, h.few, h.sl.below hb, h.lim⟩

theorem Arg.same {w w' : World} {ao : Option Addr} {n nc : Nat} {f : Nat → Nat} (h : Arg w ao n nc f) (e : ∀ a, w'.cell? a = w.cell? a) : Arg w' ao n nc f := ⟨h.len, h.cap, h.few, h.sl.same e, h.lim⟩

end Go.Proofs.Ytolfbelhbnonpaa
