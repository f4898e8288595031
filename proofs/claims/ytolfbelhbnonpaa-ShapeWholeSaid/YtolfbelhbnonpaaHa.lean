/-
  Lists of ints as they lie in memory; whether a number is in one; two that are the same (scrimref06.In, scrimref01.Ints).
-/
import Derived.Test.YtolfbelhbnonpaaSl
import Derived.Test.YtolfbelhbnonpaaChecked
import Derived.BigQuiet
namespace Go.Proofs.Ytolfbelhbnonpaa
open Go.RowKit

/-- n ints behind an address. -/
def SlZ (w : World) (ao : Option Addr) (n : Nat) (f : Nat → Int) : Prop :=
  n = 0 ∨ ∃ b off, ao = some ⟨b, off, none⟩ ∧ ∀ j, j < n → w.cell? ⟨b, off + j, none⟩ = some (.int .i64 (f j))

theorem SlZ.nil (w : World) (ao : Option Addr) (f : Nat → Int) : SlZ w ao 0 f := .inl rfl

theorem SlZ.mono {w : World} {ao : Option Addr} {n m : Nat} {f : Nat → Int} (h : SlZ w ao n f) (hm : m ≤ n) : SlZ w ao m f := by
  rcases h with h | ⟨b, off, rfl, h⟩
  · exact .inl (by omega)
  · exact .inr ⟨b, off, rfl, fun j hj => h j (by omega)⟩

theorem SlZ.congr {w : World} {ao : Option Addr} {n : Nat} {f g : Nat → Int} (h : SlZ w ao n f) (e : ∀ j, j < n → f j = g j) : SlZ w ao n g := by
  rcases h with h | ⟨b, off, rfl, h⟩
  · exact .inl h
  · exact .inr ⟨b, off, rfl, fun j hj => by rw [← e j hj]; exact h j hj⟩

theorem SlZ.lt {w : World} {b off n : Nat} {f : Nat → Int} (h : SlZ w (some ⟨b, off, none⟩) n f) (hn : 0 < n) : b < w.heap.size := by
  rcases h with h | ⟨b', off', e, h⟩
  · omega
  · simp only [Option.some.injEq, Addr.mk.injEq] at e
    obtain ⟨rfl, rfl, _⟩ := e
    exact World.block_lt_of_cell? w _ (h 0 hn)

theorem SlZ.below {w w' : World} {ao : Option Addr} {n : Nat} {f : Nat → Int} (h : SlZ w ao n f) (hb : Below w.heap.size w w') : SlZ w' ao n f := by
  rcases h with h | ⟨b, off, rfl, h⟩
  · exact .inl h
  · exact .inr ⟨b, off, rfl, fun j hj => (hb.cell (World.block_lt_of_cell? w _ (h j hj))).trans (h j hj)⟩

theorem SlZ.same {w w' : World} {ao : Option Addr} {n : Nat} {f : Nat → Int} (h : SlZ w ao n f) (e : ∀ a, w'.cell? a = w.cell? a) : SlZ w' ao n f := by
  rcases h with h | ⟨b, off, rfl, h⟩
  · exact .inl h
  · exact .inr ⟨b, off, rfl, fun j hj => (e _).trans (h j hj)⟩

/-- What a call behind another one leaves. -/
theorem below_on {w w1 w2 : World} (h : Below w.heap.size w w1) (k : Below w1.heap.size w1 w2) : Below w.heap.size w w2 := h.trans (k.mono h.size)

def intOfZ : Value → Int
  | .int _ i => i
  | _ => 0

/-- Is a number among n of them? -/
def MemZ (f : Nat → Int) (n : Nat) (c : Int) : Prop := ∃ j, j < n ∧ f j = c

/-- Two rows of numbers are the same. -/
def SameZ (n m : Nat) (f g : Nat → Int) : Prop := n = m ∧ ∀ j, j < n → f j = g j

end Go.Proofs.Ytolfbelhbnonpaa
