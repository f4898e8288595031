/-
  Rows of ints that a call makes; worlds told anew.
-/
import Derived.Test.YtolfbelhbnonpaaHa
import Derived.Laws.AppendOwn
namespace Go.Proofs.Ytolfbelhbnonpaa
open Go.RowKit

theorem slz_new (w : World) (L : List Int) (t : TypeId) (vs : Array Value) (h : vs = (L.map (Value.int .i64)).toArray) : SlZ (w.alloc (.cells vs t)) (some ⟨w.heap.size, 0, none⟩) L.length (fun j => L.getD j 0) := by
  subst h
  refine .inr ⟨w.heap.size, 0, rfl, fun j hj => ?_⟩
  rw [Nat.zero_add, World.cell?_alloc_new]
  simp [hj]

theorem owns_later {w w' : World} {base size n : Nat} {e : TypeId} {v : Value} {xs : List Value} (h : w.ownsRow base e size v n xs) (hb : Below w.heap.size w w') : w'.ownsRow base e size v n xs :=
  h.kept (row := none) ⟨hb.os, hb.tape, hb.output, hb.size, fun k hk _ => hb.block k hk⟩ (Classical.em _)

def intCells (f : Nat → Int) (n : Nat) : List Value := (List.range n).map fun j => Value.int .i64 (f j)

theorem intCells_length (f : Nat → Int) (n : Nat) : (intCells f n).length = n := by simp [intCells]

theorem intCells_get (f : Nat → Int) (n j : Nat) (h : j < n) : (intCells f n)[j]? = some (.int .i64 (f j)) := by simp [intCells, h]

def putZ (f : Nat → Int) (i : Nat) (x : Int) (j : Nat) : Int := if j = i then x else f j

theorem intCells_snoc (f : Nat → Int) (j : Nat) (x : Int) : intCells f j ++ [Value.int .i64 x] = intCells (putZ f j x) (j + 1) := by
  unfold intCells
  rw [List.range_succ, List.map_append]
  congr 1
  · refine List.map_congr_left fun t ht => ?_
    have := List.mem_range.1 ht
    unfold putZ
    rw [if_neg (by omega)]
  · simp [putZ]

theorem owns_ints {w : World} {base n : Nat} {t : TypeId} {v : Value} {f : Nat → Int} (h : w.ownsRow base t 1 v n (intCells f n)) : ∃ ao cap, v = .slice ao n cap ∧ n ≤ cap ∧ cap ≤ 9223372036854775807 ∧ SlZ w ao n f := by
  rcases h.2 with ⟨rfl, rfl⟩ | ⟨g, cap, cur, hv, hb, hg, hnc, hcm, hcs, ht⟩
  · exact ⟨none, 0, rfl, Nat.le_refl _, by omega, .inl rfl⟩
  · subst hv
    exact ⟨_, cap, rfl, hnc, by unfold maxLen at hcm; omega, .inr ⟨g, 0, rfl, fun j hj => by rw [Nat.zero_add, h.cellAt j (by omega), intCells_get f n j hj]⟩⟩

theorem info64 : (Try.prog.info? 3).map (fun i => (i.zero, i.size, i.bytes)) = some (some (.int .i64 0), 1, 8) := by kernel_rfl

theorem newz_at (w : World) (v : Value) (t : TypeId) : ∀ j u, [v][j]? = some u → (w.alloc (.cells #[v] t)).cell? ((⟨w.heap.size, 0, none⟩ : Addr).add j) = some u := by
  intro j u h
  match j, h with
  | 0, h =>
    simp at h
    subst h
    simp [Addr.add]
  | _ + 1, h => simp at h

/-- A world, told anew by what holds of it. -/
theorem told_wp {P : Program} {c : Code} {Q : Exit → Act → World → Prop} {a : Act} {W : World} (R : World → Prop) (hW : R W) (h : ∀ w', R w' → Code.wp P c Q a w') : Code.wp P c Q a W := h W hW

theorem told_calls {P : Program} {f : FuncId} {args : Array Value} {Q : Ending → World → Prop} {W : World} (R : World → Prop) (hW : R W) (h : ∀ w', R w' → Calls P f args w' Q) : Calls P f args W Q := h W hW

theorem slz_one (w : World) (t : TypeId) (x : Int) : SlZ (w.alloc (.cells #[.int .i64 x] t)) (some ⟨w.heap.size, 0, none⟩) 1 (fun _ => x) := by
  refine .inr ⟨w.heap.size, 0, rfl, fun j hj => ?_⟩
  obtain rfl : j = 0 := by omega
  rw [Nat.zero_add, World.cell?_alloc_new]
  rfl

/-- It answers v, and what lay there lies as it did. -/
def Tell (v : Value) (w : World) (e : Ending) (w' : World) : Prop := e = .returned v ∧ Below w.heap.size w w'

end Go.Proofs.Ytolfbelhbnonpaa
