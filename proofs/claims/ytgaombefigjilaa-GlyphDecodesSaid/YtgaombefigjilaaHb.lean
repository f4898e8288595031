/-
  The three lists of characters, and a number's class, as the document's answer has them (scrimref06).
-/
import Derived.Test.YtgaombefigjilaaHa
namespace Go.Proofs.Ytgaombefigjilaa
open Go.RowKit

theorem slz_new (w : World) (L : List Int) (t : TypeId) (vs : Array Value) (h : vs = (L.map (Value.int .i64)).toArray) : SlZ (w.alloc (.cells vs t)) (some ⟨w.heap.size, 0, none⟩) L.length (fun j => L.getD j 0) := by
  subst h
  refine .inr ⟨w.heap.size, 0, rfl, fun j hj => ?_⟩
  rw [Nat.zero_add, World.cell?_alloc_new]
  simp [hj]

def functionsZ : List Int := [43, 45, 215, 247, 8968, 8970, 124, 42, 33, 126, 60, 8804, 61, 8805, 62, 8800, 8743, 8744, 9076, 44, 9066, 9021, 8854, 9033, 8593, 8595, 8834, 8835, 8801, 8802, 9075, 8714, 8746, 8745, 9080, 9035, 9042, 8866, 8867]

def operatorsZ : List Int := [47, 9023, 92, 9024, 168, 9064, 9060, 9059, 8728, 46]

def marksZ : List Int := [40, 41, 91, 93, 123, 125, 59, 58, 8900, 8592, 9082, 9077, 8711, 9109, 9054, 39, 9053]

def ListPost (L : List Int) (w : World) (e : Ending) (w' : World) : Prop :=
  ∃ B, e = .returned (.slice (some ⟨B, 0, none⟩) L.length L.length) ∧ SlZ w' (some ⟨B, 0, none⟩) L.length (fun j => L.getD j 0) ∧ Below w.heap.size w w'

set_option maxRecDepth 20000 in
set_option maxHeartbeats 1000000 in
theorem functionsZ_any (w : World) : Calls Try.prog 22 #[] w (ListPost functionsZ w) := by
  go_enter Try.func22, Try.ntmps22
  go_wp2_with fail
  go_ret
  exact ⟨_, rfl, slz_new w functionsZ _ _ rfl, (Below.refl _ _).alloc (Nat.le_refl _) _⟩

set_option maxRecDepth 20000 in
set_option maxHeartbeats 1000000 in
theorem operatorsZ_any (w : World) : Calls Try.prog 23 #[] w (ListPost operatorsZ w) := by
  go_enter Try.func23, Try.ntmps23
  go_wp2_with fail
  go_ret
  exact ⟨_, rfl, slz_new w operatorsZ _ _ rfl, (Below.refl _ _).alloc (Nat.le_refl _) _⟩

set_option maxRecDepth 20000 in
set_option maxHeartbeats 1000000 in
theorem marksZ_any (w : World) : Calls Try.prog 24 #[] w (ListPost marksZ w) := by
  go_enter Try.func24, Try.ntmps24
  go_wp2_with fail
  go_ret
  exact ⟨_, rfl, slz_new w marksZ _ _ rfl, (Below.refl _ _).alloc (Nat.le_refl _) _⟩

theorem memZ_list (L : List Int) (c : Int) : MemZ (fun j => L.getD j 0) L.length c ↔ c ∈ L := by
  unfold MemZ
  rw [List.mem_iff_getElem]
  constructor
  · rintro ⟨j, hj, h⟩
    refine ⟨j, hj, ?_⟩
    rw [← h]
    show L[j] = L.getD j 0
    rw [List.getD_eq_getElem?_getD, List.getElem?_eq_getElem hj]
    rfl
  · rintro ⟨j, hj, h⟩
    refine ⟨j, hj, ?_⟩
    show L.getD j 0 = c
    rw [← h, List.getD_eq_getElem?_getD, List.getElem?_eq_getElem hj]
    rfl

/-- A number's class, as chapter 6 says it. -/
def classZ (c : Int) : Int :=
  if c = 32 ∨ c = 9 then 1 else if (97 ≤ c ∧ c ≤ 122) ∨ (65 ≤ c ∧ c ≤ 90) ∨ c = 95 then 2 else if (48 ≤ c ∧ c ≤ 57) ∨ c = 175 then 3 else
  if c ∈ functionsZ then 4 else if c ∈ operatorsZ then 5 else if c ∈ marksZ then 6 else 0

/-- Is there such a character? -/
def mayZ (c : Int) : Bool := decide (0 ≤ c) && decide (c ≤ 1114111) && (decide (c < 55296) || decide (57343 < c))

end Go.Proofs.Ytgaombefigjilaa
