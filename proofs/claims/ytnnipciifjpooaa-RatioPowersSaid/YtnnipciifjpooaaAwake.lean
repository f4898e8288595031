/-
  scrimlaw02.awake: chapter 2's examples hold.
-/
import Derived.Test.YtnnipciifjpooaaRef
namespace Go.Proofs.Ytnnipciifjpooaa
open Go.RowKit Num

theorem sl_new1 (w : World) (t : TypeId) (v : Int) (x : Nat) (h : v = x) : Sl (w.alloc (.cells #[.int .u32 v] t)) (some ⟨w.heap.size, 0, none⟩) 1 (fun _ => x) := by
  subst h
  refine .inr ⟨w.heap.size, 0, rfl, fun j hj => ?_⟩
  obtain rfl : j = 0 := by omega
  rw [Nat.zero_add, World.cell?_alloc_new]
  rfl
theorem sl_new2 (w : World) (t : TypeId) (u v : Int) (x y : Nat) (hu : u = x) (hv : v = y) : Sl (w.alloc (.cells #[.int .u32 u, .int .u32 v] t)) (some ⟨w.heap.size, 0, none⟩) 2 (put (fun _ => x) 1 y) := by
  subst hu hv
  refine .inr ⟨w.heap.size, 0, rfl, fun j hj => ?_⟩
  rw [Nat.zero_add, World.cell?_alloc_new]
  have : j = 0 ∨ j = 1 := by omega
  rcases this with rfl | rfl <;> rfl
theorem canon_one (x : Nat) (h0 : x ≠ 0) (h : x < 4294967296) : Canon x 1 (fun _ => x) := ⟨fun _ _ => h, .inr h0, by simp [val, pw]⟩

def AwakePost (w : World) (e : Ending) (w' : World) : Prop := e = .returned (.bool true) ∧ Below w.heap.size w w'

end Go.Proofs.Ytnnipciifjpooaa
