/-
  scrimref06.one: a character's bytes.
-/
import Derived.Test.YtgaombefigjilaaHb
namespace Go.Proofs.Ytgaombefigjilaa
open Go.RowKit

/-- How many bytes a character has, and which. -/
def encN (c : Nat) : Nat := if c < 128 then 1 else if c < 2048 then 2 else if c < 65536 then 3 else 4

def encL (c : Nat) : List Nat :=
  if c < 128 then [c] else if c < 2048 then [192 + c / 64, 128 + c % 64] else if c < 65536 then [224 + c / 4096, 128 + c / 64 % 64, 128 + c % 64] else
  [240 + c / 262144, 128 + c / 4096 % 64, 128 + c / 64 % 64, 128 + c % 64]

/-- Bytes in a new block. -/
def OnePost (L : List Nat) (w : World) (e : Ending) (w' : World) : Prop :=
  ∃ B, e = .returned (.slice (some ⟨B, 0, none⟩) L.length L.length) ∧ w.heap.size ≤ B ∧ B < w'.heap.size ∧ (∀ j, j < L.length → w'.cell? ⟨B, j, none⟩ = some (.int .u8 (L.getD j 0 : Nat))) ∧ (∀ j, w'.frozen? ⟨B, j, none⟩ = false) ∧ Below w.heap.size w w'

theorem one_post (w : World) (L : List Nat) (vs : Array Value) (t : TypeId) (n : Nat) (h : vs = (L.map fun x : Nat => Value.int .u8 (x : Int)).toArray) (hn : n = L.length) :
    OnePost L w (.returned (.slice (some ⟨w.heap.size, 0, none⟩) n n)) (w.alloc (.cells vs t)) := by
  subst h hn
  refine ⟨_, rfl, Nat.le_refl _, by simp, fun j hj => ?_, fun j => ?_, (Below.refl _ _).alloc (Nat.le_refl _) _⟩
  · rw [World.cell?_alloc_new]
    simp [hj]
  · have hh := heap_alloc_new w (.cells (L.map fun x : Nat => Value.int .u8 (x : Int)).toArray t)
    simp only [World.frozen?, hh]
    simp

set_option maxRecDepth 20000 in
set_option maxHeartbeats 1000000 in
theorem one6_any (c : Nat) (hc : c ≤ 1114111) (w : World) : Calls Try.prog 18 #[.int .i64 c] w (OnePost (encL c) w) := by
  by_cases h1 : c < 128
  · have e1 := Lib.hid (show encL c = [c] from if_pos h1)
    have d1 : decide ((c : Int) < 128) = true := decide_eq_true (by omega)
    have b0 : (0 : Int) ≤ c := by omega
    have b1 : (c : Int) ≤ 127 := by omega
    clear h1 hc
    go_enter Try.func18, Try.ntmps18
    go_wp2_with fail
    go_ret
    rw [e1.out]
    exact one_post _ _ _ _ _ (by simp) rfl
  have f1 := Lib.hid h1
  by_cases h2 : c < 2048
  · have e1 := Lib.hid (show encL c = [192 + c / 64, 128 + c % 64] from (if_neg h1).trans (if_pos h2))
    have d1 : decide ((c : Int) < 128) = false := decide_eq_false (by omega)
    have d2 : decide ((c : Int) < 2048) = true := decide_eq_true (by omega)
    have b0 : (0 : Int) ≤ c := by omega
    have b1 : (c : Int) ≤ 2047 := by omega
    clear h1 h2 hc
    go_enter Try.func18, Try.ntmps18
    go_wp2_with fail
    go_ret
    rw [e1.out]
    exact one_post _ _ _ _ _ (by simp) rfl
  by_cases h3 : c < 65536
  · have e1 := Lib.hid (show encL c = [224 + c / 4096, 128 + c / 64 % 64, 128 + c % 64] from (if_neg h1).trans ((if_neg h2).trans (if_pos h3)))
    have d1 : decide ((c : Int) < 128) = false := decide_eq_false (by omega)
    have d2 : decide ((c : Int) < 2048) = false := decide_eq_false (by omega)
    have d3 : decide ((c : Int) < 65536) = true := decide_eq_true (by omega)
    have b0 : (0 : Int) ≤ c := by omega
    have b1 : (c : Int) ≤ 65535 := by omega
    clear h1 h2 h3 hc
    go_enter Try.func18, Try.ntmps18
    go_wp2_with fail
    go_ret
    rw [e1.out]
    exact one_post _ _ _ _ _ (by simp) rfl
  · have e1 := Lib.hid (show encL c = [240 + c / 262144, 128 + c / 4096 % 64, 128 + c / 64 % 64, 128 + c % 64] from (if_neg h1).trans ((if_neg h2).trans (if_neg h3)))
    have d1 : decide ((c : Int) < 128) = false := decide_eq_false (by omega)
    have d2 : decide ((c : Int) < 2048) = false := decide_eq_false (by omega)
    have d3 : decide ((c : Int) < 65536) = false := decide_eq_false (by omega)
    have b0 : (0 : Int) ≤ c := by omega
    have b1 : (c : Int) ≤ 1114111 := by omega
    clear h1 h2 h3 hc
    go_enter Try.func18, Try.ntmps18
    go_wp2_with fail
    go_ret
    rw [e1.out]
    exact one_post _ _ _ _ _ (by simp) rfl

theorem encL_len (c : Nat) : 0 < (encL c).length ∧ (encL c).length ≤ 4 := by
  unfold encL
  split
  · simp
  · split
    · simp
    · split <;> simp

theorem encL_byte {c : Nat} (hc : c ≤ 1114111) : ∀ x ∈ encL c, x < 256 := by
  unfold encL
  intro x
  split
  · intro h; simp at h; omega
  · split
    · intro h; simp at h; omega
    · split
      · intro h; simp at h; omega
      · intro h; simp at h; omega

end Go.Proofs.Ytgaombefigjilaa
