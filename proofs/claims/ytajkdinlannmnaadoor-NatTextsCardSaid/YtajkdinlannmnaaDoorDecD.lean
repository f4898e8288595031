/-
  A number times a scale and a number, in place: plain facts; the bytes of a text as a number.
-/
import Derived.Test.YtajkdinlannmnaaDoorDecC
import Derived.Test.YtajkdinlannmnaaDoorDecF
namespace Go.Proofs.YtajkdinlannmnaaDoor
open Go.RowKit Num

theorem Num.scale_step {S A c c' s x P m g : Nat} (h : S + c * P = A * m + g) (e : s + 4294967296 * c' = c + x * m) : S + s * P + c' * (4294967296 * P) = (A + x * P) * m + g := by
  have e' := congrArg (· * P) e
  simp only [Nat.add_mul] at e'
  have h1 : c' * (4294967296 * P) = 4294967296 * c' * P := by rw [Nat.mul_left_comm, Nat.mul_assoc]
  have h2 : (A + x * P) * m = A * m + x * m * P := by rw [Nat.add_mul, Nat.mul_assoc, Nat.mul_assoc, Nat.mul_comm P m]
  omega

theorem Num.top_of_big {G : Nat → Nat} {n : Nat} (hG : Lim G n) (h : ∀ m, n = m + 1 → pw m ≤ val G n) : Top G n := by
  cases n with
  | zero => exact .inl rfl
  | succ m =>
    refine .inr (fun e => ?_)
    have h1 := h m rfl
    rw [Nat.add_sub_cancel] at e
    rw [val_nought e] at h1
    have := val_lt (hG.mono (Nat.le_succ m))
    omega

theorem Num.scale_end {F G : Nat → Nat} {V W n c : Nat} (hF : Canon V n F) (hG : Lim G n) (h : val G n + c * pw n = W) (hVW : V ≤ W) :
    (c = 0 → Canon W n G) ∧ (c ≠ 0 → c < 4294967296 → Canon W (n + 1) (put G n c)) := by
  refine ⟨fun c0 => ?_, fun c0 hc => ⟨put_snoc_lim hG hc, .inr ?_, ?_⟩⟩
  · rw [c0, Nat.zero_mul, Nat.add_zero] at h
    refine ⟨hG, top_of_big hG (fun m hm => ?_), h⟩
    subst hm
    rcases hF.top with h0 | h0
    · omega
    · rw [Nat.add_sub_cancel] at h0
      have := val_ge h0
      rw [hF.val] at this
      omega
  · rw [Nat.add_sub_cancel, put_at]
    exact c0
  · rw [val_put_succ]
    exact h

/-- The value of the first digits of a text. -/
def sval (s : ByteArray) : Nat → Nat
  | 0 => 0
  | n + 1 => sval s n * 10 + (byt s n - 48)

theorem cells_set (F : Nat → Nat) (n i x : Nat) (v : Int) (h : v = (x : Int)) : (limbCells F n).set i (.int .u32 v) = limbCells (put F i x) n := by
  subst h
  refine List.ext_getElem? fun j => ?_
  rw [List.getElem?_set]
  by_cases hj : j < n
  · rw [limbCells_get (put F i x) n j hj, limbCells_length, limbCells_get F n j hj]
    by_cases e : i = j
    · subst e
      rw [if_pos rfl, if_pos hj, put_at]
    · rw [if_neg e, put_ne (fun h => e h.symm)]
  · rw [List.getElem?_eq_none (l := limbCells (put F i x) n) (by rw [limbCells_length]; omega), List.getElem?_eq_none (l := limbCells F n) (by rw [limbCells_length]; omega)]
    split
    · rw [if_neg (by rw [limbCells_length]; omega)]
    · rfl

theorem owns_set {w : World} {base g cap n : Nat} {t : TypeId} {F : Nat → Nat} (h : w.ownsRow base t 1 (.slice (some ⟨g, 0, none⟩) n cap) n (limbCells F n)) (i x : Nat) (v : Int) (hv : v = (x : Int)) :
    (w.setCell ⟨g, i, none⟩ (.int .u32 v)).ownsRow base t 1 (.slice (some ⟨g, 0, none⟩) n cap) n (limbCells (put F i x) n) := by
  rw [← cells_set F n i x v hv]
  exact (h.stored i _).1

end Go.Proofs.YtajkdinlannmnaaDoor
