/-
  Lists of ints as they lie in memory; whether a number is in one; two that are the same (scrimref06.In, scrimref01.Ints).
-/
import Derived.Test.YtgaombefigjilaaSl
import Derived.Test.YtgaombefigjilaaChecked
import Derived.BigQuiet
namespace Go.Proofs.Ytgaombefigjilaa
open Go.RowKit

/-- n ints behind an address. -/
def SlZ (w : World) (ao : Option Addr) (n : Nat) (f : Nat → Int) : Prop :=
  n = 0 ∨ ∃ b off, ao = some ⟨b, off, none⟩ ∧ ∀ j, j < n → w.cell? ⟨b, off + j, none⟩ = some (.int .i64 (f j))

theorem SlZ.nil (w : World) (ao : Option Addr) (f : Nat → Int) : SlZ w ao 0 f := .inl rfl

theorem SlZ.mono {w : World} {ao : Option Addr} {n m : Nat} {f : Nat → Int} (h : SlZ w ao n f) (hm : m ≤ n) : SlZ w ao m f := by
  rcases h with h | ⟨b, off, rfl, h⟩
  · exact .inl (by omega)
  · exact .inr ⟨b, off, rfl, fun j hj => h j (by omega)⟩

theorem SlZ.congr {w : World} {ao : Option Addr} {n : Nat} {f g : Nat → Int} (h : SlZ w ao n f) (e : ∀ j, j < n → f j = g j) : SlZ w ao n g := by
  rcases h with h | ⟨b, off, rfl, h⟩
  · exact .inl h
  · exact .inr ⟨b, off, rfl, fun j hj => by rw [← e j hj]; exact h j hj⟩

theorem SlZ.lt {w : World} {b off n : Nat} {f : Nat → Int} (h : SlZ w (some ⟨b, off, none⟩) n f) (hn : 0 < n) : b < w.heap.size := by
  rcases h with h | ⟨b', off', e, h⟩
  · omega
  · simp only [Option.some.injEq, Addr.mk.injEq] at e
    obtain ⟨rfl, rfl, _⟩ := e
    exact World.block_lt_of_cell? w _ (h 0 hn)

theorem SlZ.below {w w' : World} {ao : Option Addr} {n : Nat} {f : Nat → Int} (h : SlZ w ao n f) (hb : Below w.heap.size w w') : SlZ w' ao n f := by
  rcases h with h | ⟨b, off, rfl, h⟩
  · exact .inl h
  · exact .inr ⟨b, off, rfl, fun j hj => (hb.cell (World.block_lt_of_cell? w _ (h j hj))).trans (h j hj)⟩

theorem SlZ.same {w w' : World} {ao : Option Addr} {n : Nat} {f : Nat → Int} (h : SlZ w ao n f) (e : ∀ a, w'.cell? a = w.cell? a) : SlZ w' ao n f := by
  rcases h with h | ⟨b, off, rfl, h⟩
  · exact .inl h
  · exact .inr ⟨b, off, rfl, fun j hj => (e _).trans (h j hj)⟩

/-- What a call behind another one leaves. -/
theorem below_on {w w1 w2 : World} (h : Below w.heap.size w w1) (k : Below w1.heap.size w1 w2) : Below w.heap.size w w2 := h.trans (k.mono h.size)

def intOfZ : Value → Int
  | .int _ i => i
  | _ => 0

/-- Is a number among n of them? -/
def MemZ (f : Nat → Int) (n : Nat) (c : Int) : Prop := ∃ j, j < n ∧ f j = c

set_option maxRecDepth 20000 in
set_option maxHeartbeats 1000000 in
theorem in6_any (ao : Option Addr) (n nc : Nat) (f : Nat → Int) (c : Int) (w : World) (hn : n ≤ 9223372036854775807) (hf : SlZ w ao n f) :
    Calls Try.prog 21 #[.slice ao n nc, .int .i64 c] w fun e w' => (e = .returned (.bool true) ∧ MemZ f n c ∨ e = .returned (.bool false) ∧ ¬ MemZ f n c) ∧ w = w' := by
  go_enter Try.func21, Try.ntmps21
  go_wp2_with fail
  go_loop [5] (fun i => ∃ j : Nat, j ≤ n ∧ i = .int .i64 j ∧ Hid (∀ t, t < j → f t ≠ c)) (fun i => n - (intOfZ i).toNat)
  case atStart => exact ⟨0, Nat.zero_le _, rfl, Lib.hid fun t h => by omega⟩
  case round =>
    obtain ⟨j, hj, rfl, hd⟩ := hrel
    by_cases hlt : j < n
    · rcases hf with h | ⟨b, off, rfl, hc⟩
      · omega
      have c1 := hc j hlt
      clear hc
      by_cases he : f j = c
      · have heb : (f j == c) = true := by rw [beq_iff_eq]; exact he
        have he' := Lib.hid he
        clear he
        go_wp2_with fail
        go_ret
        exact ⟨.inl ⟨rfl, j, hlt, he'.out⟩, rfl⟩
      · have heb : (f j == c) = false := by rw [beq_eq_false_iff_ne]; exact he
        have he' := Lib.hid he
        clear he
        go_wp2_with fail
        go_round
        case rel =>
          refine ⟨j + 1, by omega, by go_num, Lib.hid fun t ht => ?_⟩
          by_cases e : t = j
          · rw [e]; exact he'.out
          · exact hd.out t (by omega)
        case measure => simp [intOfZ]; omega
    · obtain rfl : j = n := by omega
      go_wp2_with fail
      go_ret
      exact ⟨.inr ⟨rfl, fun ⟨t, h1, h2⟩ => hd.out t h1 h2⟩, rfl⟩

/-- Two rows of numbers are the same. -/
def SameZ (n m : Nat) (f g : Nat → Int) : Prop := n = m ∧ ∀ j, j < n → f j = g j

set_option maxRecDepth 20000 in
set_option maxHeartbeats 1000000 in
theorem ints_any (ao bo : Option Addr) (n nc m mc : Nat) (f g : Nat → Int) (w : World) (hn : n ≤ 9223372036854775807) (hf : SlZ w ao n f) (hg : SlZ w bo m g) :
    Calls Try.prog 8 #[.slice ao n nc, .slice bo m mc] w fun e w' => (e = .returned (.bool true) ∧ SameZ n m f g ∨ e = .returned (.bool false) ∧ ¬ SameZ n m f g) ∧ Below w.heap.size w w' := by
  by_cases hnm : n = m
  · subst hnm
    go_enter Try.func8, Try.ntmps8
    go_wp2_with fail
    go_loopw [5] (fun i wr => ∃ j : Nat, j ≤ n ∧ i = .int .i64 j ∧ Hid (∀ t, t < j → f t = g t) ∧ ∃ q, wr = w.drewN q) (fun i _ => n - (intOfZ i).toNat)
    case atStart => exact ⟨0, Nat.zero_le _, rfl, Lib.hid fun t h => by omega, 0, rfl⟩
    case round =>
      obtain ⟨j, hj, rfl, hd, q, rfl⟩ := hrel
      by_cases hlt : j < n
      · rcases hf with h | ⟨b, off, rfl, hc⟩
        · omega
        rcases hg with h | ⟨b', off', rfl, hc'⟩
        · omega
        have c1 := hc j hlt
        have c2 := hc' j hlt
        clear hc hc'
        have i0 : (0 : Int) ≤ (j : Int) := by omega
        have i1 : (j : Int) < (n : Int) := by omega
        by_cases he : f j = g j
        · have heb : (f j != g j) = false := by rw [bne_eq_false_iff_eq]; exact he
          have he' := Lib.hid he
          clear he
          go_wp2_with fail
          go_quiet (fail)
          go_wp2_with fail
          go_roundw
          case rel =>
            refine ⟨j + 1, by omega, by go_num, Lib.hid fun t ht => ?_, _, rfl⟩
            by_cases e : t = j
            · rw [e]; exact he'.out
            · exact hd.out t (by omega)
          case measure => simp [intOfZ]; omega
        · have heb : (f j != g j) = true := by rw [bne_iff_ne]; exact he
          have he' := Lib.hid he
          clear he
          go_wp2_with fail
          go_quiet (fail)
          go_wp2_with fail
          go_ret
          exact ⟨.inr ⟨rfl, fun ⟨_, h⟩ => he'.out (h j hlt)⟩, below_drewN (below_drewN (Below.refl _ _) _) _⟩
      · obtain rfl : j = n := by omega
        go_wp2_with fail
        go_ret
        exact ⟨.inl ⟨rfl, rfl, hd.out⟩, below_drewN (Below.refl _ _) _⟩
  · have hnb : ((n : Int) != (m : Int)) = true := by rw [bne_iff_ne]; omega
    have hnm' := Lib.hid hnm
    have hnp : ¬ ((n : Int) = (m : Int)) := by omega
    clear hnm
    go_enter Try.func8, Try.ntmps8
    go_wp2_with fail
    go_ret
    exact ⟨.inr ⟨rfl, fun ⟨h, _⟩ => hnm'.out h⟩, Below.refl _ _⟩

end Go.Proofs.Ytgaombefigjilaa
