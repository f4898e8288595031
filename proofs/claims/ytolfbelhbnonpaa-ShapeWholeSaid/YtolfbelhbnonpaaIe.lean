/-
  scrimref07.Index: which cell stands at a place.
-/
import Derived.Test.YtolfbelhbnonpaaId
namespace Go.Proofs.Ytolfbelhbnonpaa
open Go.RowKit

/-- k is the cell of a place, or -1: there is none. -/
def IndexIs (f : Nat → Int) (n : Nat) (g : Nat → Int) (m : Nat) (k : Int) : Prop :=
  ((∃ N, Shape f n N) ∧ m = n ∧ PlaceIs f g n k) ∨ (k = -1 ∧ ¬ ((∃ N, Shape f n N) ∧ m = n ∧ ∃ c, PlaceIs f g n c))

theorem PlaceIs.range {f g : Nat → Int} {n : Nat} {c N : Int} (h : PlaceIs f g n c) (s : Shape f n N) : 0 ≤ c ∧ c < N := by
  obtain ⟨a, b⟩ := cellZ_bound n h.1
  rw [h.2] at a b
  rw [s.all]
  exact ⟨a, b⟩

theorem IndexIs.uniq {f : Nat → Int} {n : Nat} {g : Nat → Int} {m : Nat} {k l : Int} (a : IndexIs f n g m k) (b : IndexIs f n g m l) : k = l := by
  rcases a with ⟨a1, a2, a3⟩ | ⟨a1, a2⟩ <;> rcases b with ⟨b1, b2, b3⟩ | ⟨b1, b2⟩
  · exact a3.2.symm.trans b3.2
  · exact absurd ⟨a1, a2, _, a3⟩ b2
  · exact absurd ⟨b1, b2, _, b3⟩ a2
  · rw [a1, b1]

theorem PlaceIs.congr {f g h : Nat → Int} {n : Nat} {c : Int} (a : PlaceIs f g n c) (e : ∀ j, j < n → g j = h j) : PlaceIs f h n c :=
  ⟨fun j hj => by rw [← e j hj]; exact a.1 j hj, by rw [← cellZ_congr n e]; exact a.2⟩

set_option maxRecDepth 20000 in
set_option maxHeartbeats 4000000 in
theorem index7_any (so : Option Addr) (n nc : Nat) (f : Nat → Int) (ao : Option Addr) (m mc : Nat) (g : Nat → Int) (w : World) (hn : n ≤ 9223372036854775807) (hf : SlZ w so n f) (hg : SlZ w ao m g) :
    Calls Try.prog 11 #[.slice so n nc, .slice ao m mc] w fun e w' => (∃ k : Int, e = .returned (.int .i64 k) ∧ IndexIs f n g m k) ∧ Below w.heap.size w w' := by
  have hg' := Lib.hid hg
  go_enter Try.func11, Try.ntmps11
  go_wp2_with fail
  refine (places7_any so n nc f w hn hf).mono ?_
  rintro e w1 ⟨lo, N, lc, vs, rfl, hN1, hN2, hS, hcells, hrows, hb⟩
  have hS' := Lib.hid hS; have hrows' := Lib.hid hrows; have hb1 := Lib.hid hb
  have hg1 := Lib.hid (hg'.out.below hb)
  clear hS hrows hb hf hg hg'
  go_wp2_with fail
  go_loopw [6] (fun i wr => ∃ j : Nat, j ≤ N ∧ i = .int .i64 j ∧ Hid (∀ t, t < j → ¬ (m = n ∧ PlaceIs f g n (t : Int))) ∧ Hid (Below w1.heap.size w1 wr)) (fun i _ => N - (intOfZ i).toNat)
  case atStart => exact ⟨0, Nat.zero_le _, rfl, Lib.hid fun t h => by omega, Lib.hid (Below.refl _ _)⟩
  case round =>
    obtain ⟨j, hj, rfl, hno, hbr⟩ := hrel
    by_cases hlt : j < N
    · rcases hcells with h | ⟨B, rfl, hc⟩
      · omega
      obtain ⟨h, ho, hp⟩ := (hrows'.out j hlt)
      have hp' := Lib.hid hp
      obtain ⟨bo, bc, hv, k1, k2, k3⟩ := owns_ints ho
      have c0 := hc j hlt
      rw [hv] at c0
      have hlB : B < w1.heap.size := World.block_lt_of_cell? w1 _ c0
      have c1 : wr.cell? ⟨B, j, none⟩ = some (.slice bo n bc) := (hbr.out.cell hlB).trans c0
      have hz := Lib.hid (k3.below hbr.out); have hz2 := Lib.hid (hg1.out.below hbr.out)
      clear hc ho hp hv c0 k3
      go_wp2_with fail
      refine (ints7_any bo ao n bc m mc h g wr (by omega) hz.out hz2.out).mono ?_
      rintro e w2 ⟨⟨rfl, hs⟩ | ⟨rfl, hs⟩, hb2⟩
      · have hs' := Lib.hid hs
        have hb3 := Lib.hid (hb1.out.trans ((hbr.out.trans (hb2.mono hbr.out.size)).mono hb1.out.size))
        clear hs hb2
        go_wp2_with fail
        go_ret
        refine ⟨⟨_, rfl, .inl ⟨?_, hs'.out.1.symm, hp'.out.congr hs'.out.2⟩⟩, hb3.out⟩
        rcases hS'.out with ⟨h0, _⟩ | h0
        · omega
        · exact ⟨_, h0⟩
      · have hno2 := Lib.hid (show ∀ t, t < j + 1 → ¬ (m = n ∧ PlaceIs f g n (t : Int)) from fun t ht => by
          by_cases e : t = j
          · rw [e]
            rintro ⟨rfl, k⟩
            exact hs ⟨rfl, place_uniq _ hp'.out.1 k.1 (hp'.out.2.trans k.2.symm)⟩
          · exact hno.out t (by omega))
        have hb3 := Lib.hid (hbr.out.trans (hb2.mono hbr.out.size))
        clear hs hb2
        go_wp2_with fail
        go_roundw
        case rel => exact ⟨j + 1, by omega, by go_num, hno2, hb3⟩
        case measure => simp [intOfZ]; omega
    · obtain rfl : j = N := by omega
      have hb3 := Lib.hid (hb1.out.trans (hbr.out.mono hb1.out.size))
      go_wp2_with fail
      go_ret
      refine ⟨⟨-1, rfl, .inr ⟨rfl, ?_⟩⟩, hb3.out⟩
      rintro ⟨⟨M, hM⟩, e, c, hc⟩
      rcases hS'.out with ⟨_, h0⟩ | h0
      · exact h0 M hM
      · obtain ⟨q1, q2⟩ := hc.range h0
        obtain ⟨t, ht⟩ := Int.eq_ofNat_of_zero_le q1
        rw [ht] at hc q2
        exact hno.out t (by omega) ⟨e, hc⟩

end Go.Proofs.Ytolfbelhbnonpaa
