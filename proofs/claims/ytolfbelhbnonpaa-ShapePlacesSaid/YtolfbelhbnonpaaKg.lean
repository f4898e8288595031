/-
  slices.Grow of no ints, slices.Concat of two rows of ints.
-/
import Derived.Test.YtolfbelhbnonpaaKf
import Derived.Lib.AppendZerosOnto
namespace Go.Proofs.Ytolfbelhbnonpaa
open Go.RowKit

/-- Room for numbers, none of them there. -/
def RoomZ (w : World) (e : Ending) (w' : World) : Prop := ∃ v, e = .returned v ∧ w'.ownsRow w.heap.size 3 1 v 0 [] ∧ Below w.heap.size w w'

set_option maxRecDepth 20000 in
set_option maxHeartbeats 1000000 in
theorem grow_nil (n : Nat) (w : World) (hn : n ≤ 2000) :
    Calls Try.prog 31 #[.slice none 0 0, .int .i64 n] w (RoomZ w) := by
  obtain ⟨i64, hi0, hz0, hz1, hz2⟩ := info_parts info64
  have h1 : ¬ ((n : Int) < 0) := by omega
  by_cases h0 : n = 0
  · subst h0
    go_enter Try.func31, Try.ntmps31
    go_wp2_with fail
    go_ret
    exact ⟨_, rfl, World.ownsRow_nil _ _ _ _, Below.refl _ _⟩
  · have h4 : (n : Int) > 0 := by omega
    have hrz : ∀ ty, (Builtin.append_ #[22, 3] ty #[.slice none 0 0, .int .i64 n]).run Try.prog w =
        .ok (.slice (some ⟨w.heap.size, 0, none⟩) n (grownCap w n 0 3)) (w.drew.alloc (.cells ((#[] : Array Value) ++ Builtin.zeroCells (Value.int .i64 0).cells n ++ Builtin.zeroCells (Value.int .i64 0).cells (grownCap w n 0 3 - n)) 3)) := fun ty => by
      have hold : (Builtin.firstCells i64.size 0 (.slice none 0 0)).run Try.prog w.drew = .ok ([] : List Value).toArray w.drew := run_firstCells_none w.drew i64.size 0 0 0
      have h := Lib.run_append_grow_zeros w 22 3 ty 3 i64 (.int .i64 0) .i64 .i64 Try.underlying22 Try.underlying3 hi0 hz0 none 0 0 [] hold n (by omega) (by rw [hz1]; decide) (by omega) (by omega) (by rw [hz2]; omega) (by rw [hz2]; exact growslice_fits (by omega) (by omega))
      rw [Nat.zero_add] at h
      exact h
    have hGn : n ≤ grownCap w n 0 3 := grownCap_ge w _ _ _
    have hGm : grownCap w n 0 3 ≤ maxLen := grownCap_le_maxLen w n 0 3 (by unfold maxLen; omega)
    obtain ⟨G, hG⟩ : ∃ G, G = grownCap w n 0 3 := ⟨_, rfl⟩
    rw [← hG] at hrz hGn hGm
    have hG63 : G ≤ 9223372036854775807 := by unfold maxLen at hGm; omega
    obtain ⟨cs, hcs⟩ : ∃ cs, cs = ((#[] : Array Value) ++ Builtin.zeroCells (Value.int .i64 0).cells n ++ Builtin.zeroCells (Value.int .i64 0).cells (G - n)) := ⟨_, rfl⟩
    have hlen := Lib.hid (show cs.size = G * 1 by have e1 : (Value.int .i64 0).cells.size = 1 := rfl; rw [hcs]; simp [Builtin.zeroCells, e1]; omega)
    rw [← hcs] at hrz
    have hGm' := Lib.hid hGm
    clear hG hcs hGm
    go_enter Try.func31, Try.ntmps31
    go_wp2_with (at_builtin; refine Lib.wpList_append_run _ rfl _ _ _ _ rfl _ _ rfl rfl _ _ (hrz _) ?_)
    go_ret
    exact ⟨_, rfl, World.ownsRow_made w.drew cs G (Nat.le_refl _) hGm'.out hlen.out, (Below.refl w.heap.size w).drew.alloc (Nat.le_refl _) _⟩

set_option maxRecDepth 20000 in
set_option maxHeartbeats 2000000 in
theorem concat_two (B : Nat) (ao bo : Option Addr) (n nc m mc : Nat) (f g : Nat → Int) (w : World) (hn : n ≤ 1000) (hm : m ≤ 1000)
    (r0 : w.cell? ⟨B, 0, none⟩ = some (.slice ao n nc)) (r1 : w.cell? ⟨B, 1, none⟩ = some (.slice bo m mc)) (hf : SlZ w ao n f) (hg : SlZ w bo m g) :
    Calls Try.prog 28 #[.slice (some ⟨B, 0, none⟩) 2 2] w (MadeZ (n + m) (fun h => ∀ j, j < n + m → h j = joinZ f n g j) w) := by
  obtain ⟨i64, hi0, hz0, hz1, hz2⟩ := info_parts info64
  have hf' := Lib.hid hf; have hg' := Lib.hid hg
  have hBw := Lib.hid (World.block_lt_of_cell? w _ r0)
  clear hf hg
  go_enter Try.func28, Try.ntmps28
  go_wp2_with fail
  go_loopw [3, 5, 11] (fun x v i wr => ((i = .int .i64 0 ∧ x = .int .i64 0) ∨ (i = .int .i64 1 ∧ x = .int .i64 n) ∨ (i = .int .i64 2 ∧ x = .int .i64 ((n + m : Nat) : Int))) ∧ w = wr) (fun _ _ i _ => 2 - (intOfZ i).toNat)
  case atStart => exact ⟨.inl ⟨rfl, rfl⟩, rfl⟩
  case round =>
    obtain ⟨⟨rfl, rfl⟩ | ⟨rfl, rfl⟩ | ⟨rfl, rfl⟩, rfl⟩ := hrel
    · have h1 : ¬ (n : Int) < 0 := by omega
      go_wp2_with fail
      go_roundw
      case rel => exact ⟨.inr (.inl ⟨rfl, rfl⟩), by trivial⟩
      case measure => simp [intOfZ]
    · have h1 : ¬ (n : Int) + (m : Int) < 0 := by omega
      go_wp2_with fail
      go_roundw
      case rel => exact ⟨.inr (.inr ⟨rfl, by go_num⟩), by trivial⟩
      case measure => simp [intOfZ]
    · go_wp2_with fail
      refine (grow_nil (n + m) w (by omega)).mono ?_
      rintro e w1 ⟨v, rfl, hown, hb⟩
      have ho1 := Lib.hid hown; have hb1 := Lib.hid hb
      clear hown hb
      go_wp2_with fail
      go_loopw [6, 8, 27] (fun x y i wr2 => ((i = .int .i64 0 ∧ Hid (wr2.ownsRow w.heap.size 3 1 x 0 (intCells (fun _ => 0) 0))) ∨ (i = .int .i64 1 ∧ Hid (wr2.ownsRow w.heap.size 3 1 x n (intCells f n))) ∨ (i = .int .i64 2 ∧ Hid (wr2.ownsRow w.heap.size 3 1 x (n + m) (intCells (joinZ f n g) (n + m))))) ∧ Hid (Below w.heap.size w wr2)) (fun _ _ i _ => 2 - (intOfZ i).toNat)
      case atStart => exact ⟨.inl ⟨rfl, ho1⟩, hb1⟩
      case round =>
        obtain ⟨⟨rfl, ho⟩ | ⟨rfl, ho⟩ | ⟨rfl, ho⟩, hb⟩ := hrel
        · have c0 := (hb.out.cell hBw.out).trans r0
          clear ho1 hb1 r0 r1
          go_wp2_with (at_builtin; refine wpList_append_ints rfl (.tmp 31) (.tmp 32) 22 rfl w.heap.size 3 i64 8 Try.underlying22 hi0 hz0 hz1 hz2 _ 0 (fun _ => 0) rfl ho.out ao n nc f rfl (hf'.out.below hb.out) (by unfold maxLen; omega) (by omega) hb.out.size ?_)
          intro v2 w2 hown hgr
          rw [intCells_congr (g := f) (fun j hj => by unfold joinZ; rw [if_neg (by omega), Nat.sub_zero])] at hown
          have ho2 := Lib.hid hown
          have hb2 := Lib.hid (hb.out.grown hgr hb.out.size (fun q hq => (ho.out.lt q hq).1))
          clear hown hgr
          go_wp2_with fail
          go_roundw
          case rel => exact ⟨.inr (.inl ⟨rfl, ho2⟩), hb2⟩
          case measure => simp [intOfZ]
        · have c1 := (hb.out.cell (p := ⟨B, 1, none⟩) hBw.out).trans r1
          clear ho1 hb1 r0 r1
          go_wp2_with (at_builtin; refine wpList_append_ints rfl (.tmp 31) (.tmp 32) 22 rfl w.heap.size 3 i64 8 Try.underlying22 hi0 hz0 hz1 hz2 _ n f rfl ho.out bo m mc g rfl (hg'.out.below hb.out) (by unfold maxLen; omega) (by omega) hb.out.size ?_)
          intro v2 w2 hown hgr
          have ho2 := Lib.hid hown
          have hb2 := Lib.hid (hb.out.grown hgr hb.out.size (fun q hq => (ho.out.lt q hq).1))
          clear hown hgr
          go_wp2_with fail
          go_roundw
          case rel => exact ⟨.inr (.inr ⟨rfl, ho2⟩), hb2⟩
          case measure => simp [intOfZ]
        · go_wp2_with fail
          go_ret
          exact ⟨_, _, rfl, ho.out, hb.out, fun _ _ => rfl⟩

end Go.Proofs.Ytolfbelhbnonpaa
