/-
  slices.Clone over ints; shape.With.
-/
import Derived.Test.YtolfbelhbnonpaaKe
import Derived.Lib.SliceRun
namespace Go.Proofs.Ytolfbelhbnonpaa
open Go.RowKit

theorem eqlNilInts (w : World) (a : Option Addr) (n c n' c' : Nat) : (binOp .eql 22 (.slice a n c) (.slice none n' c')).run Try.prog w = .ok (.bool a.isNone) w :=
  Lib.run_eql_slice_nil w _ _ a n c n' c' Try.underlying22

theorem intCells_zero (f : Nat → Int) : intCells f 0 = [] := rfl

set_option maxRecDepth 20000 in
set_option maxHeartbeats 1000000 in
theorem clone_any (b off n nc : Nat) (f : Nat → Int) (w : World) (hn : n ≤ 1000) (hf : SlZ w (some ⟨b, off, none⟩) n f) :
    Calls Try.prog 27 #[.slice (some ⟨b, off, none⟩) n nc] w (MadeZ n (fun h => ∀ j, j < n → h j = f j) w) := by
  obtain ⟨i64, hi0, hz0, hz1, hz2⟩ := info_parts info64
  have hf' := Lib.hid (hf.below (w' := w.alloc (.cells #[] 3)) ((Below.refl _ _).alloc (Nat.le_refl _) _))
  have hq := eqlNilInts
  clear hf
  go_enter Try.func27, Try.ntmps27
  go_wp2_with (at_builtin; refine wpList_append_ints rfl (.tmp 5) (.tmp 6) 22 rfl w.heap.size 3 i64 8 Try.underlying22 hi0 hz0 hz1 hz2 _ 0 (fun _ => 0) rfl (World.ownsRow_made w #[] 0 (Nat.le_refl _) (Nat.zero_le _) rfl) _ n nc f rfl hf'.out (by unfold maxLen; omega) (by omega) (by simp) ?_)
  intro v' w1 hown hgr
  rw [intCells_congr (g := f) (fun j hj => by unfold joinZ; rw [if_neg (by omega), Nat.sub_zero])] at hown
  have ho1 := Lib.hid hown
  have hb1 := Lib.hid (((Below.refl _ w).alloc (Nat.le_refl _) _).grown hgr (by simp) (by intro k hk; simp [Value.ownBlock] at hk; omega))
  clear hown hgr hq
  go_wp2_with fail
  go_ret
  exact ⟨_, f, rfl, ho1.out, hb1.out, fun _ _ => rfl⟩

set_option maxRecDepth 20000 in
set_option maxHeartbeats 1000000 in
theorem withW (so : Option Addr) (n nc : Nat) (f : Nat → Int) (axis m : Int) (w : World) (hn2 : n ≤ 1000) (hf : SlZ w so n f) :
    Calls Try.prog 17 #[.slice so n nc, .int .i64 axis, .int .i64 m] w (MadeB (WithIs f n axis m) w) := by
  go_enter Try.func17, Try.ntmps17
  go_wp2_with fail
  refine (has_any so n nc axis w).mono ?_
  rintro e w1 ⟨rfl, rfl⟩
  by_cases hx : 0 ≤ axis ∧ axis < n
  · rw [decide_eq_true hx]
    obtain ⟨x, rfl⟩ := Int.eq_ofNat_of_zero_le hx.1
    have hxn : x < n := by omega
    clear hx
    rcases hf with h | ⟨b, off, rfl, hc⟩
    · omega
    have hz := Lib.hid (show SlZ w (some ⟨b, off, none⟩) n f from .inr ⟨b, off, rfl, hc⟩)
    clear hc
    go_wp2_with fail
    refine (clone_any b off n nc f w hn2 hz.out).mono ?_
    rintro e w1 ⟨v, h, rfl, hown, hb, hh⟩
    obtain ⟨B, cap, rfl, hc1, hc2, hB⟩ := own_some hown (by omega)
    have f1 : w1.frozen? ⟨B, x, none⟩ = false := hown.frozenAt x
    have c1 : w1.cell? ⟨B, x, none⟩ = some (.int .i64 (h x)) := by rw [hown.cellAt x (by omega), intCells_get h n x hxn]
    have ho2 := Lib.hid (show (w1.setCell ⟨B, x, none⟩ (.int .i64 m)).ownsRow w.heap.size 3 1 (.slice (some ⟨B, 0, none⟩) n cap) n (intCells (putZ h x m) n) by rw [← intCells_put]; exact (hown.stored x (.int .i64 m)).1)
    have hb2 := Lib.hid (show Below w.heap.size w (w1.setCell ⟨B, x, none⟩ (.int .i64 m)) from hb.setCell (p := ⟨B, x, none⟩) hB _)
    have hh' := Lib.hid hh
    clear hown hb hh
    go_wp2_with fail
    go_ret2
    exact ⟨_, n, _, _, rfl, ho2.out, hb2.out, .inl ⟨x, rfl, hxn, rfl, fun j hj => by unfold putZ; rw [hh'.out j hj], rfl⟩⟩
  · rw [decide_eq_false hx]
    have hx' := Lib.hid hx
    clear hx
    go_wp2_with fail
    go_ret2
    exact ⟨_, 0, fun _ => 0, _, rfl, World.ownsRow_nil _ _ _ _, Below.refl _ _, .inr ⟨hx'.out, rfl, rfl⟩⟩

theorem withC : WithC := fun ao n nc f axis m w _ _ hn hf _ _ _ _ => (withW ao n nc f axis m w hn hf).mono fun _ _ h => h.some

end Go.Proofs.Ytolfbelhbnonpaa
