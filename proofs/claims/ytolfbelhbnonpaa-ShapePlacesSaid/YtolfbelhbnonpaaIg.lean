/-
  scrimref07.With, Without: a shape with another length of an axis; one without an axis.
-/
import Derived.Test.YtolfbelhbnonpaaIf
namespace Go.Proofs.Ytolfbelhbnonpaa
open Go.RowKit

/-- Another length of an axis; or there is no such axis. -/
def WithIs (f : Nat → Int) (n : Nat) (axis m : Int) (r : Nat) (h : Nat → Int) (ok : Bool) : Prop :=
  (∃ x : Nat, axis = x ∧ x < n ∧ r = n ∧ (∀ j, j < n → h j = putZ f x m j) ∧ ok = true) ∨ (¬ (0 ≤ axis ∧ axis < n) ∧ r = 0 ∧ ok = false)

/-- The lengths but for an axis'. -/
def dropZ (f : Nat → Int) (x : Nat) (j : Nat) : Int := if j < x then f j else f (j + 1)

/-- One axis less; or there is no such axis. -/
def LessIs (f : Nat → Int) (n : Nat) (axis : Int) (r : Nat) (h : Nat → Int) (ok : Bool) : Prop :=
  (∃ x : Nat, axis = x ∧ x < n ∧ r + 1 = n ∧ (∀ j, j < r → h j = dropZ f x j) ∧ ok = true) ∨ (¬ (0 ≤ axis ∧ axis < n) ∧ r = 0 ∧ ok = false)

theorem WithIs.uniq {f : Nat → Int} {n : Nat} {axis m : Int} {r s : Nat} {h k : Nat → Int} {p q : Bool} (a : WithIs f n axis m r h p) (b : WithIs f n axis m s k q) : SameZ r s h k ∧ p = q := by
  rcases a with ⟨x, a1, a2, a3, a4, a5⟩ | ⟨a1, a2, a3⟩ <;> rcases b with ⟨y, b1, b2, b3, b4, b5⟩ | ⟨b1, b2, b3⟩
  · obtain rfl : x = y := by omega
    exact ⟨⟨a3.trans b3.symm, fun j hj => (a4 j (by omega)).trans (b4 j (by omega)).symm⟩, a5.trans b5.symm⟩
  · exact absurd ⟨by omega, by omega⟩ b1
  · exact absurd ⟨by omega, by omega⟩ a1
  · exact ⟨⟨a2.trans b2.symm, fun j hj => by omega⟩, a3.trans b3.symm⟩

theorem LessIs.uniq {f : Nat → Int} {n : Nat} {axis : Int} {r s : Nat} {h k : Nat → Int} {p q : Bool} (a : LessIs f n axis r h p) (b : LessIs f n axis s k q) : SameZ r s h k ∧ p = q := by
  rcases a with ⟨x, a1, a2, a3, a4, a5⟩ | ⟨a1, a2, a3⟩ <;> rcases b with ⟨y, b1, b2, b3, b4, b5⟩ | ⟨b1, b2, b3⟩
  · obtain rfl : x = y := by omega
    exact ⟨⟨by omega, fun j hj => (a4 j (by omega)).trans (b4 j (by omega)).symm⟩, a5.trans b5.symm⟩
  · exact absurd ⟨by omega, by omega⟩ b1
  · exact absurd ⟨by omega, by omega⟩ a1
  · exact ⟨⟨a2.trans b2.symm, fun j hj => by omega⟩, a3.trans b3.symm⟩

/-- A row of ints that a call has made, and a bool. -/
def MadeB (R : Nat → (Nat → Int) → Bool → Prop) (w : World) (e : Ending) (w' : World) : Prop :=
  ∃ v r h ok, e = .returned (.tuple #[v, .bool ok]) ∧ w'.ownsRow w.heap.size 3 1 v r (intCells h r) ∧ Below w.heap.size w w' ∧ R r h ok

/-- The lengths behind an axis, as they lie. -/
theorem slz_tail {w : World} {b off n x : Nat} {f : Nat → Int} (h : ∀ j, j < n → w.cell? ⟨b, off + j, none⟩ = some (.int .i64 (f j))) : SlZ w (some ⟨b, off + (x + 1), none⟩) (n - (x + 1)) (fun j => f (x + 1 + j)) :=
  .inr ⟨b, _, rfl, fun j hj => by rw [show off + (x + 1) + j = off + (x + 1 + j) by omega]; exact h _ (by omega)⟩

set_option maxRecDepth 20000 in
set_option maxHeartbeats 1000000 in
theorem without7_any (so : Option Addr) (n nc : Nat) (f : Nat → Int) (axis : Int) (w : World) (hn : n ≤ nc) (hnc : nc ≤ 9223372036854775807) (hn2 : n ≤ 1000) (hf : SlZ w so n f) (h0 : -9223372036854775808 ≤ axis) (h1 : axis ≤ 9223372036854775807) :
    Calls Try.prog 20 #[.slice so n nc, .int .i64 axis] w (MadeB (LessIs f n axis) w) := by
  obtain ⟨i64, hi0, hz0, hz1, hz2⟩ := info_parts info64
  go_enter Try.func20, Try.ntmps20
  by_cases hx : 0 ≤ axis ∧ axis < n
  · obtain ⟨x, rfl⟩ := Int.eq_ofNat_of_zero_le hx.1
    have hxn : x < n := by omega
    clear hx
    rcases hf with h | ⟨b, off, rfl, hc⟩
    · omega
    have hc' := Lib.hid hc
    have hz := Lib.hid (show SlZ w (some ⟨b, off, none⟩) x f from .inr ⟨b, off, rfl, fun j hj => hc j (by omega)⟩)
    clear hc
    have g1 : decide ((x : Int) < 0) = false := decide_eq_false (by omega)
    have g2 : decide ((n : Int) ≤ (x : Int)) = false := decide_eq_false (by omega)
    go_wp2_with (at_builtin; refine wpList_append_ints rfl (.tmp 15) (.tmp 18) 22 rfl w.heap.size 3 i64 8 Try.underlying22 hi0 hz0 hz1 hz2 _ 0 (fun _ => 0) rfl (World.ownsRow_nil _ _ _ _) _ x _ f rfl hz.out (by unfold maxLen; omega) (by omega) (Nat.le_refl _) ?_)
    intro v1 w1 hown hgr
    have hb1 := Lib.hid ((Below.refl w.heap.size w).grown hgr (Nat.le_refl _) (fun q hq => by cases hq))
    rw [intCells_congr (g := f) (fun j hj => by unfold joinZ; rw [if_neg (by omega), Nat.sub_zero])] at hown
    have ho1 := Lib.hid hown
    have ht1 := Lib.hid ((slz_tail (x := x) hc'.out).below hb1.out)
    clear hown hgr
    by_cases hcap : nc = x + 1
    all_goals
      first
        | (have hnx : n - (x + 1) = 0 := by omega
           go_wp2_with (at_builtin; refine wpList_append_ints rfl (.tmp 20) (.tmp 24) 22 rfl w.heap.size 3 i64 8 Try.underlying22 hi0 hz0 hz1 hz2 _ x f rfl ho1.out (some ⟨b, off, none⟩) 0 0 (fun j => f (x + 1 + j)) rfl (.inl rfl) (by unfold maxLen; omega) (by omega) hb1.out.size ?_))
        | (go_wp2_with (at_builtin; refine wpList_append_ints rfl (.tmp 20) (.tmp 24) 22 rfl w.heap.size 3 i64 8 Try.underlying22 hi0 hz0 hz1 hz2 _ x f rfl ho1.out (some ⟨b, off + (x + 1), none⟩) (n - (x + 1)) (nc - (x + 1)) (fun j => f (x + 1 + j)) rfl ht1.out (by unfold maxLen; omega) (by omega) hb1.out.size ?_))
      intro v2 w2 hown hgr
      have ho2 := Lib.hid hown
      have hb2 := Lib.hid (hb1.out.grown hgr hb1.out.size (fun q hq => (ho1.out.lt q hq).1))
      clear hown hgr
      go_wp2_with fail
      go_ret2
      refine ⟨_, _, _, _, rfl, ho2.out, hb2.out, .inl ⟨x, rfl, hxn, by omega, fun j hj => ?_, rfl⟩⟩
      unfold joinZ dropZ
      by_cases e : j < x
      · rw [if_pos e, if_pos e]
      · rw [if_neg e, if_neg e]; exact congrArg f (show x + 1 + (j - x) = j + 1 by omega)
  · have hx' := Lib.hid hx
    by_cases hx0 : axis < 0
    · go_wp2_with fail
      go_ret2
      exact ⟨_, 0, fun _ => 0, _, rfl, World.ownsRow_nil _ _ _ _, Below.refl _ _, .inr ⟨hx'.out, rfl, rfl⟩⟩
    · have hx1 : (n : Int) ≤ axis := by omega
      clear hx
      go_wp2_with fail
      go_ret2
      exact ⟨_, 0, fun _ => 0, _, rfl, World.ownsRow_nil _ _ _ _, Below.refl _ _, .inr ⟨hx'.out, rfl, rfl⟩⟩

set_option maxRecDepth 20000 in
set_option maxHeartbeats 1000000 in
theorem with7_any (so : Option Addr) (n nc : Nat) (f : Nat → Int) (axis m : Int) (w : World) (hn : n ≤ nc) (hnc : nc ≤ 9223372036854775807) (hn2 : n ≤ 1000) (hf : SlZ w so n f) (h0 : -9223372036854775808 ≤ axis) (h1 : axis ≤ 9223372036854775807) :
    Calls Try.prog 18 #[.slice so n nc, .int .i64 axis, .int .i64 m] w (MadeB (WithIs f n axis m) w) := by
  obtain ⟨i64, hi0, hz0, hz1, hz2⟩ := info_parts info64
  go_enter Try.func18, Try.ntmps18
  by_cases hx : 0 ≤ axis ∧ axis < n
  · obtain ⟨x, rfl⟩ := Int.eq_ofNat_of_zero_le hx.1
    have hxn : x < n := by omega
    clear hx
    rcases hf with h | ⟨b, off, rfl, hc⟩
    · omega
    have hc' := Lib.hid hc
    have hz := Lib.hid (show SlZ w (some ⟨b, off, none⟩) x f from .inr ⟨b, off, rfl, fun j hj => hc j (by omega)⟩)
    clear hc
    have g1 : decide ((x : Int) < 0) = false := decide_eq_false (by omega)
    have g2 : decide ((n : Int) ≤ (x : Int)) = false := decide_eq_false (by omega)
    go_wp2_with (at_builtin; refine wpList_append_ints rfl (.tmp 17) (.tmp 20) 22 rfl w.heap.size 3 i64 8 Try.underlying22 hi0 hz0 hz1 hz2 _ 0 (fun _ => 0) rfl (World.ownsRow_nil _ _ _ _) _ x _ f rfl hz.out (by unfold maxLen; omega) (by omega) (Nat.le_refl _) ?_)
    intro v1 w1 hown hgr
    have hb1 := Lib.hid ((Below.refl w.heap.size w).grown hgr (Nat.le_refl _) (fun q hq => by cases hq))
    rw [intCells_congr (g := f) (fun j hj => by unfold joinZ; rw [if_neg (by omega), Nat.sub_zero])] at hown
    have ho1 := Lib.hid hown
    clear hown hgr
    go_wp2_with (at_builtin; refine wpList_append_ints rfl (.tmp 22) (.tmp 24) 22 rfl w.heap.size 3 i64 8 Try.underlying22 hi0 hz0 hz1 hz2 _ x f rfl (ho1.out.alloc _) (some ⟨w1.heap.size, 0, none⟩) 1 1 (fun _ => m) rfl (slz_one w1 _ m) (by unfold maxLen; omega) (by omega) (by have := hb1.out.size; simp; omega) ?_)
    intro v2 w2 hown hgr
    have hb2 := Lib.hid ((hb1.out.alloc hb1.out.size _).grown hgr (by have := hb1.out.size; simp; omega) (fun q hq => (ho1.out.lt q hq).1))
    have ho2 := Lib.hid hown
    have ht2 := Lib.hid ((slz_tail (x := x) hc'.out).below hb2.out)
    clear hown hgr
    by_cases hcap : nc = x + 1
    all_goals
      first
        | (have hnx : n - (x + 1) = 0 := by omega
           go_wp2_with (at_builtin; refine wpList_append_ints rfl (.tmp 26) (.tmp 30) 22 rfl w.heap.size 3 i64 8 Try.underlying22 hi0 hz0 hz1 hz2 _ (x + 1) _ rfl ho2.out (some ⟨b, off, none⟩) 0 0 (fun j => f (x + 1 + j)) rfl (.inl rfl) (by unfold maxLen; omega) (by omega) hb2.out.size ?_))
        | (go_wp2_with (at_builtin; refine wpList_append_ints rfl (.tmp 26) (.tmp 30) 22 rfl w.heap.size 3 i64 8 Try.underlying22 hi0 hz0 hz1 hz2 _ (x + 1) _ rfl ho2.out (some ⟨b, off + (x + 1), none⟩) (n - (x + 1)) (nc - (x + 1)) (fun j => f (x + 1 + j)) rfl ht2.out (by unfold maxLen; omega) (by omega) hb2.out.size ?_))
      intro v3 w3 hown hgr
      have ho3 := Lib.hid hown
      have hb3 := Lib.hid (hb2.out.grown hgr hb2.out.size (fun q hq => (ho2.out.lt q hq).1))
      clear hown hgr
      go_wp2_with fail
      go_ret2
      refine ⟨_, _, _, _, rfl, ho3.out, hb3.out, .inl ⟨x, rfl, hxn, by omega, fun j hj => ?_, rfl⟩⟩
      unfold joinZ putZ
      by_cases e : j < x
      · rw [if_pos (by omega), if_pos e, if_neg (by omega)]
      · by_cases e2 : j = x
        · rw [if_pos (by omega), if_neg e, if_pos e2]
        · rw [if_neg (by omega), if_neg e2]; exact congrArg f (show x + 1 + (j - (x + 1)) = j by omega)
  · have hx' := Lib.hid hx
    by_cases hx0 : axis < 0
    · go_wp2_with fail
      go_ret2
      exact ⟨_, 0, fun _ => 0, _, rfl, World.ownsRow_nil _ _ _ _, Below.refl _ _, .inr ⟨hx'.out, rfl, rfl⟩⟩
    · have hx1 : (n : Int) ≤ axis := by omega
      clear hx
      go_wp2_with fail
      go_ret2
      exact ⟨_, 0, fun _ => 0, _, rfl, World.ownsRow_nil _ _ _ _, Below.refl _ _, .inr ⟨hx'.out, rfl, rfl⟩⟩

end Go.Proofs.Ytolfbelhbnonpaa
