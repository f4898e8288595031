/-
  shape.Without.
-/
import Derived.Test.YtolfbelhbnonpaaKg
import Derived.StillTailTactics
namespace Go.Proofs.Ytolfbelhbnonpaa
open Go.RowKit

set_option maxRecDepth 20000 in
set_option maxHeartbeats 2000000 in
theorem withoutW (so : Option Addr) (n nc : Nat) (f : Nat → Int) (axis : Int) (w : World) (hn : n ≤ nc) (hnc : nc ≤ 9223372036854775807) (hn2 : n ≤ 1000) (hf : SlZ w so n f) :
    Calls Try.prog 19 #[.slice so n nc, .int .i64 axis] w (MadeB (LessIs f n axis) w) := by
  go_enter Try.func19, Try.ntmps19
  go_wp2_with fail
  refine (has_any so n nc axis w).mono ?_
  rintro e w1 ⟨rfl, rfl⟩
  by_cases hx : 0 ≤ axis ∧ axis < n
  · rw [decide_eq_true hx]
    obtain ⟨x, rfl⟩ := Int.eq_ofNat_of_zero_le hx.1
    have hxn : x < n := by omega
    clear hx
    rcases hf with h | ⟨b, off, rfl, hc⟩
    · omega
    have hc' := Lib.hid hc
    clear hc
    go_wp2_with fail
    have hbA : ∀ o, Below w.heap.size w (w.drew.alloc o) := fun o => (Below.refl w.heap.size w).drew.alloc (Nat.le_refl _) o
    have hz := Lib.hid (show SlZ w (some ⟨b, off, none⟩) x f from .inr ⟨b, off, rfl, fun j hj => hc'.out j (by omega)⟩)
    have ht := Lib.hid (slz_tail (x := x) hc'.out)
    have hsz : ∀ o, w.heap.size ≤ (w.drew.alloc o).heap.size := fun o => (hbA o).size
    have hbA' := Lib.hid hbA; have hsz' := Lib.hid hsz
    have g9 : 0 ≤ (x : Int) + 1 := by omega
    have g10 : ((x : Int) + 1).toNat = x + 1 := by omega
    have hwr : IntKind.i64.wrap ((x : Int) + 1) = (x : Int) + 1 := by simp [IntKind.wrap, IntKind.bits, IntKind.signed]; omega
    by_cases hcap : nc = x + 1
    · subst hcap
      obtain rfl : n = x + 1 := by omega
      have g4 : (x : Int) ≤ (x : Int) + 1 := by omega
      have hT := Lib.hid (concat_two w.heap.size (some ⟨b, off, none⟩) (some ⟨b, off, none⟩) x (x + 1) 0 0 f (fun j => f (x + 1 + j)) (w.drew.alloc (.cells #[.slice (some ⟨b, off, none⟩) x (x + 1), .slice (some ⟨b, off, none⟩) 0 0] 22)) (by omega) (by omega) (World.cell?_alloc_new ..) (World.cell?_alloc_new ..) (hz.out.below (hbA _)) (.inl rfl))
      clear hbA hsz
      go_still_tail 7, (by kernel_rfl)
      change wpList _ _ _ _ _ w.drew
      go_wp2_with (go_at_call 28; refine hT.out.mono ?_; rintro e w2 ⟨v, h, rfl, ho, hb, hh⟩)
      go_ret2
      exact ⟨_, x + 0, h, _, rfl, own_base ho (hsz'.out _), (hbA'.out _).trans (hb.mono (hsz'.out _)), .inl ⟨x, rfl, hxn, by omega, fun j hj => by
        rw [hh j hj]
        unfold joinZ dropZ
        by_cases e : j < x
        · rw [if_pos e, if_pos e]
        · rw [if_neg e, if_neg e]; exact congrArg f (show x + 1 + (j - x) = j + 1 by omega), rfl⟩⟩
    · have hT := Lib.hid (concat_two w.heap.size (some ⟨b, off, none⟩) (some ⟨b, off + (x + 1), none⟩) x nc (n - (x + 1)) (nc - (x + 1)) f (fun j => f (x + 1 + j)) (w.drew.alloc (.cells #[.slice (some ⟨b, off, none⟩) x nc, .slice (some ⟨b, off + (x + 1), none⟩) (n - (x + 1)) (nc - (x + 1))] 22)) (by omega) (by omega) (World.cell?_alloc_new ..) (World.cell?_alloc_new ..) (hz.out.below (hbA _)) (ht.out.below (hbA _)))
      have g3 : ¬ nc = 0 := by omega
      have g4 : (x : Int) + 1 ≤ (n : Int) := by omega
      have g5 : (x : Int) ≤ (nc : Int) := by omega
      clear hbA hsz
      go_still_tail 7, (by kernel_rfl)
      change wpList _ _ _ _ _ w.drew
      go_wp2_with (go_at_call 28; refine hT.out.mono ?_; rintro e w2 ⟨v, h, rfl, ho, hb, hh⟩)
      go_ret2
      exact ⟨_, x + (n - (x + 1)), h, _, rfl, own_base ho (hsz'.out _), (hbA'.out _).trans (hb.mono (hsz'.out _)), .inl ⟨x, rfl, hxn, by omega, fun j hj => by
        rw [hh j hj]
        unfold joinZ dropZ
        by_cases e : j < x
        · rw [if_pos e, if_pos e]
        · rw [if_neg e, if_neg e]; exact congrArg f (show x + 1 + (j - x) = j + 1 by omega), rfl⟩⟩
  · rw [decide_eq_false hx]
    have hx' := Lib.hid hx
    clear hx
    go_wp2_with fail
    go_ret2
    exact ⟨_, 0, fun _ => 0, _, rfl, World.ownsRow_nil _ _ _ _, Below.refl _ _, .inr ⟨hx'.out, rfl, rfl⟩⟩

theorem withoutC : WithoutC := fun ao n nc f axis w hn hnc hn2 hf _ _ => (withoutW ao n nc f axis w hn hnc hn2 hf).mono fun _ _ h => h.some

end Go.Proofs.Ytolfbelhbnonpaa
