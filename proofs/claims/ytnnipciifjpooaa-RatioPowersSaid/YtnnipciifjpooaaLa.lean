/-
  scrimref03.Of; scrimlaw03.awake: chapter 3's examples hold.
-/
import Derived.Test.YtnnipciifjpooaaRd
namespace Go.Proofs.Ytnnipciifjpooaa
open Go.RowKit Num

attribute [local go_sem ↓] Go.wp_at_zero Go.wp_at_succ

theorem sl_one {w : World} {B : Nat} {v : Int} {x : Nat} (t : TypeId) (h : B = w.heap.size) (hv : v = x) : Sl (w.alloc (.cells #[.int .u32 v] t)) (some ⟨B, 0, none⟩) 1 (fun _ => x) := by
  subst h
  exact sl_new1 w t v x hv

set_option maxHeartbeats 1000000 in
theorem rOf_any (n : Int) (w : World) (h0 : -9223372036854775808 ≤ n) (h1 : n ≤ 9223372036854775807) :
    Calls Try.prog 55 #[.int .i64 n] w (IntPost n w) := by
  by_cases hn : 0 ≤ n
  · obtain ⟨v, rfl⟩ := Int.eq_ofNat_of_zero_le hn
    go_enter Try.func55, Try.ntmps55
    go_wp2_with fail
    refine gen_calls (fun w' => Below w.heap.size w w' ∧ Box w' w.heap.size (.bool false) (.slice none 0 0) ∧ Sl w' (some ⟨w.heap.size + 1, 0, none⟩) 2 (put (fun _ => v % 4294967296) 1 (v / 4294967296)))
      ⟨((Below.refl _ w).alloc (Nat.le_refl _) _).alloc (by simp) _, (Box.new _ _ _ rfl).alloc _, sl_two _ (by simp) (by omega) (by omega)⟩ ?_
    rintro w0 ⟨hb0, x0, hs⟩
    refine (rNorm_any false (some ⟨w.heap.size + 1, 0, none⟩) 2 2 v _ ⟨_, ⟨Nat.le_refl _, by omega, by omega, hs, lim_two (by omega) (by omega)⟩, by rw [val_pair, Nat.mod_add_div]; rfl⟩).mono ?_
    rintro e w3 ⟨sb, so, sn, sc, rfl, hR, hb4⟩
    have z2 := x0.later hb4
    have q1 := z2.c0; have q2 := z2.c1; have q3 := z2.fr 0; have q4 := z2.fr 1
    have hb2 := below_then hb0 (Nat.le_refl _) hb4
    have z3 := z2.set (.bool sb) (.slice so sn sc)
    have e0 := z3.c0; have e1 := z3.c1
    have hR' := Lib.hid hR; have z2' := Lib.hid z2; have hb2' := Lib.hid hb2
    clear hR z2 hb2 hb4 hs x0 hb0 z3
    go_wp2_with fail
    refine bodyPost_ret (v := .agg #[.bool sb, .slice so sn sc]) (by simp [results, Try.results55, go_sem, e0, e1]) rfl ?_
    exact IntPost.stored hR'.out z2'.out hb2'.out (by omega)
  · obtain ⟨v, hv⟩ : ∃ v : Nat, n = -1 - (v : Int) := ⟨(-1 - n).toNat, by omega⟩
    subst hv
    go_enter Try.func55, Try.ntmps55
    go_wp2_with fail
    refine gen_calls (fun w' => Below w.heap.size w w' ∧ Box w' w.heap.size (.bool false) (.slice none 0 0) ∧ Sl w' (some ⟨w.heap.size + 1, 0, none⟩) 2 (put (fun _ => v % 4294967296) 1 (v / 4294967296)) ∧ Sl w' (some ⟨w.heap.size + 1 + 1, 0, none⟩) 1 (fun _ => 1))
      ⟨(((Below.refl _ w).alloc (Nat.le_refl _) _).alloc (by simp) _).alloc (by simp; omega) _, ((Box.new _ _ _ rfl).alloc _).alloc _, (sl_two _ (by simp) (by omega) (by omega)).below ((Below.refl _ _).alloc (Nat.le_refl _) _), sl_one _ (by simp) rfl⟩ ?_
    rintro w0 ⟨hb0, x0, hs, ht⟩
    refine (refAdd_any (some ⟨w.heap.size + 1, 0, none⟩) (some ⟨w.heap.size + 1 + 1, 0, none⟩) 2 2 1 1 _ (fun _ => 1) _ ⟨Nat.le_refl _, by omega, by omega, hs, lim_two (by omega) (by omega)⟩ ⟨Nat.le_refl _, by omega, by omega, ht, fun _ _ => (by decide : 1 < 4294967296)⟩ (by decide)).mono ?_
    have ev : val (fun _ => 1) 1 = 1 := by simp [val, pw]
    rw [val_pair, Nat.mod_add_div, ev]
    rintro e w1 ⟨co, cn, cc, c, rfl, g1, g2, g3, g4, hb⟩
    have y0 := Lib.hid (x0.later hb)
    have hb1 := Lib.hid (below_then hb0 (Nat.le_refl _) hb)
    have hW := Lib.hid (show Whole w1 true co cn cc (-1 - (v : Int)) from ⟨c, g4.arg g3 g1 g2 (Nat.lt_of_lt_of_le (m := pw 3) (by have e : pw 3 = 79228162514264337593543950336 := rfl; omega) (pw_le (by omega))), by rw [g4.val, sgn_true]; omega⟩)
    clear g3 g4 hb hs ht x0 hb0 ev
    go_wp2_with fail
    refine (rNorm_any true co cn cc (-1 - (v : Int)) _ hW.out).mono ?_
    rintro e w3 ⟨sb, so, sn, sc, rfl, hR, hb4⟩
    have z2 := y0.out.later hb4
    have q1 := z2.c0; have q2 := z2.c1; have q3 := z2.fr 0; have q4 := z2.fr 1
    have hb2 := below_then hb1.out (Nat.le_refl _) hb4
    have z3 := z2.set (.bool sb) (.slice so sn sc)
    have e0 := z3.c0; have e1 := z3.c1
    have hR' := Lib.hid hR; have z2' := Lib.hid z2; have hb2' := Lib.hid hb2
    clear hR z2 hb2 hb4 z3
    go_wp2_with fail
    refine bodyPost_ret (v := .agg #[.bool sb, .slice so sn sc]) (by simp [results, Try.results55, go_sem, e0, e1]) rfl ?_
    exact IntPost.stored hR'.out z2'.out hb2'.out (by omega)

theorem Right.drew {w : World} {b : Bool} {ao : Option Addr} {n nc : Nat} {x : Int} (h : Right w b ao n nc x) : Right w.drew b ao n nc x := h.below (Below.refl _ w).drew
theorem pw3 : pw 3 = 79228162514264337593543950336 := rfl
theorem int_small {n : Int} (h0 : -9223372036854775808 ≤ n) (h1 : n ≤ 9223372036854775807) : n.natAbs < pw 3 := by rw [pw3]; omega

end Go.Proofs.Ytnnipciifjpooaa
