/-
  scrimref03.Of; scrimlaw03.awake: chapter 3's examples hold.
-/
import Derived.Test.YtkcbppijajgoiaaRd
namespace Go.Proofs.Ytkcbppijajgoiaa
open Go.RowKit Num

attribute [local go_sem ↓] Go.wp_at_zero Go.wp_at_succ

theorem sl_one {w : World} {B : Nat} {v : Int} {x : Nat} (t : TypeId) (h : B = w.heap.size) (hv : v = x) : Sl (w.alloc (.cells #[.int .u32 v] t)) (some ⟨B, 0, none⟩) 1 (fun _ => x) := by
  subst h
  exact sl_new1 w t v x hv

set_option maxHeartbeats 1000000 in
theorem rOf_any (n : Int) (w : World) (h0 : -9223372036854775808 ≤ n) (h1 : n ≤ 9223372036854775807) :
    Calls Try.prog 29 #[.int .i64 n] w (IntPost n w) := by
  by_cases hn : 0 ≤ n
  · obtain ⟨v, rfl⟩ := Int.eq_ofNat_of_zero_le hn
    go_enter Try.func29, Try.ntmps29
    go_wp2_with fail
    refine gen_calls (fun w' => Below w.heap.size w w' ∧ Box w' w.heap.size (.bool false) (.slice none 0 0) ∧ Sl w' (some ⟨w.heap.size + 1, 0, none⟩) 2 (put (fun _ => v % 4294967296) 1 (v / 4294967296)))
      ⟨((Below.refl _ w).alloc (Nat.le_refl _) _).alloc (by simp) _, (Box.new _ _ _ rfl).alloc _, sl_two _ (by simp) (by omega) (by omega)⟩ ?_
    rintro w0 ⟨hb0, x0, hs⟩
    refine (rNorm_any false (some ⟨w.heap.size + 1, 0, none⟩) 2 2 v _ ⟨_, ⟨Nat.le_refl _, by omega, by omega, hs, lim_two (by omega) (by omega)⟩, by rw [val_pair, Nat.mod_add_div]; rfl⟩).mono ?_
    rintro e w3 ⟨sb, so, sn, sc, rfl, hR, hb4⟩
    have z2 := x0.later hb4
    have q1 := z2.c0; have q2 := z2.c1; have q3 := z2.fr 0; have q4 := z2.fr 1
    have hb2 := below_then hb0 (Nat.le_refl _) hb4
    have z3 := z2.set (.bool sb) (.slice so sn sc)
    have e0 := z3.c0; have e1 := z3.c1
    have hR' := Lib.hid hR; have z2' := Lib.hid z2; have hb2' := Lib.hid hb2
    clear hR z2 hb2 hb4 hs x0 hb0 z3
    go_wp2_with fail
    refine bodyPost_ret (v := .agg #[.bool sb, .slice so sn sc]) (by simp [results, Try.results29, go_sem, e0, e1]) rfl ?_
    exact IntPost.stored hR'.out z2'.out hb2'.out (by omega)
  · obtain ⟨v, hv⟩ : ∃ v : Nat, n = -1 - (v : Int) := ⟨(-1 - n).toNat, by omega⟩
    subst hv
    go_enter Try.func29, Try.ntmps29
    go_wp2_with fail
    refine gen_calls (fun w' => Below w.heap.size w w' ∧ Box w' w.heap.size (.bool false) (.slice none 0 0) ∧ Sl w' (some ⟨w.heap.size + 1, 0, none⟩) 2 (put (fun _ => v % 4294967296) 1 (v / 4294967296)) ∧ Sl w' (some ⟨w.heap.size + 1 + 1, 0, none⟩) 1 (fun _ => 1))
      ⟨(((Below.refl _ w).alloc (Nat.le_refl _) _).alloc (by simp) _).alloc (by simp; omega) _, ((Box.new _ _ _ rfl).alloc _).alloc _, (sl_two _ (by simp) (by omega) (by omega)).below ((Below.refl _ _).alloc (Nat.le_refl _) _), sl_one _ (by simp) rfl⟩ ?_
    rintro w0 ⟨hb0, x0, hs, ht⟩
    refine (refAdd_any (some ⟨w.heap.size + 1, 0, none⟩) (some ⟨w.heap.size + 1 + 1, 0, none⟩) 2 2 1 1 _ (fun _ => 1) _ ⟨Nat.le_refl _, by omega, by omega, hs, lim_two (by omega) (by omega)⟩ ⟨Nat.le_refl _, by omega, by omega, ht, fun _ _ => (by decide : 1 < 4294967296)⟩ (by decide)).mono ?_
    have ev : val (fun _ => 1) 1 = 1 := by simp [val, pw]
    rw [val_pair, Nat.mod_add_div, ev]
    rintro e w1 ⟨co, cn, cc, c, rfl, g1, g2, g3, g4, hb⟩
    have y0 := Lib.hid (x0.later hb)
    have hb1 := Lib.hid (below_then hb0 (Nat.le_refl _) hb)
    have hW := Lib.hid (show Whole w1 true co cn cc (-1 - (v : Int)) from ⟨c, g4.arg g3 g1 g2 (Nat.lt_of_lt_of_le (m := pw 3) (by have e : pw 3 = 79228162514264337593543950336 := rfl; omega) (pw_le (by omega))), by rw [g4.val, sgn_true]; omega⟩)
    clear g3 g4 hb hs ht x0 hb0 ev
    go_wp2_with fail
    refine (rNorm_any true co cn cc (-1 - (v : Int)) _ hW.out).mono ?_
    rintro e w3 ⟨sb, so, sn, sc, rfl, hR, hb4⟩
    have z2 := y0.out.later hb4
    have q1 := z2.c0; have q2 := z2.c1; have q3 := z2.fr 0; have q4 := z2.fr 1
    have hb2 := below_then hb1.out (Nat.le_refl _) hb4
    have z3 := z2.set (.bool sb) (.slice so sn sc)
    have e0 := z3.c0; have e1 := z3.c1
    have hR' := Lib.hid hR; have z2' := Lib.hid z2; have hb2' := Lib.hid hb2
    clear hR z2 hb2 hb4 z3
    go_wp2_with fail
    refine bodyPost_ret (v := .agg #[.bool sb, .slice so sn sc]) (by simp [results, Try.results29, go_sem, e0, e1]) rfl ?_
    exact IntPost.stored hR'.out z2'.out hb2'.out (by omega)

theorem Right.drew {w : World} {b : Bool} {ao : Option Addr} {n nc : Nat} {x : Int} (h : Right w b ao n nc x) : Right w.drew b ao n nc x := h.below (Below.refl _ w).drew
theorem pw3 : pw 3 = 79228162514264337593543950336 := rfl
theorem int_small {n : Int} (h0 : -9223372036854775808 ≤ n) (h1 : n ≤ 9223372036854775807) : n.natAbs < pw 3 := by rw [pw3]; omega

set_option maxHeartbeats 4000000 in
theorem awake3_any (w : World) : Calls Try.prog 25 #[] w (Says (.bool true) w) := by
  go_enter Try.func25, Try.ntmps25
  have bb := Lib.hid (Below.refl w.heap.size w)
  go_wp2_with fail
  refine (wOf_any (-7) _ (by decide) (by decide)).mono ?_
  rintro e w11 ⟨sb, so, sn, sc, rfl, hR, hb⟩
  have bb := Lib.hid (below_then bb.out (Nat.le_refl _) hb)
  have hA := Lib.hid (hR.whole (int_small (by decide) (by decide)) (by omega))
  clear hR hb
  go_wp2_with fail
  refine (wOf_any (2) _ (by decide) (by decide)).mono ?_
  rintro e w12 ⟨tb, to_, tn, tc, rfl, hR, hb⟩
  have bb := Lib.hid (below_then bb.out (Nat.le_refl _) hb)
  have hA := Lib.hid (hA.out.below hb)
  have hB := Lib.hid (hR.whole (int_small (by decide) (by decide)) (by omega))
  clear hR hb
  go_wp2_with fail
  refine (wDivMod_any sb tb so to_ sn sc tn tc (-7) (2) _ hA.out hB.out).mono ?_
  rintro e w13 ⟨hb, h⟩
  rcases h with ⟨h, _⟩ | ⟨_, vb1, vo1, vn1, vc1, ub1, uo1, un1, uc1, rfl, hQ, hS⟩
  · exact absurd h (by decide)
  have hQ1 : Hid (Right w13 vb1 vo1 vn1 vc1 (-4)) := Lib.hid hQ
  have hS1 : Hid (Right w13 ub1 uo1 un1 uc1 (1)) := Lib.hid hS
  have bb := Lib.hid (below_then bb.out (Nat.le_refl _) hb)
  clear hb hA hB hQ hS
  go_wp2_with fail
  refine gen_calls (fun w' => Below w.heap.size w w' ∧ Box w' w13.heap.size (.bool vb1) (.slice vo1 vn1 vc1) ∧ Box w' (w13.heap.size + 1) (.bool ub1) (.slice uo1 un1 uc1) ∧ Right w' vb1 vo1 vn1 vc1 (-4) ∧ Right w' ub1 uo1 un1 uc1 1)
    ⟨(bb.out.alloc bb.out.size _).alloc (bb.out.alloc bb.out.size _).size _, (Box.new _ _ _ rfl).alloc _, Box.new _ _ _ (by simp), (hQ1.out.alloc _).alloc _, (hS1.out.alloc _).alloc _⟩ ?_
  rintro w14 ⟨bb, X0, X1, R0, R1⟩
  have bb := Lib.hid bb; have X0 := Lib.hid X0; have X1 := Lib.hid X1; have R0 := Lib.hid R0; have R1 := Lib.hid R1
  clear hQ1 hS1
  refine (wOf_any (7) _ (by decide) (by decide)).mono ?_
  rintro e w21 ⟨sb, so, sn, sc, rfl, hR, hb⟩
  have bb := Lib.hid (below_then bb.out (Nat.le_refl _) hb)
  have X0 := Lib.hid (X0.out.later hb); have X1 := Lib.hid (X1.out.later hb); have R0 := Lib.hid (R0.out.below hb); have R1 := Lib.hid (R1.out.below hb)
  have hA := Lib.hid (hR.whole (int_small (by decide) (by decide)) (by omega))
  clear hR hb
  go_wp2_with fail
  refine (wOf_any (-2) _ (by decide) (by decide)).mono ?_
  rintro e w22 ⟨tb, to_, tn, tc, rfl, hR, hb⟩
  have bb := Lib.hid (below_then bb.out (Nat.le_refl _) hb)
  have X0 := Lib.hid (X0.out.later hb); have X1 := Lib.hid (X1.out.later hb); have R0 := Lib.hid (R0.out.below hb); have R1 := Lib.hid (R1.out.below hb)
  have hA := Lib.hid (hA.out.below hb)
  have hB := Lib.hid (hR.whole (int_small (by decide) (by decide)) (by omega))
  clear hR hb
  go_wp2_with fail
  refine (wDivMod_any sb tb so to_ sn sc tn tc (7) (-2) _ hA.out hB.out).mono ?_
  rintro e w23 ⟨hb, h⟩
  rcases h with ⟨h, _⟩ | ⟨_, vb2, vo2, vn2, vc2, ub2, uo2, un2, uc2, rfl, hQ, hS⟩
  · exact absurd h (by decide)
  have hQ2 : Hid (Right w23 vb2 vo2 vn2 vc2 (-4)) := Lib.hid hQ
  have hS2 : Hid (Right w23 ub2 uo2 un2 uc2 (-1)) := Lib.hid hS
  have bb := Lib.hid (below_then bb.out (Nat.le_refl _) hb)
  have X0 := Lib.hid (X0.out.later hb); have X1 := Lib.hid (X1.out.later hb); have R0 := Lib.hid (R0.out.below hb); have R1 := Lib.hid (R1.out.below hb)
  clear hb hA hB hQ hS
  go_wp2_with fail
  refine gen_wp (fun w' => Below w.heap.size w w' ∧ Box w' w13.heap.size (.bool vb1) (.slice vo1 vn1 vc1) ∧ Box w' (w13.heap.size + 1) (.bool ub1) (.slice uo1 un1 uc1) ∧ Box w' w23.heap.size (.bool vb2) (.slice vo2 vn2 vc2) ∧ Box w' (w23.heap.size + 1) (.bool ub2) (.slice uo2 un2 uc2) ∧ Right w' vb1 vo1 vn1 vc1 (-4) ∧ Right w' ub1 uo1 un1 uc1 1 ∧ Right w' vb2 vo2 vn2 vc2 (-4) ∧ Right w' ub2 uo2 un2 uc2 (-1))
    ⟨(bb.out.alloc bb.out.size _).alloc (bb.out.alloc bb.out.size _).size _, (X0.out.alloc _).alloc _, (X1.out.alloc _).alloc _, (Box.new _ _ _ rfl).alloc _, Box.new _ _ _ (by simp), (R0.out.alloc _).alloc _, (R1.out.alloc _).alloc _, (hQ2.out.alloc _).alloc _, (hS2.out.alloc _).alloc _⟩ ?_
  rintro w24 ⟨bb, x0, x1, x2, x3, r0, r1, r2, r3⟩
  clear X0 X1 R0 R1 hQ2 hS2
  have bb := bb.drew; have x0 := x0.drew; have x1 := x1.drew; have x2 := x2.drew; have x3 := x3.drew; have r0 := r0.drew; have r1 := r1.drew; have r2 := r2.drew; have r3 := r3.drew
  go_region_held3 (fun w' => w'.cell? ⟨w13.heap.size, 0, none⟩ = some (.bool vb1) ∧ w'.cell? ⟨w13.heap.size, 1, none⟩ = some (.slice vo1 vn1 vc1) ∧ w'.cell? ⟨(w13.heap.size + 1), 0, none⟩ = some (.bool ub1) ∧ w'.cell? ⟨(w13.heap.size + 1), 1, none⟩ = some (.slice uo1 un1 uc1) ∧ w'.cell? ⟨w23.heap.size, 0, none⟩ = some (.bool vb2) ∧ w'.cell? ⟨w23.heap.size, 1, none⟩ = some (.slice vo2 vn2 vc2) ∧ w'.cell? ⟨(w23.heap.size + 1), 0, none⟩ = some (.bool ub2) ∧ w'.cell? ⟨(w23.heap.size + 1), 1, none⟩ = some (.slice uo2 un2 uc2))
    (first | with_reducible exact ⟨x0.c0, x0.c1, x1.c0, x1.c1, x2.c0, x2.c1, x3.c0, x3.c1⟩ | go_keep)
    (first
    | (go_at_call 29; refine (rOf_any _ _ (by decide) (by decide)).mono ?_; rintro e w30 ⟨tb, to_, tn, tc, rfl, hT, hb⟩; have bb := below_then bb (Nat.le_refl _) hb; have x0 := x0.later hb; have x1 := x1.later hb; have x2 := x2.later hb; have x3 := x3.later hb; have r0 := r0.below hb; have r1 := r1.below hb; have r2 := r2.below hb; have r3 := r3.below hb)
    | (go_at_call_of 10 vo1; refine (same3_any vb1 tb vo1 to_ vn1 vc1 tn tc (-4) _ r0 hT).mono ?_; rintro e w31 ⟨rfl, hb⟩; have bb := below_then bb (Nat.le_refl _) hb; have x0 := x0.later hb; have x1 := x1.later hb; have x2 := x2.later hb; have x3 := x3.later hb; have r0 := r0.below hb; have r1 := r1.below hb; have r2 := r2.below hb; have r3 := r3.below hb)
    | (go_at_call_of 10 uo1; refine (same3_any ub1 tb uo1 to_ un1 uc1 tn tc 1 _ r1 hT).mono ?_; rintro e w31 ⟨rfl, hb⟩; have bb := below_then bb (Nat.le_refl _) hb; have x0 := x0.later hb; have x1 := x1.later hb; have x2 := x2.later hb; have x3 := x3.later hb; have r0 := r0.below hb; have r1 := r1.below hb; have r2 := r2.below hb; have r3 := r3.below hb)
    | (go_at_call_of 10 vo2; refine (same3_any vb2 tb vo2 to_ vn2 vc2 tn tc (-4) _ r2 hT).mono ?_; rintro e w31 ⟨rfl, hb⟩; have bb := below_then bb (Nat.le_refl _) hb; have x0 := x0.later hb; have x1 := x1.later hb; have x2 := x2.later hb; have x3 := x3.later hb; have r0 := r0.below hb; have r1 := r1.below hb; have r2 := r2.below hb; have r3 := r3.below hb)
    | (go_at_call_of 10 uo2; refine (same3_any ub2 tb uo2 to_ un2 uc2 tn tc (-1) _ r3 hT).mono ?_; rintro e w31 ⟨rfl, hb⟩; have bb := below_then bb (Nat.le_refl _) hb; have x0 := x0.later hb; have x1 := x1.later hb; have x2 := x2.later hb; have x3 := x3.later hb; have r0 := r0.below hb; have r1 := r1.below hb; have r2 := r2.below hb; have r3 := r3.below hb))
  go_wp2_with fail
  go_ret
  exact ⟨rfl, bb⟩

end Go.Proofs.Ytkcbppijajgoiaa
