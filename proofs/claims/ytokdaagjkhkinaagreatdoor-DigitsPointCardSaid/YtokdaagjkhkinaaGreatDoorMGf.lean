/-
  scrimref05.Print.
-/
import Derived.Test.YtokdaagjkhkinaaGreatDoorMF
namespace Go.Proofs.YtokdaagjkhkinaaGreatDoor
open Go.RowKit Num

attribute [local go_sem ↓] Go.wp_at_zero Go.wp_at_succ

set_option maxRecDepth 20000 in
set_option maxHeartbeats 2000000 in
theorem refPrint_any (ab : Bool) (ap aq : Option Addr) (an ac am ae : Nat) (P : Int) (Q : Nat) (w : World) (A : Rt w ab ap an ac aq am ae P Q) (lA : Low P Q) :
    Calls Tryz.prog 10 #[.agg #[.bool ab, .slice ap an ac, .slice aq am ae]] w (PrintPost P Q w) := by
  have lA' := Lib.hid lA
  have A' := Lib.hid A
  have hab' := Lib.hid A.top.neg
  clear A lA
  go_enter Tryz.func10, Tryz.ntmps10
  go_wp2_with fail
  refine gen_calls (fun w' => Below w.heap.size w w' ∧ Box3 w' w.heap.size (.bool ab) (.slice ap an ac) (.slice aq am ae))
    ⟨((Below.refl _ _).alloc (Nat.le_refl _) _), (Box3.new _ _ _ _ rfl)⟩ ?_
  rintro w0 ⟨bb, x0⟩
  refine (refText5_any ab ap an ac P _ (A'.out.below bb).top lA'.out.abs_lt).mono ?_
  rintro e w1 ⟨s, rfl, hs, hn, hb⟩
  have x1 := x0.later hb
  have bb1 := Lib.hid (below_then bb (Nat.le_refl _) hb)
  have hs' := Lib.hid hs
  have x1' := Lib.hid x1
  clear hb bb x0 hs
  have q0 := x1.c0; have q1 := x1.c1; have q2 := x1.c2; have q3 := x1.fr 0; have q4 := x1.fr 1; have q5 := x1.fr 2
  clear x1
  go_wp2_with fail
  refine (isWhole_any ab ap aq an ac am ae P Q _ (A'.out.below bb1.out)).mono ?_
  rintro e w2 ⟨rfl, hb⟩
  have x2 := x1'.out.later hb
  have bb2 := Lib.hid (below_then bb1.out (Nat.le_refl _) hb)
  have x2' := Lib.hid x2
  clear hb bb1 x1'
  clear q0 q1 q2 q3 q4 q5
  have q0 := x2.c0; have q1 := x2.c1; have q2 := x2.c2; have q3 := x2.fr 0; have q4 := x2.fr 1; have q5 := x2.fr 2
  clear x2
  by_cases hQ : Q = 1
  · have dQ : decide (Q = 1) = true := decide_eq_true hQ
    have hQ' := Lib.hid hQ
    clear hQ
    rw [dQ]
    by_cases hP : P < 0
    · have hP' := Lib.hid hP
      have hab := hab'.out
      rw [decide_eq_true hP] at hab
      clear hab'
      subst hab
      clear hP
      go_wp2_with fail
      go_ret
      exact ⟨_, rfl, by rw [hQ'.out, list_append]; exact printed_whole_neg hs'.out hP'.out, bb2.out⟩
    · have hP' := Lib.hid hP
      have hab := hab'.out
      rw [decide_eq_false hP] at hab
      clear hab'
      subst hab
      clear hP
      go_wp2_with fail
      go_ret
      exact ⟨_, rfl, by rw [hQ'.out]; exact printed_whole hs'.out (Int.not_lt.2 hP'.out), bb2.out⟩
  · have dQ : decide (Q = 1) = false := decide_eq_false hQ
    have hQ' := Lib.hid hQ
    clear hQ
    rw [dQ]
    go_wp2_with fail
    refine (refText5_any false aq am ae Q _ (A'.out.below bb2.out).bot lA'.out.bot_lt).mono ?_
    rintro e w4 ⟨t, rfl, ht, tn, hb⟩
    have bb4 := Lib.hid (below_then bb2.out (Nat.le_refl _) hb)
    have x4 := x2'.out.later hb
    have ht' := Lib.hid ht
    clear hb bb2 x2' ht q0 q1 q2 q3 q4 q5
    have q0 := x4.c0
    clear x4
    have sz : (s ++ ByteArray.mk #[114] ++ t).size ≤ 5000 := by
      rw [ByteArray.size_append, ByteArray.size_append, show (ByteArray.mk #[114]).size = 1 from rfl]; omega
    by_cases hP : P < 0
    · have hP' := Lib.hid hP
      have hab := hab'.out
      rw [decide_eq_true hP] at hab
      clear hab'
      subst hab
      clear hP
      go_wp2_with fail
      go_ret
      exact ⟨_, rfl, by rw [list_append, list_append, list_append]; have k := printed_by_neg hs'.out ht'.out hP'.out hQ'.out; simpa using k, bb4.out⟩
    · have hP' := Lib.hid hP
      have hab := hab'.out
      rw [decide_eq_false hP] at hab
      clear hab'
      subst hab
      clear hP
      go_wp2_with fail
      go_ret
      exact ⟨_, rfl, by rw [list_append, list_append]; have k := printed_by hs'.out ht'.out (Int.not_lt.2 hP'.out) hQ'.out; simpa using k, bb4.out⟩

end Go.Proofs.YtokdaagjkhkinaaGreatDoor
