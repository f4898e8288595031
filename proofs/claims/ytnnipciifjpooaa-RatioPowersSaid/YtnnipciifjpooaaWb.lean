/-
  whole.Sign, whole.Cmp, whole.Of.
-/
import Derived.Test.YtnnipciifjpooaaInt
import Derived.Test.YtnnipciifjpooaaCmp
import Derived.Test.YtnnipciifjpooaaAwake
namespace Go.Proofs.Ytnnipciifjpooaa
open Go.RowKit Num

attribute [local go_sem ↓] Go.wp_at_zero Go.wp_at_succ

/-- This comes back; what lay there before lies there still. -/
def Says (v : Value) (w : World) (e : Ending) (w' : World) : Prop := e = .returned v ∧ Below w.heap.size w w'

theorem below_drawn {w w' : World} (h : ∃ q, w' = w.drewN q) : Below w.heap.size w w' := by
  obtain ⟨q, rfl⟩ := h
  exact below_drewN (Below.refl _ _) q

theorem sign_sgn (b : Bool) (v : Nat) : (sgn b v).sign = if b then -cmpI v 0 else cmpI v 0 := by
  cases b
  · by_cases h : v = 0
    · subst h; simp [sgn, cmpI]
    · have h1 : (0 : Int) < (v : Int) := by omega
      simp only [sgn_false, Int.sign_eq_one_of_pos h1, cmpI_gt h1]; simp
  · by_cases h : v = 0
    · subst h; simp [sgn, cmpI]
    · have h1 : (0 : Int) < (v : Int) := by omega
      simp only [sgn_true, Int.sign_neg, Int.sign_eq_one_of_pos h1, cmpI_gt h1]; simp

set_option maxHeartbeats 1000000 in
theorem wSign_any (b : Bool) (ao : Option Addr) (n nc : Nat) (x : Int) (w : World) (A : Whole w b ao n nc x) :
    Calls Try.prog 53 #[.agg #[.bool b, .slice ao n nc]] w (Says (.int .i64 x.sign) w) := by
  obtain ⟨f, A, hx⟩ := A.ex
  have A' := Lib.hid A
  have hs : x.sign = if b then -cmpI (val f n) 0 else cmpI (val f n) 0 := by rw [← hx]; exact sign_sgn b _
  rw [hs]
  clear A hx hs
  cases b
  all_goals
   go_enter Try.func53, Try.ntmps53
   go_wp2_with fail
   refine gen_calls (fun w' => Below w.heap.size w w' ∧ Box w' w.heap.size _ (.slice ao n nc)) ⟨(Below.refl _ w).alloc (Nat.le_refl _) _, Box.new _ _ _ rfl⟩ ?_
   rintro w0 ⟨hb0, x0⟩
   refine (cmp_any ao none n nc 0 0 f (fun _ => 0) _ (A'.out.below hb0) ⟨Nat.le_refl _, by omega, by omega, .inl rfl, fun _ h => by omega⟩).mono ?_
   rintro e w1 ⟨rfl, hd⟩
   have hb := below_drawn hd
   have y0 := x0.later hb
   have hb1 := Lib.hid (below_then hb0 (Nat.le_refl _) hb)
   have p0 := y0.c0
   clear hd hb hb0 x0
   have hv : cmpI (val f n : Nat) (val (fun _ => 0) 0 : Nat) = cmpI (val f n) 0 := rfl
   rw [hv]
   have hc : cmpI (val f n) 0 = 0 ∨ cmpI (val f n) 0 = 1 := by
     by_cases h : val f n = 0
     · exact .inl (cmpI_eq (by omega))
     · exact .inr (cmpI_gt (by omega))
   clear hv
   rcases hc with hc | hc <;> have hc' := Lib.hid hc <;> rw [hc] <;> clear hc
   all_goals
     go_wp2_with fail
     go_ret
     refine ⟨ret_num ?_, hb1.out⟩
     simp [hc'.out]

theorem wrap_back (v : Nat) (h : v ≤ 9223372036854775808) : IntKind.u64.wrap (-IntKind.u64.wrap (-(v : Int))) = (v : Int) := by
  simp [IntKind.wrap, IntKind.bits, IntKind.signed]
  omega

theorem sl_two {w : World} {B : Nat} {u v : Int} {x y : Nat} (t : TypeId) (h : B = w.heap.size) (hu : u = x) (hv : v = y) : Sl (w.alloc (.cells #[.int .u32 u, .int .u32 v] t)) (some ⟨B, 0, none⟩) 2 (put (fun _ => x) 1 y) := by
  subst h
  exact sl_new2 w t u v x y hu hv
theorem lim_two {x y : Nat} (hx : x < 4294967296) (hy : y < 4294967296) : Lim (put (fun _ => x) 1 y) 2 := put_lim (fun _ _ => hx) hy
theorem val_pair (x y : Nat) : val (put (fun _ => x) 1 y) 2 = x + 4294967296 * y := by
  rw [val_succ, val_succ, val_zero, put_at, put_ne (by decide)]
  simp [pw]
  omega

set_option maxHeartbeats 1000000 in
theorem wOf_any (n : Int) (w : World) (h0 : -9223372036854775808 ≤ n) (h1 : n ≤ 9223372036854775807) :
    Calls Try.prog 71 #[.int .i64 n] w (IntPost n w) := by
  by_cases hn : n < 0
  · obtain ⟨v, hv⟩ : ∃ v : Nat, n = -(v : Int) := ⟨n.natAbs, by omega⟩
    subst hv
    have hw := wrap_back v (by omega)
    have hp : 0 < v := by omega
    go_enter Try.func71, Try.ntmps71
    go_wp2_with fail
    refine gen_calls (fun w' => Below w.heap.size w w' ∧ Box w' w.heap.size (.bool false) (.slice none 0 0) ∧ Sl w' (some ⟨w.heap.size + 1, 0, none⟩) 2 (put (fun _ => v % 4294967296) 1 (v / 4294967296)))
      ⟨((Below.refl _ w).alloc (Nat.le_refl _) _).alloc (by simp) _, (Box.new _ _ _ rfl).alloc _, sl_two _ (by simp) (by omega) (by omega)⟩ ?_
    rintro w0 ⟨hb0, x0, hs⟩
    refine (norm_any (some ⟨w.heap.size + 1, 0, none⟩) 2 2 _ _ ⟨Nat.le_refl _, by omega, by omega, hs, lim_two (by omega) (by omega)⟩).mono ?_
    rw [val_pair, Nat.mod_add_div]
    rintro e w1 ⟨co, cn, cc, c, rfl, g1, g2, g3, g4, hb⟩
    have y0 := x0.later hb
    have hb1 := Lib.hid (below_then hb0 (Nat.le_refl _) hb)
    have g3' := Lib.hid g3; have g4' := Lib.hid g4
    clear g3 g4 hb hs x0 hb0
    go_wp2_with fail
    refine (signed_any true co _ cn cc c _ g1 g2 g3'.out g4'.out).mono ?_
    rintro e w3 ⟨sb, so, sn, sc, rfl, hR, hb4⟩
    have z2 := y0.later hb4
    have q1 := z2.c0; have q2 := z2.c1; have q3 := z2.fr 0; have q4 := z2.fr 1
    have hb2 := below_then hb1.out (Nat.le_refl _) hb4
    have z3 := z2.set (.bool sb) (.slice so sn sc)
    have e0 := z3.c0; have e1 := z3.c1
    have hR' := Lib.hid hR; have z2' := Lib.hid z2; have hb2' := Lib.hid hb2
    clear hR z2 hb2 hb4 y0
    go_wp2_with fail
    refine bodyPost_ret (v := .agg #[.bool sb, .slice so sn sc]) (by simp [results, Try.results71, go_sem, e0, e1]) rfl ?_
    exact IntPost.stored hR'.out z2'.out hb2'.out (by omega)
  · obtain ⟨v, hv⟩ : ∃ v : Nat, n = (v : Int) := ⟨n.natAbs, by omega⟩
    subst hv
    go_enter Try.func71, Try.ntmps71
    go_wp2_with fail
    refine gen_calls (fun w' => Below w.heap.size w w' ∧ Box w' w.heap.size (.bool false) (.slice none 0 0) ∧ Sl w' (some ⟨w.heap.size + 1, 0, none⟩) 2 (put (fun _ => v % 4294967296) 1 (v / 4294967296)))
      ⟨((Below.refl _ w).alloc (Nat.le_refl _) _).alloc (by simp) _, (Box.new _ _ _ rfl).alloc _, sl_two _ (by simp) (by omega) (by omega)⟩ ?_
    rintro w0 ⟨hb0, x0, hs⟩
    refine (norm_any (some ⟨w.heap.size + 1, 0, none⟩) 2 2 _ _ ⟨Nat.le_refl _, by omega, by omega, hs, lim_two (by omega) (by omega)⟩).mono ?_
    rw [val_pair, Nat.mod_add_div]
    rintro e w1 ⟨co, cn, cc, c, rfl, g1, g2, g3, g4, hb⟩
    have y0 := x0.later hb
    have hb1 := Lib.hid (below_then hb0 (Nat.le_refl _) hb)
    have g3' := Lib.hid g3; have g4' := Lib.hid g4
    clear g3 g4 hb hs x0 hb0
    go_wp2_with fail
    refine (signed_any false co _ cn cc c _ g1 g2 g3'.out g4'.out).mono ?_
    rintro e w3 ⟨sb, so, sn, sc, rfl, hR, hb4⟩
    have z2 := y0.later hb4
    have q1 := z2.c0; have q2 := z2.c1; have q3 := z2.fr 0; have q4 := z2.fr 1
    have hb2 := below_then hb1.out (Nat.le_refl _) hb4
    have z3 := z2.set (.bool sb) (.slice so sn sc)
    have e0 := z3.c0; have e1 := z3.c1
    have hR' := Lib.hid hR; have z2' := Lib.hid z2; have hb2' := Lib.hid hb2
    clear hR z2 hb2 hb4 y0
    go_wp2_with fail
    refine bodyPost_ret (v := .agg #[.bool sb, .slice so sn sc]) (by simp [results, Try.results71, go_sem, e0, e1]) rfl ?_
    exact IntPost.stored hR'.out z2'.out hb2'.out (by omega)

end Go.Proofs.Ytnnipciifjpooaa
