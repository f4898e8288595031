/-
  scrimlaw07.ShapeAxes, walked.
-/
import Derived.Test.YtolfbelhbnonpaaIh
namespace Go.Proofs.Ytolfbelhbnonpaa
open Go.RowKit

theorem tail_prod (f : Nat → Int) (i : Nat) : ∀ k, prodZ (fun j => f (i + j)) k = tailZ f i k
  | 0 => rfl
  | k + 1 => by show prodZ (fun j => f (i + j)) k * f (i + k) = tailZ f i k * f (i + k); rw [tail_prod f i k]

theorem capZ_bound {p : Int} (h : 0 ≤ p) : 0 ≤ capZ p ∧ capZ p ≤ 2048 := by
  unfold capZ
  split <;> omega

/-- What is ahead, along and behind, multiplied, is all; or there are no cells. -/
theorem around_all {f : Nat → Int} {n x : Nat} {N : Int} (s : Shape f n N) (hx : x < n) : N = 0 ∨ capZ (prodZ f x) * f x * capZ (prodZ (fun j => f (x + 1 + j)) (n - (x + 1))) = N := by
  by_cases h0 : N = 0
  · exact .inl h0
  · have hN := s.nonneg
    have hp := s.pos (by omega)
    have e1 : N = prodZ f x * (f x * tailZ f (x + 1) (n - (x + 1))) := by
      rw [s.all, ← tail_front, show n - (x + 1) + 1 = n - x by omega]
      have := prod_tail f x (n - x)
      rwa [show x + (n - x) = n by omega] at this
    have p1 : 1 ≤ prodZ f x := prodZ_pos x fun j hj => by have := hp j (by omega); omega
    have p3 : 1 ≤ prodZ (fun j => f (x + 1 + j)) (n - (x + 1)) := prodZ_pos _ fun j hj => by have := hp (x + 1 + j) (by omega); omega
    have p2 := hp x hx
    rw [← tail_prod] at e1
    obtain ⟨A, hA⟩ : ∃ A, A = prodZ f x := ⟨_, rfl⟩
    obtain ⟨B, hB⟩ : ∃ B, B = f x := ⟨_, rfl⟩
    obtain ⟨C, hC⟩ : ∃ C, C = prodZ (fun j => f (x + 1 + j)) (n - (x + 1)) := ⟨_, rfl⟩
    rw [← hA, ← hB, ← hC] at e1 ⊢
    rw [← hA] at p1
    rw [← hB] at p2
    rw [← hC] at p3
    have hm := s.most
    have k1 : 1 ≤ B * C := by have := Int.mul_le_mul (show (1 : Int) ≤ B by omega) p3 (by decide) (by omega); omega
    have k2 : A ≤ N := by rw [e1]; have := Int.mul_le_mul_of_nonneg_left k1 (show 0 ≤ A by omega); omega
    have k3 : 1 ≤ A * B := by have := Int.mul_le_mul p1 (show (1 : Int) ≤ B by omega) (by decide) (by omega); omega
    have k4 : C ≤ N := by rw [e1, ← Int.mul_assoc]; have := Int.mul_le_mul_of_nonneg_right k3 (show 0 ≤ C by omega); omega
    refine .inr ?_
    unfold capZ
    rw [if_pos (by omega), if_pos (by omega), e1, Int.mul_assoc]

set_option maxRecDepth 20000 in
set_option maxHeartbeats 4000000 in
theorem axes_walk (hC : CountC) (hI : IndexC) (hR : AroundC) (hW : WithC) (hO : WithoutC) (ao : Option Addr) (n nc : Nat) (f : Nat → Int) (axis m : Int) (w : World) (hn : n ≤ nc) (hnc : nc ≤ 9223372036854775807) (hf : SlZ w ao n f)
    (h0 : -9223372036854775808 ≤ axis) (h1 : axis ≤ 9223372036854775807) (h2 : -9223372036854775808 ≤ m) (h3 : m ≤ 9223372036854775807) :
    Calls Try.prog 6 #[.slice ao n nc, .int .i64 axis, .int .i64 m] w (Tell (.bool true) w) := by
  have hA := Lib.hid (awake7_any hC hI)
  replace hC := Lib.hid hC; replace hI := Lib.hid hI; replace hR := Lib.hid hR; replace hW := Lib.hid hW; replace hO := Lib.hid hO
  by_cases h20 : 20 < n
  · go_enter Try.func6, Try.ntmps6
    go_wp2_with fail
    refine (hA.out _).mono ?_
    rintro e w1 ⟨rfl, hb⟩
    have b1 := Lib.hid hb
    clear hb hf
    go_wp2_with fail
    go_ret
    exact ⟨rfl, b1.out⟩
  · have h20n : n ≤ 20 := by omega
    clear h20
    go_enter Try.func6, Try.ntmps6
    go_wp2_with fail
    refine (hR.out ao n nc f axis w hn hnc hf h0 h1).mono ?_
    rintro e w1 ⟨⟨b, k, a, ok, rfl, hr⟩, hb⟩
    have z1 := Lib.hid (hf.below hb); have b1 := Lib.hid hb; have r1 := Lib.hid hr
    clear hf hb hr
    go_wp2_with fail
    refine (around7_any ao n nc f axis w1 hn hnc z1.out h0 h1).mono ?_
    rintro e w2 ⟨⟨c, l, d, is, rfl, hr⟩, hb⟩
    obtain ⟨rfl, rfl, rfl, rfl⟩ := r1.out.uniq hr
    have z2 := Lib.hid (z1.out.below hb); have b2 := Lib.hid (b1.out.trans (hb.mono b1.out.size))
    clear hb hr z1 b1
    go_wp2_with fail
    refine (hW.out ao n nc f axis m w2 hn hnc (by omega) z2.out h0 h1 h2 h3).mono ?_
    rintro e w3 ⟨wo, wn, wc, wf, x, rfl, q1, q2, hz, hb, hw⟩
    have z3 := Lib.hid (z2.out.below hb); have b3 := Lib.hid (b2.out.trans (hb.mono b2.out.size)); have y3 := Lib.hid hz; have s3 := Lib.hid hw
    clear hb hz hw z2 b2
    go_wp2_with fail
    refine (with7_any ao n nc f axis m w3 hn hnc (by omega) z3.out h0 h1).mono fun e w4 h => ?_
    obtain ⟨vo, vn, vc, vf, y, rfl, q3, q4, hz, hb, hw⟩ := MadeB.some h
    obtain ⟨hs1, rfl⟩ := s3.out.uniq hw
    have z4 := Lib.hid (z3.out.below hb); have b4 := Lib.hid (b3.out.trans (hb.mono b3.out.size)); have y4 := Lib.hid (y3.out.below hb); have x4 := Lib.hid hz; have hs1' := Lib.hid hs1
    clear hb hz hw z3 b3 y3 s3 h hs1
    go_wp2_with fail
    refine (hO.out ao n nc f axis w4 hn hnc (by omega) z4.out h0 h1).mono ?_
    rintro e w5 ⟨oo, on, oc, of, p, rfl, q5, q6, hz, hb, hw⟩
    have z5 := Lib.hid (z4.out.below hb); have b5 := Lib.hid (b4.out.trans (hb.mono b4.out.size)); have y5 := Lib.hid (y4.out.below hb); have x5 := Lib.hid (x4.out.below hb); have o5 := Lib.hid hz; have s5 := Lib.hid hw
    clear hb hz hw z4 b4 y4 x4
    go_wp2_with fail
    refine (without7_any ao n nc f axis w5 hn hnc (by omega) z5.out h0 h1).mono fun e w6 h => ?_
    obtain ⟨qo, qn, qc, qf, r, rfl, q7, q8, hz, hb, hw⟩ := MadeB.some h
    obtain ⟨hs2, rfl⟩ := s5.out.uniq hw
    have z6 := Lib.hid (z5.out.below hb); have b6 := Lib.hid (b5.out.trans (hb.mono b5.out.size)); have y6 := Lib.hid (y5.out.below hb); have x6 := Lib.hid (x5.out.below hb); have o6 := Lib.hid (o5.out.below hb); have t6 := Lib.hid hz; have hs2' := Lib.hid hs2
    clear hb hz hw z5 b5 y5 x5 o5 s5 h hs2
    go_wp2_with fail
    refine (ints7_any wo vo wn wc vn vc wf vf w6 (by omega) y6.out x6.out).mono ?_
    rintro e w7 ⟨⟨rfl, _⟩ | ⟨_, h⟩, hb⟩
    · have z7 := Lib.hid (z6.out.below hb); have b7 := Lib.hid (b6.out.trans (hb.mono b6.out.size)); have o7 := Lib.hid (o6.out.below hb); have t7 := Lib.hid (t6.out.below hb)
      clear hb z6 b6 y6 x6 o6 t6 hs1'
      go_wp2_with fail
      refine (ints7_any oo qo on oc qn qc of qf w7 (by omega) o7.out t7.out).mono ?_
      rintro e w8 ⟨⟨rfl, _⟩ | ⟨_, h⟩, hb⟩
      · have z8 := Lib.hid (z7.out.below hb); have b8 := Lib.hid (b7.out.trans (hb.mono b7.out.size))
        clear hb z7 b7 o7 t7 hs2'
        go_wp2_with fail
        refine (hC.out ao n nc f w8 hn hnc z8.out).mono ?_
        rintro e w9 ⟨⟨N, E, rfl, hN⟩, hb⟩
        have b9 := Lib.hid (b8.out.trans (hb.mono b8.out.size)); have hN' := Lib.hid hN
        clear hb z8 b8 hN
        rcases id r1.out with ⟨t, _, htn, ⟨M, hM⟩, hk, hbb, ha, rfl⟩ | ⟨_, _, _, _, rfl⟩
        · obtain ⟨rfl, rfl⟩ := hN'.out.uniq (fun _ _ => rfl) hM.countIs
          have hall := around_all hM htn
          rw [← hk, ← hbb, ← ha] at hall
          have c1 : 0 ≤ b ∧ b ≤ 2048 := by rw [hbb]; exact capZ_bound (prodZ_nonneg _ fun j hj => hM.low j (by omega))
          have c2 : 0 ≤ a ∧ a ≤ 2048 := by rw [ha]; exact capZ_bound (prodZ_nonneg _ fun j hj => hM.low _ (by omega))
          have c3 : 0 ≤ k ∧ k ≤ 2048 := by rw [hk]; exact ⟨hM.low t htn, hM.high t htn⟩
          obtain ⟨z, hz⟩ : ∃ z, z = b * k := ⟨_, rfl⟩
          have z0 : 0 ≤ z ∧ z ≤ 4194304 := by rw [hz]; exact ⟨Int.mul_nonneg c1.1 c3.1, Int.mul_le_mul c1.2 c3.2 c3.1 (by decide)⟩
          rw [← hz] at hall
          obtain ⟨y, hy⟩ : ∃ y, y = z * a := ⟨_, rfl⟩
          have y0 : 0 ≤ y ∧ y ≤ 8589934592 := by rw [hy]; exact ⟨Int.mul_nonneg z0.1 c2.1, Int.mul_le_mul z0.2 c2.2 c2.1 (by decide)⟩
          rw [← hy] at hall
          have w1 : IntKind.i64.wrap (b * k) = z := by rw [← hz]; simp [IntKind.wrap, IntKind.bits, IntKind.signed]; omega
          have w2 : IntKind.i64.wrap (z * a) = y := by rw [← hy]; simp [IntKind.wrap, IntKind.bits, IntKind.signed]; omega
          clear hM hk hbb ha c1 c2 c3 hz hy z0 y0 hN' r1
          by_cases hyN : y = N
          · have d1 : (y == N) = true := by rw [beq_iff_eq]; exact hyN
            clear hall hyN
            go_wp2_with fail
            refine (hA.out _).mono ?_
            rintro e w10 ⟨rfl, hb⟩
            have b10 := Lib.hid (b9.out.trans (hb.mono b9.out.size))
            clear hb b9
            go_wp2_with fail
            go_ret
            exact ⟨rfl, b10.out⟩
          · have d1 : (y == N) = false := by rw [beq_eq_false_iff_ne]; exact hyN
            have d2 : (N == 0) = true := by rw [beq_iff_eq]; rcases hall with h | h; exact h; exact absurd h hyN
            clear hall hyN
            go_wp2_with fail
            refine (hA.out _).mono ?_
            rintro e w10 ⟨rfl, hb⟩
            have b10 := Lib.hid (b9.out.trans (hb.mono b9.out.size))
            clear hb b9
            go_wp2_with fail
            go_ret
            exact ⟨rfl, b10.out⟩
        · clear r1 hN'
          go_wp2_with fail
          refine (hA.out _).mono ?_
          rintro e w10 ⟨rfl, hb⟩
          have b10 := Lib.hid (b9.out.trans (hb.mono b9.out.size))
          clear hb b9
          go_wp2_with fail
          go_ret
          exact ⟨rfl, b10.out⟩
      · exact absurd hs2'.out h
    · exact absurd hs1'.out h

end Go.Proofs.Ytolfbelhbnonpaa
