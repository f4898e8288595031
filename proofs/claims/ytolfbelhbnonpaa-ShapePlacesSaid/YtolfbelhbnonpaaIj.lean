/-
  scrimlaw07.ShapePlaces, walked.
-/
import Derived.Test.YtolfbelhbnonpaaIh
namespace Go.Proofs.Ytolfbelhbnonpaa
open Go.RowKit

set_option maxRecDepth 20000 in
set_option maxHeartbeats 4000000 in
theorem places_walk (hC : CountC) (hI : IndexC) (hT : AtC) (ao bo : Option Addr) (n nc m mc : Nat) (f g : Nat → Int) (c : Int) (w : World) (hn : n ≤ nc) (hnc : nc ≤ 9223372036854775807) (hf : SlZ w ao n f) (hm : m ≤ mc) (hmc : mc ≤ 9223372036854775807) (hg : SlZ w bo m g)
    (h0 : -9223372036854775808 ≤ c) (h1 : c ≤ 9223372036854775807) :
    Calls Try.prog 4 #[.slice ao n nc, .slice bo m mc, .int .i64 c] w (Tell (.bool true) w) := by
  have hA := Lib.hid (awake7_any hC hI)
  replace hC := Lib.hid hC; replace hI := Lib.hid hI; replace hT := Lib.hid hT
  go_enter Try.func4, Try.ntmps4
  go_wp2_with fail
  refine (hI.out ao bo n nc m mc f g w hn hnc hf hm hmc hg).mono ?_
  rintro e w1 ⟨⟨k, ok, rfl, hk⟩, hb⟩
  have z1 := Lib.hid (hf.below hb); have y1 := Lib.hid (hg.below hb); have b1 := Lib.hid hb; have k1 := Lib.hid hk
  clear hf hg hb hk
  go_wp2_with fail
  refine (index7_any ao n nc f bo m mc g w1 (by omega) z1.out y1.out).mono ?_
  rintro e w2 ⟨⟨want, rfl, hw⟩, hb⟩
  have z2 := Lib.hid (z1.out.below hb); have b2 := Lib.hid (b1.out.trans (hb.mono b1.out.size))
  clear hb z1 y1 b1
  have hkw : (ok = true ∧ want = k ∧ 0 ≤ want) ∨ (ok = false ∧ want = -1 ∧ k = 0) := by
    rcases k1.out with ⟨⟨N, q1⟩, q2, q3, q4⟩ | ⟨q1, q2, q3⟩ <;> rcases hw with ⟨r1, r2, r3⟩ | ⟨r1, r2⟩
    · exact .inl ⟨q4, r3.2.symm.trans q3.2, (r3.range q1).1⟩
    · exact absurd ⟨⟨N, q1⟩, q2, _, q3⟩ r2
    · exact absurd ⟨r1, r2, _, r3⟩ q3
    · exact .inr ⟨q2, r1, q1⟩
  clear hw k1
  rcases hkw with ⟨rfl, rfl, hw0⟩ | ⟨rfl, rfl, rfl⟩
  all_goals
    go_wp2_with fail
    refine (hT.out ao n nc f c w2 hn hnc z2.out h0 h1).mono ?_
    rintro e w3 ⟨po, r, pc, h, is, rfl, q1, q2, hp, hb, hat⟩
    have z3 := Lib.hid (z2.out.below hb); have b3 := Lib.hid (b2.out.trans (hb.mono b2.out.size)); have p3 := Lib.hid hp; have a3 := Lib.hid hat
    clear hb hp hat z2 b2
    go_wp2_with fail
    refine (places7_any ao n nc f w3 (by omega) z3.out).mono ?_
    rintro e w4 ⟨lo, N, lc, vs, rfl, hN1, hN2, hS, hcells, hrows, hb⟩
    have b4 := Lib.hid (b3.out.trans (hb.mono b3.out.size)); have p4 := Lib.hid (p3.out.below hb)
    have hrows' := Lib.hid hrows
    have his : (is = true ∧ r = n ∧ (∃ t : Nat, c = t ∧ t < N) ∧ PlaceIs f h n c) ∨ (is = false ∧ r = 0 ∧ ¬ (0 ≤ c ∧ c < N)) := by
      rcases a3.out with ⟨⟨M, s1, s2, s3⟩, s4, s5, s6⟩ | ⟨s1, s2, s3⟩
      · rcases hS with ⟨_, u⟩ | u
        · exact absurd s1 (u M)
        · have : M = N := s1.all.trans u.all.symm
          obtain ⟨t, rfl⟩ := Int.eq_ofNat_of_zero_le s2
          exact .inl ⟨s6, s4, ⟨t, rfl, by omega⟩, s5⟩
      · refine .inr ⟨s2, s1, fun u => ?_⟩
        rcases hS with ⟨v, _⟩ | v
        · omega
        · exact s3 ⟨_, v, u.1, u.2⟩
    clear hb z3 b3 p3 a3 hS hrows
    rcases his with ⟨rfl, rfl, ⟨t, rfl, ht⟩, hpl⟩ | ⟨rfl, rfl, hno⟩
    · have hpl' := Lib.hid hpl
      clear hpl
      rcases hcells with hz | ⟨B, rfl, hc⟩
      · omega
      obtain ⟨h', ho, hp⟩ := hrows'.out t ht
      have hp' := Lib.hid hp
      obtain ⟨qo, qc, hv, k1, k2, k3⟩ := owns_ints ho
      have c0 := hc t ht
      rw [hv] at c0
      have y4 := Lib.hid k3
      clear hc ho hp hv k3 hrows'
      go_wp2_with fail
      refine (ints7_any po qo _ pc _ qc h h' w4 (by omega) p4.out y4.out).mono ?_
      rintro e w5 ⟨⟨rfl, _⟩ | ⟨_, hne⟩, hb⟩
      · have b5 := Lib.hid (b4.out.trans (hb.mono b4.out.size))
        clear hb b4 p4 y4 c0
        go_wp2_with fail
        refine (hA.out _).mono ?_
        rintro e w6 ⟨rfl, hb⟩
        have b6 := Lib.hid (b5.out.trans (hb.mono b5.out.size))
        clear hb b5
        go_wp2_with fail
        go_ret
        exact ⟨rfl, b6.out⟩
      · exact absurd ⟨rfl, place_uniq _ hpl'.out.1 hp'.out.1 (hpl'.out.2.trans hp'.out.2.symm)⟩ hne
    · have hno' := Lib.hid hno
      clear hcells hrows' p4
      by_cases hc0 : 0 ≤ c
      · have hc1 : (N : Int) ≤ c := by omega
        clear hno
        go_wp2_with fail
        refine (hA.out _).mono ?_
        rintro e w6 ⟨rfl, hb⟩
        have b6 := Lib.hid (b4.out.trans (hb.mono b4.out.size))
        clear hb b4
        go_wp2_with fail
        go_ret
        exact ⟨rfl, b6.out⟩
      · clear hno
        go_wp2_with fail
        refine (hA.out _).mono ?_
        rintro e w6 ⟨rfl, hb⟩
        have b6 := Lib.hid (b4.out.trans (hb.mono b4.out.size))
        clear hb b4
        go_wp2_with fail
        go_ret
        exact ⟨rfl, b6.out⟩

end Go.Proofs.Ytolfbelhbnonpaa
