/-
  scrimlaw07.ShapeWhole, walked.
-/
import Derived.Test.YtolfbelhbnonpaaIh
namespace Go.Proofs.Ytolfbelhbnonpaa
open Go.RowKit

set_option maxRecDepth 20000 in
set_option maxHeartbeats 4000000 in
theorem whole7_walk (hC : CountC) (hI : IndexC) (hT : AtC) (ao : Option Addr) (n nc : Nat) (f : Nat → Int) (w : World) (hn : n ≤ nc) (hnc : nc ≤ 9223372036854775807) (hf : SlZ w ao n f) :
    Calls Try.prog 5 #[.slice ao n nc] w (Tell (.bool true) w) := by
  have hA := Lib.hid (awake7_any hC hI)
  replace hC := Lib.hid hC; replace hI := Lib.hid hI; replace hT := Lib.hid hT
  go_enter Try.func5, Try.ntmps5
  go_wp2_with fail
  refine (hC.out ao n nc f w hn hnc hf).mono ?_
  rintro e w1 ⟨⟨N, E, rfl, hN⟩, hb⟩
  have hz := Lib.hid hf; have b1 := Lib.hid hb
  clear hf hb
  by_cases hE : E = 0
  · have hS := hN.shape hE
    subst hE
    obtain ⟨M, rfl⟩ := Int.eq_ofNat_of_zero_le hS.nonneg
    have hM : M ≤ 2048 := by have := hS.most; omega
    have hS' := Lib.hid hS
    clear hN hS
    go_wp2_with fail
    go_loopw [5] (fun i wr => ∃ j : Nat, j ≤ M ∧ i = .int .i64 j ∧ Hid (Below w.heap.size w wr)) (fun i _ => M - (intOfZ i).toNat)
    case atStart => exact ⟨0, Nat.zero_le _, rfl, b1⟩
    case round =>
      obtain ⟨j, hj, rfl, hbr⟩ := hrel
      clear b1
      by_cases hlt : j < M
      · go_wp2_with fail
        refine (hT.out ao n nc f j wr hn hnc (hz.out.below hbr.out) (by omega) (by omega)).mono ?_
        rintro e w2 ⟨po, r, pc, h, is, rfl, q1, q2, hp, hb, hat⟩
        have b2 := Lib.hid (hbr.out.trans (hb.mono hbr.out.size))
        rcases hat with ⟨_, rfl, hpl, rfl⟩ | ⟨_, _, hno⟩
        · have p2 := Lib.hid hp; have hpl' := Lib.hid hpl
          clear hp hb hbr hpl
          go_wp2_with fail
          refine (hI.out ao po _ nc _ pc f h w2 hn hnc (hz.out.below b2.out) q1 q2 p2.out).mono ?_
          rintro e w3 ⟨⟨k, ok, rfl, hk⟩, hb⟩
          have b3 := Lib.hid (b2.out.trans (hb.mono b2.out.size))
          rcases hk with ⟨_, _, hp3, rfl⟩ | ⟨_, _, hno⟩
          · obtain rfl : k = (j : Int) := hp3.2.symm.trans hpl'.out.2
            clear hb b2 p2 hp3 hpl'
            go_wp2_with fail
            go_roundw
            case rel => exact ⟨j + 1, by omega, by go_num, b3⟩
            case measure => simp [intOfZ]; omega
          · exact absurd ⟨⟨_, hS'.out⟩, rfl, _, hpl'.out⟩ hno
        · exact absurd ⟨_, hS'.out, by omega, by omega⟩ hno
      · obtain rfl : j = M := by omega
        go_wp2_with fail
        refine (hT.out ao n nc f j wr hn hnc (hz.out.below hbr.out) (by omega) (by omega)).mono ?_
        rintro e w2 ⟨po, r, pc, h, is, rfl, q1, q2, hp, hb, hat⟩
        have b2 := Lib.hid (hbr.out.trans (hb.mono hbr.out.size))
        rcases hat with ⟨⟨K, s1, _, s2⟩, _⟩ | ⟨_, rfl, _⟩
        · have := s1.all.trans hS'.out.all.symm
          omega
        · clear hp hb hbr
          go_wp2_with fail
          refine (hA.out _).mono ?_
          rintro e w3 ⟨rfl, hb⟩
          have b3 := Lib.hid (b2.out.trans (hb.mono b2.out.size))
          clear hb b2
          go_wp2_with fail
          go_ret
          exact ⟨rfl, b3.out⟩
  · have hEb : (E != 0) = true := by rw [bne_iff_ne]; exact hE
    clear hN hE
    go_wp2_with fail
    refine (hA.out _).mono ?_
    rintro e w2 ⟨rfl, hb⟩
    have b2 := Lib.hid (b1.out.trans (hb.mono b1.out.size))
    clear hb b1
    go_wp2_with fail
    go_ret
    exact ⟨rfl, b2.out⟩

end Go.Proofs.Ytolfbelhbnonpaa
