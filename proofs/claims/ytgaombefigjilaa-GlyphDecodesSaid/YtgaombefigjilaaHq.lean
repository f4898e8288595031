/-
  scrimlaw06.GlyphDecodes, walked.
-/
import Derived.Test.YtgaombefigjilaaHm
import Derived.Test.YtgaombefigjilaaHo
namespace Go.Proofs.Ytgaombefigjilaa
open Go.RowKit

theorem dec_count {s : ByteArray} {f : Nat → Int} {n : Nat} {r : Int} (h : Dec s n f r) : n ≤ s.size := by
  obtain ⟨_, h1, h2⟩ := dec_enc h
  have h3 := congrArg List.length h2
  have h4 := (encAll_len (f := f) n).1
  simp at h3
  omega

/-- The bytes that are told of the characters are the text ahead of where it ended. -/
theorem back_eq {s b : ByteArray} {f : Nat → Int} {n A : Nat} {r : Int} (h : Dec s n f r) (hb : b.data.toList = (encAll f n).map UInt8.ofNat) (hA : A = posAt s n) : b = s.extract 0 A := by
  obtain ⟨_, h1, h2⟩ := dec_enc h
  refine text_eq ?_
  rw [hb, h2, hA, ByteArray.data_extract, Array.toList_extract, List.extract_eq_take_drop, List.drop_zero, Nat.sub_zero]

set_option maxRecDepth 20000 in
set_option maxHeartbeats 4000000 in
theorem decodes_walk (s : ByteArray) (w : World) (hs : s.size ≤ 9223372036854775807) :
    Calls Try.prog 3 #[.string s] w (Tell (.bool true) w) := by
  by_cases c1 : 500 < s.size
  all_goals
    go_enter Try.func3, Try.ntmps3
    go_wp2_with fail
    first
      | (have ht : (s.extract 0 500).size ≤ 500 := by rw [ByteArray.size_extract]; omega
         obtain ⟨t, htq⟩ : ∃ t, t = s.extract 0 500 := ⟨_, rfl⟩
         rw [← htq] at ht ⊢
         clear htq c1 hs)
      | (have ht : s.size ≤ 500 := by omega
         obtain ⟨t, htq⟩ : ∃ t, t = s := ⟨_, rfl⟩
         rw [← htq] at ht ⊢
         clear htq c1 hs)
    refine (decodeP_any t (by omega) w).mono ?_
    rintro e w1 ⟨ao, n, nc, f, r, rfl, hn, hnc, hz, hd, hb⟩
    have hz' := Lib.hid hz; have hd' := Lib.hid hd; have b1 := Lib.hid hb
    clear hz hd hb
    go_wp2_with fail
    refine (refDecode_any t (by omega) _).mono ?_
    rintro e w2 ⟨bo, m, mc, g, q, rfl, hm, hmc, hy, hdy, hb⟩
    obtain ⟨rfl, rfl, hfg⟩ := hd'.out.uniq hdy
    have z2 := Lib.hid (hz'.out.below hb)
    have hy' := Lib.hid hy; have hfg' := Lib.hid hfg; have b2 := Lib.hid (b1.out.trans (hb.mono b1.out.size))
    clear hz' hy hfg hb hdy b1
    go_wp2_with fail
    refine (ints_any ao bo _ nc _ mc f g _ (by omega) z2.out hy'.out).mono ?_
    rintro e w3 ⟨⟨rfl, _⟩ | ⟨_, h⟩, hb⟩
    · have hc := dec_count hd'.out
      have z3 := Lib.hid (z2.out.below hb)
      have b3 := Lib.hid (b2.out.trans (hb.mono b2.out.size))
      clear hb z2 b2 hy' hfg'
      have hen := Lib.hid (fun w => encodeP_any ao n nc f w (by omega))
      rcases id hd'.out.2 with ⟨h1, rfl⟩ | ⟨h1, _, rfl⟩
      · have hA := Lib.hid (show t.size = posAt t n by have := (dec_enc hd'.out).2.1; omega)
        clear h1
        go_wp2_with fail
        refine (hen.out _ z3.out).mono ?_
        rintro e w4 ⟨hb, ⟨_, b, rfl, hbk⟩ | ⟨⟨j, hj, hm⟩, _⟩⟩
        · have b4 := Lib.hid (b3.out.trans (hb.mono b3.out.size))
          obtain rfl := back_eq hd'.out hbk hA.out
          clear hb b3 hbk
          go_wp2_with fail
          refine (awake6_any _).mono ?_
          rintro e w5 ⟨rfl, hb⟩
          have b5 := Lib.hid (b4.out.trans (hb.mono b4.out.size))
          clear hb b4
          go_wp2_with fail
          go_ret
          exact ⟨rfl, b5.out⟩
        · have := (dec_enc hd'.out).1 j hj
          rw [hm] at this
          cases this
      · obtain ⟨A, hA⟩ : ∃ A, A = posAt t n := ⟨_, rfl⟩
        rw [← hA] at h1 ⊢
        have hA' := Lib.hid hA
        clear hA
        go_wp2_with fail
        refine (hen.out _ z3.out).mono ?_
        rintro e w4 ⟨hb, ⟨_, b, rfl, hbk⟩ | ⟨⟨j, hj, hm⟩, _⟩⟩
        · have b4 := Lib.hid (b3.out.trans (hb.mono b3.out.size))
          obtain rfl := back_eq hd'.out hbk hA'.out
          clear hb b3 hbk
          go_wp2_with fail
          refine (awake6_any _).mono ?_
          rintro e w5 ⟨rfl, hb⟩
          have b5 := Lib.hid (b4.out.trans (hb.mono b4.out.size))
          clear hb b4
          go_wp2_with fail
          go_ret
          exact ⟨rfl, b5.out⟩
        · have := (dec_enc hd'.out).1 j hj
          rw [hm] at this
          cases this
    · exact absurd ⟨rfl, hfg'.out⟩ h

end Go.Proofs.Ytgaombefigjilaa
