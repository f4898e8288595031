/-
  scrimlaw06.GlyphEncodes, walked.
-/
import Derived.Test.YtgaombefigjilaaHm
import Derived.Test.YtgaombefigjilaaHo
namespace Go.Proofs.Ytgaombefigjilaa
open Go.RowKit

theorem enc_size {s : ByteArray} {f : Nat → Int} {k : Nat} (hk : k ≤ 1000) (hs : s.data.toList = (encAll f k).map UInt8.ofNat) : s.size ≤ 100000 := by
  have h1 := congrArg List.length hs
  have h2 := encAll_len (f := f) k
  simp at h1
  omega

set_option maxRecDepth 20000 in
set_option maxHeartbeats 4000000 in
theorem encodes_walk (ao : Option Addr) (n nc : Nat) (f : Nat → Int) (w : World) (hn : n ≤ nc) (hnc : nc ≤ 9223372036854775807) (hf : SlZ w ao n f) :
    Calls Try.prog 4 #[.slice ao n nc] w (Tell (.bool true) w) := by
  obtain ⟨k, hk⟩ : ∃ k, k = min n 200 := ⟨_, rfl⟩
  have hk200 : k ≤ 200 := by omega
  have hz := Lib.hid (hf.mono (m := k) (by omega))
  have hk' := Lib.hid hk
  clear hk hf
  by_cases c1 : 200 < n
  all_goals
    have hk2 := hk'.out
    first | rw [Nat.min_eq_right (show 200 ≤ n by omega)] at hk2 | rw [Nat.min_eq_left (show n ≤ 200 by omega)] at hk2
    subst hk2
    clear hk'
    go_enter Try.func4, Try.ntmps4
    go_wp2_with fail
    refine (encodeP_any ao _ nc f w (by omega) hz.out).mono ?_
    rintro e w1 ⟨hb, h⟩
    have hz := Lib.hid (hz.out.below hb)
    have b1 := Lib.hid hb
    clear hb
    rcases h with ⟨hm, s, rfl, hs⟩ | ⟨⟨j, hj, hm⟩, rfl⟩
    · have hm' := Lib.hid hm; have hs' := Lib.hid hs
      clear hm hs
      go_wp2_with fail
      refine (refEncode_any ao _ nc f _ (by omega) hz.out).mono ?_
      rintro e w2 ⟨hb, ⟨_, t, rfl, ht⟩ | ⟨⟨j, hj, hm⟩, _⟩⟩
      · obtain rfl : t = s := text_eq (ht.trans hs'.out.symm)
        have hz := Lib.hid (hz.out.below hb)
        have b2 := Lib.hid (b1.out.trans (hb.mono b1.out.size))
        have hsz := Lib.hid (enc_size (by omega) hs'.out)
        have hd := Lib.hid (enc_dec hm'.out hs'.out)
        clear hb ht b1
        go_wp2_with fail
        refine (decodeP_any t hsz.out _).mono ?_
        rintro e w3 ⟨bo, m, mc, g, r, rfl, hm1, hm2, hy, hdy, hb⟩
        obtain ⟨rfl, rfl, hfg⟩ := hdy.uniq hd.out
        have hz := Lib.hid (hz.out.below hb)
        have b3 := Lib.hid (b2.out.trans (hb.mono b2.out.size))
        have hy' := Lib.hid hy; have hfg' := Lib.hid hfg
        clear hb hy hdy hfg b2
        go_wp2_with fail
        refine (ints_any bo ao _ mc _ nc g f _ (by omega) hy'.out hz.out).mono ?_
        rintro e w4 ⟨⟨rfl, _⟩ | ⟨_, h⟩, hb⟩
        · have b4 := Lib.hid (b3.out.trans (hb.mono b3.out.size))
          clear hb b3
          go_wp2_with fail
          refine (awake6_any _).mono ?_
          rintro e w5 ⟨rfl, hb⟩
          have b5 := Lib.hid (b4.out.trans (hb.mono b4.out.size))
          clear hb b4
          go_wp2_with fail
          go_ret
          exact ⟨rfl, b5.out⟩
        · exact absurd ⟨rfl, hfg'.out⟩ h
      · have := hm'.out j hj
        rw [hm] at this
        cases this
    · have hj' := Lib.hid hj; have hm' := Lib.hid hm
      clear hj hm
      go_wp2_with fail
      refine (refEncode_any ao _ nc f _ (by omega) hz.out).mono ?_
      rintro e w2 ⟨hb, ⟨hall, _⟩ | ⟨_, rfl⟩⟩
      · have := hall j hj'.out
        rw [hm'.out] at this
        cases this
      · have b2 := Lib.hid (b1.out.trans (hb.mono b1.out.size))
        clear hb b1
        go_wp2_with fail
        refine (awake6_any _).mono ?_
        rintro e w3 ⟨rfl, hb⟩
        have b3 := Lib.hid (b2.out.trans (hb.mono b2.out.size))
        clear hb b2
        go_wp2_with fail
        go_ret
        exact ⟨rfl, b3.out⟩

end Go.Proofs.Ytgaombefigjilaa
