/-
  scrimlaw02.NatTexts, walked.
-/
import Derived.Test.YtajkdinlannmnaaDoorDecJ
namespace Go.Proofs.YtajkdinlannmnaaDoor
open Go.RowKit Num

set_option maxHeartbeats 4000000 in
theorem texts_walk (ao : Option Addr) (n nc : Nat) (f : Nat → Nat) (s : ByteArray) (w : World) (hn : n ≤ nc) (hnc : nc ≤ 9223372036854775807) (hf : Sl w ao n f) (lf : Lim f n) :
    Calls Tryd.prog 3 #[.slice ao n nc, .string s] w (Tells (.bool true) w) := by
  obtain ⟨k, hk⟩ : ∃ k, k = min n 40 := ⟨_, rfl⟩
  have hA := Lib.hid (show Arg w ao k nc f from ⟨by omega, hnc, by omega, hf.mono (by omega), lf.mono (by omega)⟩)
  obtain ⟨x, hx⟩ : ∃ x, x = val f k := ⟨_, rfl⟩
  have bx := Lib.hid (show x < pw 40 by rw [hx]; exact Nat.lt_of_lt_of_le (val_lt (lf.mono (by omega))) (pw_le (by omega)))
  have hx' := Lib.hid hx; have hk' := Lib.hid hk
  have hk40 : k ≤ 40 := by omega
  clear hx hk hf lf
  obtain ⟨u, hu⟩ : ∃ u, u = (if 300 < s.size then s.extract 0 300 else s) := ⟨_, rfl⟩
  have hus : u.size ≤ 300 := by
    rw [hu]
    split
    · rw [ByteArray.size_extract]; omega
    · omega
  by_cases c300 : 300 < s.size
  all_goals
    first | rw [if_pos c300] at hu | rw [if_neg c300] at hu
    have hu' := Lib.hid hu
    clear hu
    go_enter Tryd.func3, Tryd.ntmps3
    go_wp2_with fail
    refine (few_any ao n nc w hn hnc).mono ?_
    rintro e w' ⟨rfl, rfl⟩
    rw [← hk'.out]
    go_wp2_with fail
    refine (text_any ao k nc f w hA.out 40 hk40 (by omega)).mono ?_
    rw [← hx'.out]
    rintro e w1 ⟨k1, d1, t, rfl, hd0, ht0, hb⟩
    have hd1 := Lib.hid hd0; have ht1 := Lib.hid ht0
    have hT := Lib.hid (dec_isT hd0 ht0 bx.out)
    have hA := Lib.hid (hA.out.below hb); have hw := Lib.hid hb
    clear hd0 ht0 hb
    go_wp2_with fail
    refine (parse_any t hT.out.2.2 w1).mono ?_
    rintro e w2 ⟨hb, ⟨h, _⟩ | ⟨_, bo, bn, bc, b, rfl, hbn, hbc, hsb, hcb⟩⟩
    · exact absurd hT.out.1 h
    rw [hT.out.2.1] at hcb
    have sb := Lib.hid hsb; have cb := Lib.hid hcb
    have hA := Lib.hid (hA.out.below hb); have hw := Lib.hid (hw.out.trans (hb.mono hw.out.size))
    clear hb hsb hcb
    go_wp2_with fail
    refine (refText_any ao k nc f w2 hA.out hk40).mono ?_
    rw [← hx'.out]
    rintro e w3 ⟨k3, d3, t3, rfl, hd3, ht3, hb⟩
    obtain rfl := dec_uniq hd1.out hd3 ht1.out ht3
    have sb := Lib.hid (sb.out.below hb)
    have hA := Lib.hid (hA.out.below hb); have hw := Lib.hid (hw.out.trans (hb.mono hw.out.size))
    have htt : (t.toList != t.toList) = false := by simp
    clear hb hd3 ht3
    go_wp2_with fail
    refine (refNorm_any ao k nc f w3 hA.out).mono ?_
    rw [← hx'.out]
    rintro e w4 ⟨co, cn, cc, c, rfl, hcn, hcc, hsc, hcn', hb⟩
    have sb := Lib.hid (sb.out.below hb); have sc := Lib.hid hsc; have ccn := Lib.hid hcn'
    have hw := Lib.hid (hw.out.trans (hb.mono hw.out.size))
    clear hb hsc hcn'
    go_wp2_with fail
    refine (same_t bo co x bn bc cn cc b c w4 hbn hbc sb.out sc.out cb.out ccn.out).mono ?_
    rintro e w5 ⟨rfl, hb⟩
    have hw := Lib.hid (hw.out.trans (hb.mono hw.out.size))
    clear hb
    go_wp2_with fail
    rw [← hu'.out]
    refine (parse_any u (by omega) w5).mono ?_
    rintro e w6 ⟨hb, ⟨hno, rfl⟩ | ⟨hyes, po, pn, pc, p, rfl, hpn, hpc, hsp, hcp⟩⟩
    · have hno' := Lib.hid hno
      have hw := Lib.hid (hw.out.trans (hb.mono hw.out.size))
      clear hb hno
      go_wp2_with fail
      refine (refParse_any u (by omega) w6).mono ?_
      rintro e w7 ⟨hb, ⟨_, rfl⟩ | ⟨h, _⟩⟩
      · have hw := Lib.hid (hw.out.trans (hb.mono hw.out.size))
        clear hb
        go_wp2_with fail
        refine (same_t none none 0 0 0 0 0 (fun _ => 0) (fun _ => 0) w7 (Nat.le_refl _) (by omega) (Sl.nil _ _ _) (Sl.nil _ _ _) (canon_zero _) (canon_zero _)).mono ?_
        rintro e w8 ⟨rfl, hb⟩
        have hw := Lib.hid (hw.out.trans (hb.mono hw.out.size))
        clear hb
        go_wp2_with fail
        refine (awake_t w8).mono ?_
        rintro e w9 ⟨rfl, hb⟩
        have hw := Lib.hid (hw.out.trans (hb.mono hw.out.size))
        clear hb
        go_wp2_with fail
        go_ret
        exact ⟨rfl, hw.out⟩
      · exact absurd h hno'.out
    · have hyes' := Lib.hid hyes
      have hpn3 := sval_few hyes.2.1 (Nat.le_refl _) hcp
      have hP := Lib.hid (show Arg w6 po pn pc p from ⟨hpn, hpc, by omega, hsp, hcp.lim⟩)
      have sp := Lib.hid hsp; have cp := Lib.hid hcp
      have hw := Lib.hid (hw.out.trans (hb.mono hw.out.size))
      clear hb hyes hsp hcp
      go_wp2_with fail
      refine (refParse_any u (by omega) w6).mono ?_
      rintro e w7 ⟨hb, ⟨h, _⟩ | ⟨_, qo, qn, qc, q, rfl, hqn, hqc, hsq, hcq⟩⟩
      · exact absurd hyes'.out h
      have sp := Lib.hid (sp.out.below hb); have sq := Lib.hid hsq; have cq := Lib.hid hcq
      have hP := Lib.hid (hP.out.below hb)
      have hw := Lib.hid (hw.out.trans (hb.mono hw.out.size))
      clear hb hsq hcq
      go_wp2_with fail
      refine (same_t po qo _ pn pc qn qc p q w7 hpn hpc sp.out sq.out cp.out cq.out).mono ?_
      rintro e w8 ⟨rfl, hb⟩
      have hP := Lib.hid (hP.out.below hb)
      have hw := Lib.hid (hw.out.trans (hb.mono hw.out.size))
      clear hb
      go_wp2_with fail
      refine (text_any po pn pc p w8 hP.out 400 (by omega) (Nat.le_refl _)).mono ?_
      rw [cp.out.val]
      rintro e w9 ⟨k9, d9, t9, rfl, hd9, ht9, hb⟩
      obtain ⟨k0, d0, hd0, ht0⟩ := isT_dec hyes'.out
      have ht9' := dec_uniq hd9 hd0 ht9 ht0
      have hw := Lib.hid (hw.out.trans (hb.mono hw.out.size))
      have huu : (t9.toList == u.toList) = true := by rw [ht9']; simp
      clear hb hd9 ht9 hd0 ht0 ht9'
      go_wp2_with fail
      refine (awake_t w9).mono ?_
      rintro e w10 ⟨rfl, hb⟩
      have hw := Lib.hid (hw.out.trans (hb.mono hw.out.size))
      clear hb
      go_wp2_with fail
      go_ret
      exact ⟨rfl, hw.out⟩

end Go.Proofs.YtajkdinlannmnaaDoor
