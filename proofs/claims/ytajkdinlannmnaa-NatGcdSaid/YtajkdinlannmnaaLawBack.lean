/-
  scrimlaw02.NatBack, walked.
-/
import Derived.Test.YtajkdinlannmnaaAwake
import Derived.Test.YtajkdinlannmnaaAdd
import Derived.Test.YtajkdinlannmnaaSub
import Derived.Test.YtajkdinlannmnaaMul
namespace Go.Proofs.Ytajkdinlannmnaa
open Go.RowKit Num

/-- A call that tells one value; what lay there before lies there still. -/
def Tells (v : Value) (w : World) (e : Ending) (w' : World) : Prop := e = .returned v ∧ Below w.heap.size w w'

theorem Tells.of_drawn {P : Program} {k : FuncId} {args : Array Value} {w : World} {v : Value} (h : Calls P k args w fun e w' => e = .returned v ∧ ∃ q, w' = w.drewN q) : Calls P k args w (Tells v w) :=
  h.mono fun _ _ ⟨he, _, hw⟩ => ⟨he, by rw [hw]; exact below_drewN (Below.refl _ _) _⟩

theorem same_t (ao bo : Option Addr) (v n nc m mc : Nat) (f g : Nat → Nat) (w : World) (hn : n ≤ nc) (hnc : nc ≤ 9223372036854775807) (hf : Sl w ao n f) (hg : Sl w bo m g) (cf : Canon v n f) (cg : Canon v m g) :
    Calls Try.prog 10 #[.slice ao n nc, .slice bo m mc] w (Tells (.bool true) w) := Tells.of_drawn (same_canon ao bo v n nc m mc f g w hn hnc hf hg cf cg)
theorem cmp_t (ao bo : Option Addr) (n nc m mc : Nat) (f g : Nat → Nat) (w : World) (A : Arg w ao n nc f) (B : Arg w bo m mc g) :
    Calls Try.prog 11 #[.slice ao n nc, .slice bo m mc] w (Tells (.int .i64 (cmpI (val f n) (val g m))) w) := Tells.of_drawn (cmp_any ao bo n nc m mc f g w A B)
theorem awake_t (w : World) : Calls Try.prog 19 #[] w (Tells (.bool true) w) := awake_any w

theorem small {v k : Nat} (h : v < pw k) (hk : k ≤ 1000000) : v < pw 1000000 := Nat.lt_of_lt_of_le h (pw_le hk)

set_option maxHeartbeats 2000000 in
theorem back_walk (ao bo : Option Addr) (n nc m mc : Nat) (f g : Nat → Nat) (w : World) (hn : n ≤ nc) (hnc : nc ≤ 9223372036854775807) (hm : m ≤ mc) (hmc : mc ≤ 9223372036854775807)
    (hf : Sl w ao n f) (hg : Sl w bo m g) (lf : Lim f n) (lg : Lim g m) :
    Calls Try.prog 5 #[.slice ao n nc, .slice bo m mc] w (Tells (.bool true) w) := by
  obtain ⟨k, hk⟩ : ∃ k, k = min n 40 := ⟨_, rfl⟩
  obtain ⟨l, hl⟩ : ∃ l, l = min m 40 := ⟨_, rfl⟩
  have hA := Lib.hid (show Arg w ao k nc f from ⟨by omega, hnc, by omega, hf.mono (by omega), lf.mono (by omega)⟩)
  have hB := Lib.hid (show Arg w bo l mc g from ⟨by omega, hmc, by omega, hg.mono (by omega), lg.mono (by omega)⟩)
  obtain ⟨x, hx⟩ : ∃ x, x = val f k := ⟨_, rfl⟩
  obtain ⟨y, hy⟩ : ∃ y, y = val g l := ⟨_, rfl⟩
  have bx := Lib.hid (show x < pw 40 by rw [hx]; exact Nat.lt_of_lt_of_le (val_lt (lf.mono (by omega))) (pw_le (by omega)))
  have byy := Lib.hid (show y < pw 40 by rw [hy]; exact Nat.lt_of_lt_of_le (val_lt (lg.mono (by omega))) (pw_le (by omega)))
  have hx' := Lib.hid hx; have hy' := Lib.hid hy; have hk' := Lib.hid hk; have hl' := Lib.hid hl
  clear hx hy hk hl hf hg lf lg
  go_enter Try.func5, Try.ntmps5
  go_wp2_with fail
  refine (few_any ao n nc w hn hnc).mono ?_
  rintro e w' ⟨rfl, rfl⟩
  rw [← hk'.out]
  go_wp2_with fail
  refine (few_any bo m mc w hm hmc).mono ?_
  rintro e w' ⟨rfl, rfl⟩
  rw [← hl'.out]
  go_wp2_with fail
  refine (divMod_any ao bo k nc l mc f g w hA.out hB.out).mono ?_
  rw [← hx'.out, ← hy'.out]
  rintro e w1 ⟨hb, h⟩
  have hA := Lib.hid (hA.out.below hb); have hB := Lib.hid (hB.out.below hb); have hw := Lib.hid hb
  rcases h with ⟨h0, rfl⟩ | ⟨h0, qo, qn, qc, q, ro, rn, rc, r, rfl, hqn, hqc, hrn, hrc, hsq, hcq, hsr, hcr⟩
  · clear hb
    have h0' := Lib.hid h0
    clear h0
    go_wp2_with fail
    refine (add_any ao bo k nc l mc f g w1 hA.out hB.out).mono ?_
    rw [← hx'.out, ← hy'.out]
    rintro e w11 ⟨so, sn, sc, s, rfl, hsn, hsc, hss, hcs, hb⟩
    have hA := Lib.hid (hA.out.below hb)
    have hB := Lib.hid (hB.out.below hb)
    have hw := Lib.hid (hw.out.trans (hb.mono hw.out.size))
    have hS := Lib.hid (hcs.arg hss hsn hsc (by have := bx.out; have := byy.out; have e : pw 41 = 4294967296 * pw 40 := rfl; exact small (k := 41) (by rw [e]; omega) (by omega)))
    have vs := Lib.hid hcs.val
    clear hb hss hcs
    go_wp2_with fail
    refine (sub_any so bo sn sc l mc s g w11 hS.out hB.out).mono ?_
    rw [vs.out, ← hy'.out]
    rintro e w12 ⟨hb, h⟩
    rcases h with ⟨h, _⟩ | ⟨_, eo, en, ec, d, rfl, hen, hec, hsd, hcd⟩
    · omega
    rw [Nat.add_sub_cancel] at hcd
    have hA := Lib.hid (hA.out.below hb)
    have hB := Lib.hid (hB.out.below hb)
    have hw := Lib.hid (hw.out.trans (hb.mono hw.out.size))
    have sd := Lib.hid hsd; have cd := Lib.hid hcd
    clear hb hsd hcd
    go_wp2_with fail
    refine (refNorm_any ao k nc f w12 hA.out).mono ?_
    rw [← hx'.out]
    rintro e w13 ⟨to_, tn, tc, t, rfl, htn, htc, hst, hct, hb⟩
    have hA := Lib.hid (hA.out.below hb)
    have hB := Lib.hid (hB.out.below hb)
    have sd := Lib.hid (sd.out.below hb)
    have hw := Lib.hid (hw.out.trans (hb.mono hw.out.size))
    have st := Lib.hid hst; have ct := Lib.hid hct
    clear hb hst hct
    go_wp2_with fail
    refine (same_t eo to_ x en ec tn tc d t w13 hen hec sd.out st.out cd.out ct.out).mono ?_
    rintro e w14 ⟨rfl, hb⟩
    have hB := Lib.hid (hB.out.below hb)
    have hw := Lib.hid (hw.out.trans (hb.mono hw.out.size))
    clear hb
    go_wp2_with fail
    refine (refNorm_any bo l mc g w14 hB.out).mono ?_
    rw [← hy'.out]
    rintro e w15 ⟨uo, un, uc, u, rfl, hun, huc, hsu, hcu, hb⟩
    have hw := Lib.hid (hw.out.trans (hb.mono hw.out.size))
    obtain rfl : un = 0 := hcu.ne_zero.2 h0'.out
    clear hb hsu hcu
    go_wp2_with fail
    refine (awake_t w15).mono ?_
    rintro e w16 ⟨rfl, hb⟩
    have hw := Lib.hid (hw.out.trans (hb.mono hw.out.size))
    clear hb
    go_wp2_with fail
    go_ret
    exact ⟨rfl, hw.out⟩
  · have h0' := Lib.hid h0
    have hQ := Lib.hid (hcq.arg hsq hqn hqc (Nat.lt_of_le_of_lt (Nat.div_le_self _ _) (small bx.out (by omega))))
    have hR := Lib.hid (hcr.arg hsr hrn hrc (Nat.lt_of_le_of_lt (Nat.mod_le _ _) (small bx.out (by omega))))
    have vq := Lib.hid hcq.val; have vr := Lib.hid hcr.val
    have hlt := Lib.hid (Nat.mod_lt x (Nat.pos_of_ne_zero h0))
    clear h0 hb hsq hcq hsr hcr
    go_wp2_with fail
    refine (mul_any qo bo qn qc l mc q g w1 hQ.out hB.out).mono ?_
    rw [vq.out, ← hy'.out]
    rintro e w2 ⟨po, pn, pc, p, rfl, hpn, hpc, hsp, hcp, hb⟩
    have hA := Lib.hid (hA.out.below hb)
    have hB := Lib.hid (hB.out.below hb)
    have hR := Lib.hid (hR.out.below hb)
    have hw := Lib.hid (hw.out.trans (hb.mono hw.out.size))
    have hP := Lib.hid (hcp.arg hsp hpn hpc (Nat.lt_of_le_of_lt (Nat.div_mul_le_self _ _) (small bx.out (by omega))))
    have vp := Lib.hid hcp.val
    clear hb hsp hcp
    go_wp2_with fail
    refine (add_any po ro pn pc rn rc p r w2 hP.out hR.out).mono ?_
    rw [vp.out, vr.out, Nat.div_add_mod']
    rintro e w3 ⟨co, cn, cc, c, rfl, hcn, hcc, hsc0, hcc0, hb⟩
    have hA := Lib.hid (hA.out.below hb)
    have hB := Lib.hid (hB.out.below hb)
    have hR := Lib.hid (hR.out.below hb)
    have hw := Lib.hid (hw.out.trans (hb.mono hw.out.size))
    have sc0 := Lib.hid hsc0; have cc0 := Lib.hid hcc0
    clear hb hsc0 hcc0
    go_wp2_with fail
    refine (refNorm_any ao k nc f w3 hA.out).mono ?_
    rw [← hx'.out]
    rintro e w4 ⟨io, in_, ic, i, rfl, hin, hic, hsi, hci, hb⟩
    have hA := Lib.hid (hA.out.below hb)
    have hB := Lib.hid (hB.out.below hb)
    have hR := Lib.hid (hR.out.below hb)
    have sc0 := Lib.hid (sc0.out.below hb)
    have hw := Lib.hid (hw.out.trans (hb.mono hw.out.size))
    have si := Lib.hid hsi; have ci := Lib.hid hci
    clear hb hsi hci
    go_wp2_with fail
    refine (same_t co io x cn cc in_ ic c i w4 hcn hcc sc0.out si.out cc0.out ci.out).mono ?_
    rintro e w5 ⟨rfl, hb⟩
    have hA := Lib.hid (hA.out.below hb)
    have hB := Lib.hid (hB.out.below hb)
    have hR := Lib.hid (hR.out.below hb)
    have hw := Lib.hid (hw.out.trans (hb.mono hw.out.size))
    clear hb
    go_wp2_with fail
    refine (cmp_t ro bo rn rc l mc r g w5 hR.out hB.out).mono ?_
    rw [vr.out, ← hy'.out, cmpI_lt (Int.ofNat_lt.2 hlt.out)]
    rintro e w6 ⟨rfl, hb⟩
    have hA := Lib.hid (hA.out.below hb)
    have hB := Lib.hid (hB.out.below hb)
    have hw := Lib.hid (hw.out.trans (hb.mono hw.out.size))
    clear hb
    go_wp2_with fail
    refine (add_any ao bo k nc l mc f g w6 hA.out hB.out).mono ?_
    rw [← hx'.out, ← hy'.out]
    rintro e w11 ⟨so, sn, sc, s, rfl, hsn, hsc, hss, hcs, hb⟩
    have hA := Lib.hid (hA.out.below hb)
    have hB := Lib.hid (hB.out.below hb)
    have hw := Lib.hid (hw.out.trans (hb.mono hw.out.size))
    have hS := Lib.hid (hcs.arg hss hsn hsc (by have := bx.out; have := byy.out; have e : pw 41 = 4294967296 * pw 40 := rfl; exact small (k := 41) (by rw [e]; omega) (by omega)))
    have vs := Lib.hid hcs.val
    clear hb hss hcs
    go_wp2_with fail
    refine (sub_any so bo sn sc l mc s g w11 hS.out hB.out).mono ?_
    rw [vs.out, ← hy'.out]
    rintro e w12 ⟨hb, h⟩
    rcases h with ⟨h, _⟩ | ⟨_, eo, en, ec, d, rfl, hen, hec, hsd, hcd⟩
    · omega
    rw [Nat.add_sub_cancel] at hcd
    have hA := Lib.hid (hA.out.below hb)
    have hB := Lib.hid (hB.out.below hb)
    have hw := Lib.hid (hw.out.trans (hb.mono hw.out.size))
    have sd := Lib.hid hsd; have cd := Lib.hid hcd
    clear hb hsd hcd
    go_wp2_with fail
    refine (refNorm_any ao k nc f w12 hA.out).mono ?_
    rw [← hx'.out]
    rintro e w13 ⟨to_, tn, tc, t, rfl, htn, htc, hst, hct, hb⟩
    have hA := Lib.hid (hA.out.below hb)
    have hB := Lib.hid (hB.out.below hb)
    have sd := Lib.hid (sd.out.below hb)
    have hw := Lib.hid (hw.out.trans (hb.mono hw.out.size))
    have st := Lib.hid hst; have ct := Lib.hid hct
    clear hb hst hct
    go_wp2_with fail
    refine (same_t eo to_ x en ec tn tc d t w13 hen hec sd.out st.out cd.out ct.out).mono ?_
    rintro e w14 ⟨rfl, hb⟩
    have hB := Lib.hid (hB.out.below hb)
    have hw := Lib.hid (hw.out.trans (hb.mono hw.out.size))
    clear hb
    go_wp2_with fail
    refine (refNorm_any bo l mc g w14 hB.out).mono ?_
    rw [← hy'.out]
    rintro e w15 ⟨uo, un, uc, u, rfl, hun, huc, hsu, hcu, hb⟩
    have hw := Lib.hid (hw.out.trans (hb.mono hw.out.size))
    have hun0 : 0 < un := Nat.pos_of_ne_zero (fun e => h0'.out (hcu.ne_zero.1 e))
    clear hb hsu hcu
    go_wp2_with fail
    refine (awake_t w15).mono ?_
    rintro e w16 ⟨rfl, hb⟩
    have hw := Lib.hid (hw.out.trans (hb.mono hw.out.size))
    clear hb
    go_wp2_with fail
    go_ret
    exact ⟨rfl, hw.out⟩

end Go.Proofs.Ytajkdinlannmnaa
