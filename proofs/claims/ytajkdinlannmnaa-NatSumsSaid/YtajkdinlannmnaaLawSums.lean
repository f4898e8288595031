/-
  scrimlaw02.NatSums, walked.
-/
import Derived.Test.YtajkdinlannmnaaLawBack
import Derived.Test.YtajkdinlannmnaaRefC
namespace Go.Proofs.Ytajkdinlannmnaa
open Go.RowKit Num

set_option maxHeartbeats 2000000 in
theorem sums_walk (ao bo : Option Addr) (n nc m mc : Nat) (f g : Nat → Nat) (w : World) (hn : n ≤ nc) (hnc : nc ≤ 9223372036854775807) (hm : m ≤ mc) (hmc : mc ≤ 9223372036854775807)
    (hf : Sl w ao n f) (hg : Sl w bo m g) (lf : Lim f n) (lg : Lim g m) :
    Calls Try.prog 3 #[.slice ao n nc, .slice bo m mc] w (Tells (.bool true) w) := by
  obtain ⟨k, hk⟩ : ∃ k, k = min n 40 := ⟨_, rfl⟩
  obtain ⟨l, hl⟩ : ∃ l, l = min m 40 := ⟨_, rfl⟩
  have hk40 : k ≤ 40 := by omega
  have hl40 : l ≤ 40 := by omega
  have hA := Lib.hid (show Arg w ao k nc f from ⟨by omega, hnc, by omega, hf.mono (by omega), lf.mono (by omega)⟩)
  have hB := Lib.hid (show Arg w bo l mc g from ⟨by omega, hmc, by omega, hg.mono (by omega), lg.mono (by omega)⟩)
  obtain ⟨x, hx⟩ : ∃ x, x = val f k := ⟨_, rfl⟩
  obtain ⟨y, hy⟩ : ∃ y, y = val g l := ⟨_, rfl⟩
  have bx := Lib.hid (show x < pw 40 by rw [hx]; exact Nat.lt_of_lt_of_le (val_lt (lf.mono (by omega))) (pw_le (by omega)))
  have byy := Lib.hid (show y < pw 40 by rw [hy]; exact Nat.lt_of_lt_of_le (val_lt (lg.mono (by omega))) (pw_le (by omega)))
  have hx' := Lib.hid hx; have hy' := Lib.hid hy; have hk' := Lib.hid hk; have hl' := Lib.hid hl
  clear hx hy hk hl hf hg lf lg
  go_enter Try.func3, Try.ntmps3
  go_wp2_with fail
  refine (few_any ao n nc w hn hnc).mono ?_
  rintro e w' ⟨rfl, rfl⟩
  rw [← hk'.out]
  go_wp2_with fail
  refine (few_any bo m mc w hm hmc).mono ?_
  rintro e w' ⟨rfl, rfl⟩
  rw [← hl'.out]
  have hw := Lib.hid (Below.refl w.heap.size w)
  go_wp2_with fail
  refine (sub_any ao bo k nc l mc f g w hA.out hB.out).mono ?_
  rw [← hx'.out, ← hy'.out]
  rintro e w1 ⟨hb, h⟩
  have hA := Lib.hid (hA.out.below hb)
  have hB := Lib.hid (hB.out.below hb)
  have hw := Lib.hid (hw.out.trans (hb.mono hw.out.size))
  rcases h with ⟨h0, rfl⟩ | ⟨h0, qo, qn, qc, q, rfl, hqn, hqc, hsq, hcq⟩
  · have h0' := Lib.hid h0
    clear hb h0
    go_wp2_with fail
    refine (refSub_any ao bo k nc l mc f g w1 hA.out hB.out).mono ?_
    rw [← hx'.out, ← hy'.out]
    rintro e w2 ⟨hb, h⟩
    have hA := Lib.hid (hA.out.below hb)
    have hB := Lib.hid (hB.out.below hb)
    have hw := Lib.hid (hw.out.trans (hb.mono hw.out.size))
    rcases h with ⟨_, rfl⟩ | ⟨h1, _⟩
    rotate_left
    · exact absurd h0'.out (Nat.not_lt.2 h1)
    clear hb
    go_wp2_with fail
    have z0 : Canon 0 0 (fun _ => 0) := canon_zero _
    refine (same_t none none 0 0 0 0 0 (fun _ => 0) (fun _ => 0) w2 (Nat.le_refl _) (by omega) (.inl rfl) (.inl rfl) z0 z0).mono ?_
    rintro e w3 ⟨rfl, hb⟩
    have hA := Lib.hid (hA.out.below hb)
    have hB := Lib.hid (hB.out.below hb)
    have hw := Lib.hid (hw.out.trans (hb.mono hw.out.size))
    clear hb
    go_wp2_with fail
    clear z0
    refine (cmp_t ao bo k nc l mc f g w3 hA.out hB.out).mono ?_
    rw [← hx'.out, ← hy'.out]
    rintro e w4 ⟨rfl, hb⟩
    have hA := Lib.hid (hA.out.below hb)
    have hB := Lib.hid (hB.out.below hb)
    have hw := Lib.hid (hw.out.trans (hb.mono hw.out.size))
    clear hb
    go_wp2_with fail
    refine (refCmp_any ao bo k nc l mc f g w4 hA.out hB.out).mono ?_
    rw [← hx'.out, ← hy'.out]
    rintro e w' ⟨rfl, rfl⟩
    go_wp2_with fail
    refine (norm_any ao k nc f w4 hA.out).mono ?_
    rw [← hx'.out]
    rintro e w5 ⟨co, cn, cc, c, rfl, hcn, hcc, hsc, hc, hb⟩
    have hA := Lib.hid (hA.out.below hb)
    have hB := Lib.hid (hB.out.below hb)
    have hw := Lib.hid (hw.out.trans (hb.mono hw.out.size))
    have sc := Lib.hid hsc; have cc1 := Lib.hid hc
    clear hb hsc hc
    go_wp2_with fail
    refine (refNorm_any ao k nc f w5 hA.out).mono ?_
    rw [← hx'.out]
    rintro e w6 ⟨do_, dn, dc, d, rfl, hdn, hdc, hsd, hd, hb⟩
    have hA := Lib.hid (hA.out.below hb)
    have hB := Lib.hid (hB.out.below hb)
    have sc := Lib.hid (sc.out.below hb)
    have hw := Lib.hid (hw.out.trans (hb.mono hw.out.size))
    have sd := Lib.hid hsd; have cd1 := Lib.hid hd
    clear hb hsd hd
    go_wp2_with fail
    refine (same_t co do_ x cn cc dn dc c d w6 hcn hcc sc.out sd.out cc1.out cd1.out).mono ?_
    rintro e w7 ⟨rfl, hb⟩
    have hA := Lib.hid (hA.out.below hb)
    have hB := Lib.hid (hB.out.below hb)
    have hw := Lib.hid (hw.out.trans (hb.mono hw.out.size))
    clear hb
    go_wp2_with fail
    refine (add_any ao bo k nc l mc f g w7 hA.out hB.out).mono ?_
    rw [← hx'.out, ← hy'.out]
    rintro e w8 ⟨io, in_, ic, i, rfl, hin, hic, hsi, hi, hb⟩
    have hA := Lib.hid (hA.out.below hb)
    have hB := Lib.hid (hB.out.below hb)
    have hw := Lib.hid (hw.out.trans (hb.mono hw.out.size))
    have si := Lib.hid hsi; have ci := Lib.hid hi
    clear hb hsi hi
    go_wp2_with fail
    refine (refAdd_any ao bo k nc l mc f g w8 hA.out hB.out (by omega)).mono ?_
    rw [← hx'.out, ← hy'.out]
    rintro e w9 ⟨jo, jn, jc, j, rfl, hjn, hjc, hsj, hj, hb⟩
    have hA := Lib.hid (hA.out.below hb)
    have hB := Lib.hid (hB.out.below hb)
    have si := Lib.hid (si.out.below hb)
    have hw := Lib.hid (hw.out.trans (hb.mono hw.out.size))
    have sj := Lib.hid hsj; have cj := Lib.hid hj
    clear hb hsj hj
    go_wp2_with fail
    refine (same_t io jo (x + y) in_ ic jn jc i j w9 hin hic si.out sj.out ci.out cj.out).mono ?_
    rintro e w10 ⟨rfl, hb⟩
    have hA := Lib.hid (hA.out.below hb)
    have hB := Lib.hid (hB.out.below hb)
    have hw := Lib.hid (hw.out.trans (hb.mono hw.out.size))
    clear hb
    go_wp2_with fail
    refine (mul_any ao bo k nc l mc f g w10 hA.out hB.out).mono ?_
    rw [← hx'.out, ← hy'.out]
    rintro e w11 ⟨po, pn, pc, p, rfl, hpn, hpc, hsp, hp, hb⟩
    have hA := Lib.hid (hA.out.below hb)
    have hB := Lib.hid (hB.out.below hb)
    have hw := Lib.hid (hw.out.trans (hb.mono hw.out.size))
    have sp := Lib.hid hsp; have cp := Lib.hid hp
    clear hb hsp hp
    go_wp2_with fail
    refine (refMul_any ao bo k nc l mc f g w11 hA.out hB.out (by omega) (by omega)).mono ?_
    rw [← hx'.out, ← hy'.out]
    rintro e w12 ⟨qo, qn, qc, q, rfl, hqn, hqc, hsq, hq, hb⟩
    have sp := Lib.hid (sp.out.below hb)
    have hw := Lib.hid (hw.out.trans (hb.mono hw.out.size))
    have sq := Lib.hid hsq; have cq := Lib.hid hq
    clear hb hsq hq
    go_wp2_with fail
    refine (same_t po qo (x * y) pn pc qn qc p q w12 hpn hpc sp.out sq.out cp.out cq.out).mono ?_
    rintro e w13 ⟨rfl, hb⟩
    have hw := Lib.hid (hw.out.trans (hb.mono hw.out.size))
    clear hb
    go_wp2_with fail
    refine (awake_t w13).mono ?_
    rintro e w14 ⟨rfl, hb⟩
    have hw := Lib.hid (hw.out.trans (hb.mono hw.out.size))
    clear hb
    go_wp2_with fail
    go_ret
    exact ⟨rfl, hw.out⟩
  · have h0' := Lib.hid h0; have sq := Lib.hid hsq; have cq := Lib.hid hcq
    clear hb h0 hsq hcq
    go_wp2_with fail
    refine (refSub_any ao bo k nc l mc f g w1 hA.out hB.out).mono ?_
    rw [← hx'.out, ← hy'.out]
    rintro e w2 ⟨hb, h⟩
    have hA := Lib.hid (hA.out.below hb)
    have hB := Lib.hid (hB.out.below hb)
    have sq := Lib.hid (sq.out.below hb)
    have hw := Lib.hid (hw.out.trans (hb.mono hw.out.size))
    rcases h with ⟨h1, _⟩ | ⟨_, uo, un, uc, u, rfl, hun, huc, hsu, hcu⟩
    · exact absurd h1 (Nat.not_lt.2 h0'.out)
    have su := Lib.hid hsu; have cu := Lib.hid hcu
    clear hb hsu hcu
    go_wp2_with fail
    refine (same_t qo uo (x - y) qn qc un uc q u w2 hqn hqc sq.out su.out cq.out cu.out).mono ?_
    rintro e w3 ⟨rfl, hb⟩
    have hA := Lib.hid (hA.out.below hb)
    have hB := Lib.hid (hB.out.below hb)
    have hw := Lib.hid (hw.out.trans (hb.mono hw.out.size))
    clear hb
    go_wp2_with fail
    refine (cmp_t ao bo k nc l mc f g w3 hA.out hB.out).mono ?_
    rw [← hx'.out, ← hy'.out]
    rintro e w4 ⟨rfl, hb⟩
    have hA := Lib.hid (hA.out.below hb)
    have hB := Lib.hid (hB.out.below hb)
    have hw := Lib.hid (hw.out.trans (hb.mono hw.out.size))
    clear hb
    go_wp2_with fail
    refine (refCmp_any ao bo k nc l mc f g w4 hA.out hB.out).mono ?_
    rw [← hx'.out, ← hy'.out]
    rintro e w' ⟨rfl, rfl⟩
    go_wp2_with fail
    refine (norm_any ao k nc f w4 hA.out).mono ?_
    rw [← hx'.out]
    rintro e w5 ⟨co, cn, cc, c, rfl, hcn, hcc, hsc, hc, hb⟩
    have hA := Lib.hid (hA.out.below hb)
    have hB := Lib.hid (hB.out.below hb)
    have hw := Lib.hid (hw.out.trans (hb.mono hw.out.size))
    have sc := Lib.hid hsc; have cc1 := Lib.hid hc
    clear hb hsc hc
    go_wp2_with fail
    refine (refNorm_any ao k nc f w5 hA.out).mono ?_
    rw [← hx'.out]
    rintro e w6 ⟨do_, dn, dc, d, rfl, hdn, hdc, hsd, hd, hb⟩
    have hA := Lib.hid (hA.out.below hb)
    have hB := Lib.hid (hB.out.below hb)
    have sc := Lib.hid (sc.out.below hb)
    have hw := Lib.hid (hw.out.trans (hb.mono hw.out.size))
    have sd := Lib.hid hsd; have cd1 := Lib.hid hd
    clear hb hsd hd
    go_wp2_with fail
    refine (same_t co do_ x cn cc dn dc c d w6 hcn hcc sc.out sd.out cc1.out cd1.out).mono ?_
    rintro e w7 ⟨rfl, hb⟩
    have hA := Lib.hid (hA.out.below hb)
    have hB := Lib.hid (hB.out.below hb)
    have hw := Lib.hid (hw.out.trans (hb.mono hw.out.size))
    clear hb
    go_wp2_with fail
    refine (add_any ao bo k nc l mc f g w7 hA.out hB.out).mono ?_
    rw [← hx'.out, ← hy'.out]
    rintro e w8 ⟨io, in_, ic, i, rfl, hin, hic, hsi, hi, hb⟩
    have hA := Lib.hid (hA.out.below hb)
    have hB := Lib.hid (hB.out.below hb)
    have hw := Lib.hid (hw.out.trans (hb.mono hw.out.size))
    have si := Lib.hid hsi; have ci := Lib.hid hi
    clear hb hsi hi
    go_wp2_with fail
    refine (refAdd_any ao bo k nc l mc f g w8 hA.out hB.out (by omega)).mono ?_
    rw [← hx'.out, ← hy'.out]
    rintro e w9 ⟨jo, jn, jc, j, rfl, hjn, hjc, hsj, hj, hb⟩
    have hA := Lib.hid (hA.out.below hb)
    have hB := Lib.hid (hB.out.below hb)
    have si := Lib.hid (si.out.below hb)
    have hw := Lib.hid (hw.out.trans (hb.mono hw.out.size))
    have sj := Lib.hid hsj; have cj := Lib.hid hj
    clear hb hsj hj
    go_wp2_with fail
    refine (same_t io jo (x + y) in_ ic jn jc i j w9 hin hic si.out sj.out ci.out cj.out).mono ?_
    rintro e w10 ⟨rfl, hb⟩
    have hA := Lib.hid (hA.out.below hb)
    have hB := Lib.hid (hB.out.below hb)
    have hw := Lib.hid (hw.out.trans (hb.mono hw.out.size))
    clear hb
    go_wp2_with fail
    refine (mul_any ao bo k nc l mc f g w10 hA.out hB.out).mono ?_
    rw [← hx'.out, ← hy'.out]
    rintro e w11 ⟨po, pn, pc, p, rfl, hpn, hpc, hsp, hp, hb⟩
    have hA := Lib.hid (hA.out.below hb)
    have hB := Lib.hid (hB.out.below hb)
    have hw := Lib.hid (hw.out.trans (hb.mono hw.out.size))
    have sp := Lib.hid hsp; have cp := Lib.hid hp
    clear hb hsp hp
    go_wp2_with fail
    refine (refMul_any ao bo k nc l mc f g w11 hA.out hB.out (by omega) (by omega)).mono ?_
    rw [← hx'.out, ← hy'.out]
    rintro e w12 ⟨qo, qn, qc, q, rfl, hqn, hqc, hsq, hq, hb⟩
    have sp := Lib.hid (sp.out.below hb)
    have hw := Lib.hid (hw.out.trans (hb.mono hw.out.size))
    have sq := Lib.hid hsq; have cq := Lib.hid hq
    clear hb hsq hq
    go_wp2_with fail
    refine (same_t po qo (x * y) pn pc qn qc p q w12 hpn hpc sp.out sq.out cp.out cq.out).mono ?_
    rintro e w13 ⟨rfl, hb⟩
    have hw := Lib.hid (hw.out.trans (hb.mono hw.out.size))
    clear hb
    go_wp2_with fail
    refine (awake_t w13).mono ?_
    rintro e w14 ⟨rfl, hb⟩
    have hw := Lib.hid (hw.out.trans (hb.mono hw.out.size))
    clear hb
    go_wp2_with fail
    go_ret
    exact ⟨rfl, hw.out⟩

end Go.Proofs.Ytajkdinlannmnaa
