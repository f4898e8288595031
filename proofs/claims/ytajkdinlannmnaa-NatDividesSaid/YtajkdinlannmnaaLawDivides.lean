/-
  scrimlaw02.NatDivides, walked.
-/
import Derived.Test.YtajkdinlannmnaaLawBack
import Derived.Test.YtajkdinlannmnaaRefC
namespace Go.Proofs.Ytajkdinlannmnaa
open Go.RowKit Num

set_option maxHeartbeats 2000000 in
theorem divides_walk (ao bo : Option Addr) (n nc m mc : Nat) (f g : Nat → Nat) (w : World) (hn : n ≤ nc) (hnc : nc ≤ 9223372036854775807) (hm : m ≤ mc) (hmc : mc ≤ 9223372036854775807)
    (hf : Sl w ao n f) (hg : Sl w bo m g) (lf : Lim f n) (lg : Lim g m) :
    Calls Try.prog 4 #[.slice ao n nc, .slice bo m mc] w (Tells (.bool true) w) := by
  obtain ⟨k, hk⟩ : ∃ k, k = min n 40 := ⟨_, rfl⟩
  obtain ⟨l, hl⟩ : ∃ l, l = min m 40 := ⟨_, rfl⟩
  have hk40 : k ≤ 40 := by omega
  have hl40 : l ≤ 40 := by omega
  have hA := Lib.hid (show Arg w ao k nc f from ⟨by omega, hnc, by omega, hf.mono (by omega), lf.mono (by omega)⟩)
  have hB := Lib.hid (show Arg w bo l mc g from ⟨by omega, hmc, by omega, hg.mono (by omega), lg.mono (by omega)⟩)
  obtain ⟨x, hx⟩ : ∃ x, x = val f k := ⟨_, rfl⟩
  obtain ⟨y, hy⟩ : ∃ y, y = val g l := ⟨_, rfl⟩
  have bx := Lib.hid (show x < pw 40 by rw [hx]; exact Nat.lt_of_lt_of_le (val_lt (lf.mono (by omega))) (pw_le (by omega)))
  have byy := Lib.hid (show y < pw 40 by rw [hy]; exact Nat.lt_of_lt_of_le (val_lt (lg.mono (by omega))) (pw_le (by omega)))
  have hx' := Lib.hid hx; have hy' := Lib.hid hy; have hk' := Lib.hid hk; have hl' := Lib.hid hl
  clear hx hy hk hl hf hg lf lg
  go_enter Try.func4, Try.ntmps4
  go_wp2_with fail
  refine (few_any ao n nc w hn hnc).mono ?_
  rintro e w' ⟨rfl, rfl⟩
  rw [← hk'.out]
  go_wp2_with fail
  refine (few_any bo m mc w hm hmc).mono ?_
  rintro e w' ⟨rfl, rfl⟩
  rw [← hl'.out]
  have hw := Lib.hid (Below.refl w.heap.size w)
  go_wp2_with fail
  refine (divMod_any ao bo k nc l mc f g w hA.out hB.out).mono ?_
  rw [← hx'.out, ← hy'.out]
  rintro e w1 ⟨hb, h⟩
  have hA := Lib.hid (hA.out.below hb)
  have hB := Lib.hid (hB.out.below hb)
  have hw := Lib.hid (hw.out.trans (hb.mono hw.out.size))
  rcases h with ⟨h0, rfl⟩ | ⟨h0, qo, qn, qc, q, ro, rn, rc, r, rfl, hqn, hqc, hrn, hrc, hsq, hcq, hsr, hcr⟩
  · clear hb
    go_wp2_with fail
    refine (refDivMod_any ao bo k nc l mc f g w1 hA.out hB.out (by omega) (by omega)).mono ?_
    rw [← hx'.out, ← hy'.out]
    rintro e w2 ⟨hb, h⟩
    have hw := Lib.hid (hw.out.trans (hb.mono hw.out.size))
    rcases h with ⟨_, rfl⟩ | ⟨h1, _⟩
    rotate_left
    · exact absurd h0 h1
    clear hb h0
    go_wp2_with fail
    have z0 : Canon 0 0 (fun _ => 0) := canon_zero _
    refine (same_t none none 0 0 0 0 0 (fun _ => 0) (fun _ => 0) w2 (Nat.le_refl _) (by omega) (.inl rfl) (.inl rfl) z0 z0).mono ?_
    rintro e w3 ⟨rfl, hb⟩
    have hw := Lib.hid (hw.out.trans (hb.mono hw.out.size))
    clear hb
    go_wp2_with fail
    refine (same_t none none 0 0 0 0 0 (fun _ => 0) (fun _ => 0) w3 (Nat.le_refl _) (by omega) (.inl rfl) (.inl rfl) z0 z0).mono ?_
    rintro e w4 ⟨rfl, hb⟩
    have hw := Lib.hid (hw.out.trans (hb.mono hw.out.size))
    clear hb
    go_wp2_with fail
    refine (awake_t w4).mono ?_
    rintro e w5 ⟨rfl, hb⟩
    have hw := Lib.hid (hw.out.trans (hb.mono hw.out.size))
    clear hb
    go_wp2_with fail
    go_ret
    exact ⟨rfl, hw.out⟩
  · have sq := Lib.hid hsq; have cq := Lib.hid hcq; have sr := Lib.hid hsr; have cr := Lib.hid hcr; have h0' := Lib.hid h0
    clear hb hsq hcq hsr hcr h0
    go_wp2_with fail
    refine (refDivMod_any ao bo k nc l mc f g w1 hA.out hB.out (by omega) (by omega)).mono ?_
    rw [← hx'.out, ← hy'.out]
    rintro e w2 ⟨hb, h⟩
    have sq := Lib.hid (sq.out.below hb)
    have sr := Lib.hid (sr.out.below hb)
    have hw := Lib.hid (hw.out.trans (hb.mono hw.out.size))
    rcases h with ⟨h1, _⟩ | ⟨_, uo, un, uc, u, vo, vn, vc, v, rfl, hun, huc, hvn, hvc, hsu, hcu, hsv, hcv⟩
    · exact absurd h1 h0'.out
    have su := Lib.hid hsu; have cu := Lib.hid hcu; have sv := Lib.hid hsv; have cv := Lib.hid hcv
    clear hb hsu hcu hsv hcv
    go_wp2_with fail
    refine (same_t qo uo (x / y) qn qc un uc q u w2 hqn hqc sq.out su.out cq.out cu.out).mono ?_
    rintro e w3 ⟨rfl, hb⟩
    have sr := Lib.hid (sr.out.below hb)
    have sv := Lib.hid (sv.out.below hb)
    have hw := Lib.hid (hw.out.trans (hb.mono hw.out.size))
    clear hb
    go_wp2_with fail
    refine (same_t ro vo (x % y) rn rc vn vc r v w3 hrn hrc sr.out sv.out cr.out cv.out).mono ?_
    rintro e w4 ⟨rfl, hb⟩
    have hw := Lib.hid (hw.out.trans (hb.mono hw.out.size))
    clear hb
    go_wp2_with fail
    refine (awake_t w4).mono ?_
    rintro e w5 ⟨rfl, hb⟩
    have hw := Lib.hid (hw.out.trans (hb.mono hw.out.size))
    clear hb
    go_wp2_with fail
    go_ret
    exact ⟨rfl, hw.out⟩

end Go.Proofs.Ytajkdinlannmnaa
