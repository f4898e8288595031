/-
  nat.DivMod: the quotient and the rest.
-/
import Derived.Test.YtnnipciifjpooaaDivl
import Derived.Test.YtnnipciifjpooaaMove
import Derived.Test.YtnnipciifjpooaaNorm
namespace Go.Proofs.Ytnnipciifjpooaa
open Go.RowKit Num

def DivPost (x y : Nat) (w : World) (e : Ending) (w' : World) : Prop :=
  Below w.heap.size w w' ∧ ((y = 0 ∧ e = .returned (.tuple #[.slice none 0 0, .slice none 0 0, .bool false])) ∨
    (y ≠ 0 ∧ ∃ ao n nc f bo m mc g, e = .returned (.tuple #[.slice ao n nc, .slice bo m mc, .bool true]) ∧ n ≤ nc ∧ nc ≤ 9223372036854775807 ∧ m ≤ mc ∧ mc ≤ 9223372036854775807 ∧
      Sl w' ao n f ∧ Canon (x / y) n f ∧ Sl w' bo m g ∧ Canon (x % y) m g))

set_option maxRecDepth 100000 in
set_option maxHeartbeats 2000000 in
theorem divMod_any (ao bo : Option Addr) (n nc m mc : Nat) (f g : Nat → Nat) (w : World) (A : Arg w ao n nc f) (B : Arg w bo m mc g) :
    Calls Try.prog 76 #[.slice ao n nc, .slice bo m mc] w (DivPost (val f n) (val g m) w) := by
  obtain ⟨hn, hnc, hnb, hf, lf⟩ := A
  obtain ⟨hm, hmc, hmb, hg, lg⟩ := B
  obtain ⟨i32, hi, hz0, hz1, hz2⟩ := info_parts info32
  go_enter Try.func76, Try.ntmps76
  go_wp2_with fail
  refine (trim_any ao n nc f w hn (by omega) hf).mono ?_
  rintro e w' ⟨k, hk, rfl, htf0, hvf0, rfl⟩
  have htf := Lib.hid htf0; have hvf := Lib.hid hvf0; clear htf0 hvf0
  go_wp2_with fail
  refine (trim_any bo m mc g w hm (by omega) hg).mono ?_
  rintro e w' ⟨l, hl, rfl, htg0, hvg0, rfl⟩
  have htg := Lib.hid htg0; have hvg := Lib.hid hvg0; clear htg0 hvg0
  have hsf := Lib.hid (hf.mono hk); have hsg := Lib.hid (hg.mono hl)
  have hlf := Lib.hid (lf.mono hk); have hlg := Lib.hid (lg.mono hl)
  clear hf hg lf lg
  by_cases hl0 : l = 0
  · subst hl0
    go_wp2_with fail
    go_ret3
    exact ⟨Below.refl _ _, .inl ⟨by rw [← hvg.out]; rfl, rfl⟩⟩
  have hgz : val g m ≠ 0 := by
    rw [← hvg.out]
    exact fun e => hl0 ((Canon.ne_zero ⟨hlg.out, htg.out, rfl⟩).2 e)
  by_cases hkl : k < l
  · have hxy : val f n < val g m := by rw [← hvf.out, ← hvg.out]; exact val_lt_of_len hlf.out htg.out hkl
    have hxy' := Lib.hid hxy; have hgz' := Lib.hid hgz
    clear hxy hgz
    go_wp2_with fail
    refine (norm_any ao k nc f w ⟨by omega, by omega, by omega, hsf.out, hlf.out⟩).mono ?_
    rintro e w1 ⟨co, q, qc, h, rfl, hq, hqc, hsh, hch, hbel⟩
    have hsh' := Lib.hid hsh; have hch' := Lib.hid hch; have hbel' := Lib.hid hbel
    clear hsh hch hbel
    go_wp2_with fail
    go_ret3
    refine ⟨hbel'.out, .inr ⟨hgz'.out, none, 0, 0, fun _ => 0, co, q, qc, h, rfl, Nat.le_refl _, by omega, hq, hqc, .inl rfl, ?_, hsh'.out, ?_⟩⟩
    · rw [Nat.div_eq_of_lt hxy'.out]; exact canon_zero _
    · rw [Nat.mod_eq_of_lt hxy'.out, ← hvf.out]; exact hch'.out
  obtain ⟨l, rfl⟩ : ∃ l', l = l' + 1 := ⟨l - 1, by omega⟩
  have hgz' := Lib.hid hgz
  clear hgz
  have htop : g l ≠ 0 := by
    rcases htg.out with h | h
    · omega
    · exact h
  have blg := hlg.out l (by omega)
  rcases hsg.out with h | ⟨b', off', hbo, hcg⟩
  · omega
  subst hbo
  have c1 := hcg l (by omega)
  clear hcg
  obtain ⟨u1, u2, u3⟩ := lead_fits (g l) htop blg
  obtain ⟨u, hu⟩ : ∃ u, u = lead (g l) := ⟨_, rfl⟩
  rw [← hu] at u1 u2 u3
  have u2' := Lib.hid u2; have u3' := Lib.hid u3
  clear u2 u3 htop
  have hu' := Lib.hid hu
  clear hu
  go_wp2_with fail
  refine (lead_any (g l) w blg).mono ?_
  rintro e w' ⟨rfl, rfl⟩
  rw [← hu'.out]
  go_wp2_with fail
  refine (moveUp_any ao k nc u f w u1 ⟨by omega, by omega, by omega, hsf.out, hlf.out⟩).mono ?_
  rintro e w1 ⟨B1, F1, rfl, hB1, hB1', hblk1, hlim1, hval1, hbel1⟩
  have hb1 := Lib.hid hblk1; have hl1 := Lib.hid hlim1; have hv1 := Lib.hid hval1; have hw1 := Lib.hid hbel1
  clear hblk1 hlim1 hval1 hbel1 c1
  go_wp2_with fail
  refine (moveUp_any (some ⟨b', off', none⟩) (l + 1) mc u g w1 u1 ⟨by omega, by omega, by omega, hsg.out.below hw1.out, hlg.out⟩).mono ?_
  rintro e w2 ⟨B2, F2, rfl, hB2, hB2', hblk2, hlim2, hval2, hbel2⟩
  have hb2 := Lib.hid hblk2; have hl2 := Lib.hid hlim2; have hv2 := Lib.hid hval2; have hw2 := Lib.hid (hw1.out.trans (hbel2.mono hw1.out.size)); have hb1' := Lib.hid (hb1.out.below hbel2 hB1')
  have hsz := hbel2.size
  clear hblk2 hlim2 hval2 hbel2 hb1
  go_wp2_with fail
  refine (trim_any (some ⟨B2, 0, none⟩) (l + 1 + 1) (l + 1 + 1) F2 w2 (Nat.le_refl _) (by omega) (Sl.of_blk0 hb2.out _ (Nat.le_refl _))).mono ?_
  rintro e w' ⟨d, hd, rfl, htd0, hvd0, rfl⟩
  have htd := Lib.hid htd0; have hvd := Lib.hid hvd0; clear htd0 hvd0
  have hDv : val F2 d = val g (l + 1) * 2 ^ u := hvd.out.trans hv2.out
  have hcanon : Canon (val g (l + 1) * 2 ^ u) d F2 := ⟨hl2.out.mono hd, htd.out, hDv⟩
  have hd1 : d ≤ l + 1 := hcanon.len_le (lead_len (hlg.out.mono (Nat.le_succ l)) u2'.out ⟨_, pow_parts u1⟩)
  have hd2 : l + 1 ≤ d := len_le_of_val_le (hl2.out.mono hd) htg.out (by rw [hDv]; exact Nat.le_mul_of_pos_right _ (Nat.pow_pos (by decide)))
  obtain rfl : d = l + 1 := by omega
  obtain ⟨t, ht⟩ : ∃ t, k = l + 1 + t := ⟨k - (l + 1), by omega⟩
  subst ht
  have hD1 : val F2 (l + 1) ≤ pw (l + 1) := Nat.le_of_lt (val_lt (hl2.out.mono hd))
  have hst := div_start (x := val f (l + 1 + t)) (y := val F2 (l + 1)) (u := u) (t := t) (val_lt hlf.out) rfl (by rw [hDv]; exact lead_big u3'.out) u1
  have hcan := Lib.hid hcanon; have hDv' := Lib.hid hDv; have hD1' := Lib.hid hD1; have hst' := Lib.hid hst
  have hDpos : 0 < val F2 (l + 1) := Nat.pos_of_ne_zero (fun e => by have := hst'.out; rw [e] at this; omega)
  have hDpos' := Lib.hid hDpos
  clear hDv hcanon hd1 hd2 hD1 hst hDpos
  go_wp2_with (at_make; refine wpList_make_full _ rfl (.tmp 45) (.tmp 45) 22 rfl w2.heap.size 47 i32 (.int .u32 0) 1 Try.underlying22 hi hz0 hz1 .i64 .i64 _ _ (t + 1) rfl rfl (by omega) (by omega) (by rw [hz2]; omega) (by unfold maxLen; omega) (Nat.le_refl _) ?_)
  intro w3 hown hgrow
  have hbl3 : Below w2.heap.size w2 w3 := (Below.refl _ w2).grown hgrow (Nat.le_refl _) (fun _ h => by cases h)
  have hb3 := Lib.hid (Blk.of_made hown)
  have hB3 : w2.heap.size < w3.heap.size := hb3.out.lt (by omega)
  have hb13 := Lib.hid (hb1'.out.below hbl3 (by omega))
  have hb23 := Lib.hid ((hb2.out.mono (Nat.le_succ (l + 1))).below hbl3 hB2')
  have hw3 := Lib.hid (hw2.out.trans (hbl3.mono hw2.out.size))
  obtain ⟨B3, hB30⟩ : ∃ B3, B3 = w2.heap.size := ⟨_, rfl⟩
  rw [← hB30] at hb3 hB3 hB2' ⊢
  have hsz1 := hw1.out.size
  have hne12 : B2 ≠ B1 := by omega
  have hne13 : B1 ≠ B3 := by omega
  have hne23 : B2 ≠ B3 := by omega
  have hle1 : w.heap.size ≤ B1 := hB1
  have hle3 : w.heap.size ≤ B3 := by have := hw2.out.size; omega
  clear hown hgrow hbl3 hB30
  obtain ⟨D, hD⟩ : ∃ D, D = val F2 (l + 1) := ⟨_, rfl⟩
  obtain ⟨A, hA⟩ : ∃ A, A = val f (l + 1 + t) * 2 ^ u := ⟨_, rfl⟩
  obtain ⟨NN, hNN⟩ : ∃ NN, NN = l + 1 + t + 1 := ⟨_, rfl⟩
  have hD' := Lib.hid hD; have hA' := Lib.hid hA; have hNN' := Lib.hid hNN
  have hN1 : NN ≤ 1000001 := by omega
  have hN2 : l + t + 2 ≤ NN := by omega
  have hN3 : NN ≤ l + t + 2 := by omega
  clear hD hA hNN
  go_wp2_with fail
  go_loopw [11] (fun i wr => ∃ (j : Nat) (F Q : Nat → Nat), j ≤ t + 1 ∧ i = .int .i64 ((j : Int) - 1) ∧ Blk wr B1 NN F ∧ Lim F NN ∧ Blk wr B3 (t + 1) Q ∧ Lim Q (t + 1) ∧ Blk wr B2 (l + 1) F2 ∧
      val F NN + D * pw j * val (fun s => Q (j + s)) (t + 1 - j) = A ∧ val F NN < D * pw j ∧ Below w.heap.size w wr) (fun i _ => (intOf i + 1).toNat)
  case atStart =>
    refine ⟨t + 1, F1, fun _ => 0, Nat.le_refl _, int_eq (by omega), by rw [hNN'.out]; exact hb13.out, by rw [hNN'.out]; exact hl1.out, hb3.out, fun j _ => (by decide : 0 < 4294967296), hb23.out, ?_, ?_, hw3.out⟩
    · rw [Nat.sub_self, val_zero, Nat.mul_zero, Nat.add_zero, hNN'.out, hv1.out, hA'.out]
    · rw [hNN'.out, hv1.out, hD'.out]; exact hst'.out
  case round =>
    obtain ⟨j, F, Q, hj, rfl, hbF1, hlF1, hbQ1, hlQ1, hbD1, hval1, hlt1, hbel1⟩ := hrel
    have hbF := Lib.hid hbF1; have hlF := Lib.hid hlF1; have hbQ := Lib.hid hbQ1; have hlQ := Lib.hid hlQ1; have hbD := Lib.hid hbD1; have hval := Lib.hid hval1; have hlt := Lib.hid hlt1; have hbel := Lib.hid hbel1
    clear hbF1 hlF1 hbQ1 hlQ1 hbD1 hval1 hlt1 hbel1
    have z1 : B1 < wr.heap.size := hbF.out.lt (by omega)
    have z2 : B2 < wr.heap.size := hbD.out.lt (by omega)
    have z3 : B3 < wr.heap.size := hbQ.out.lt (by omega)
    have hDD : D ≤ pw (l + 1) := by rw [hD'.out]; exact hD1'.out
    have hDP : 0 < D := by rw [hD'.out]; exact hDpos'.out
    have hDD' := Lib.hid hDD; clear hDD
    by_cases h0 : j = 0
    · subst h0
      have hfin := div_whole (V := val F NN) (D := D) (Q := val (fun s => Q (0 + s)) (t + 1 - 0)) (A := A) (x := val f (l + 1 + t)) (y := val g (l + 1)) (u := u) (by have := hval.out; rwa [show pw 0 = 1 from rfl, Nat.mul_one] at this) hA'.out
        (by rw [hD'.out]; exact hDv'.out) (by have := hlt.out; rwa [show pw 0 = 1 from rfl, Nat.mul_one] at this)
      rw [hvf.out, hvg.out] at hfin
      have hQe : val (fun s => Q (0 + s)) (t + 1 - 0) = val Q (t + 1) := val_congr (fun x _ => by rw [Nat.zero_add])
      rw [hQe] at hfin
      have hfin' := Lib.hid hfin
      clear hfin hQe
      rw [← hNN'.out]
      go_wp2_with fail
      refine (moveDown_any B1 NN u F wr (by omega) u1 hbF.out hlF.out).mono ?_
      rintro e w5 ⟨F3, rfl, hb5, hl5, hv5, hg5⟩
      have hb5' := Lib.hid hb5; have hl5' := Lib.hid hl5; have hv5' := Lib.hid hv5
      have hqq := Lib.hid (hbQ.out.kept z3 hg5 (Ne.symm hne13))
      have hbel5 := Lib.hid (hbel.out.grown hg5 (by have := hbel.out.size; omega) (fun k hk => by cases hk; exact hle1))
      clear hb5 hl5 hv5 hg5
      go_wp2_with fail
      refine (trim_any (some ⟨B3, 0, none⟩) (t + 1) (t + 1) Q w5 (Nat.le_refl _) (by omega) (Sl.of_blk0 hqq.out _ (Nat.le_refl _))).mono ?_
      rintro e w' ⟨q1, hq1, rfl, htq0, hvq0, rfl⟩
      have htq := Lib.hid htq0; have hvq := Lib.hid hvq0; clear htq0 hvq0
      go_wp2_with fail
      refine (trim_any (some ⟨B1, 0, none⟩) NN NN F3 w5 (Nat.le_refl _) (by omega) (Sl.of_blk0 hb5'.out _ (Nat.le_refl _))).mono ?_
      rintro e w' ⟨r1, hr1, rfl, htr0, hvr0, rfl⟩
      have htr := Lib.hid htr0; have hvr := Lib.hid hvr0; clear htr0 hvr0
      go_wp2_with fail
      go_ret3
      refine ⟨hbel5.out, .inr ⟨hgz'.out, some ⟨B3, 0, none⟩, q1, t + 1, Q, some ⟨B1, 0, none⟩, r1, NN, F3, rfl, hq1, by omega, hr1, by omega, Sl.of_blk0 hqq.out _ hq1, ?_, Sl.of_blk0 hb5'.out _ hr1, ?_⟩⟩
      · exact ⟨hlQ.out.mono hq1, htq.out, hvq.out.trans hfin'.out.1⟩
      · exact ⟨hl5'.out.mono hr1, htr.out, (hvr.out.trans hv5'.out).trans hfin'.out.2⟩
    · obtain ⟨s, rfl⟩ : ∃ s, j = s + 1 := ⟨j - 1, by omega⟩
      have hz := high_noughts hDD'.out hlt.out
      have hwin := val_window (F := F) (N := NN) (i := s) (k := l + 1 + 1) (by omega) (fun x h1 h2 => hz x (by omega) h2)
      have hRw := div_window (L := val F s) (P := pw s) (Rw := val (fun x => F (s + x)) (l + 1 + 1)) (D := D) hwin (by have := hlt.out; rw [pw_succ, Nat.mul_comm 4294967296] at this; exact this)
      have hz' := Lib.hid hz; have hwin' := Lib.hid hwin; have hRw' := Lib.hid hRw
      clear hz hwin hRw h0
      go_wp2_with fail
      rw [show s + (l + 1) + 1 - s = l + 1 + 1 by omega]
      refine (divideLimb_any B1 NN s l (l + 1 + t + 1 - s) (some ⟨B2, 0, none⟩) (l + 1 + 1) F F2 wr (by omega) (by omega) hbF.out hlF.out (Sl.of_blk0 hbD.out _ (Nat.le_refl _)) (.inr (fun a ha => by cases ha; exact hne12)) (hl2.out.mono (Nat.le_succ _)) (by rw [← hD'.out]; exact hRw'.out)).mono ?_
      rw [← hD'.out]
      rintro e w5 ⟨q, F', hq, rfl, hb5, hl5, hs5, hv5, hg5⟩
      have hq' := Lib.hid hq; have hb5' := Lib.hid hb5; have hl5' := Lib.hid hl5; have hs5' := Lib.hid hs5; have hv5' := Lib.hid hv5; have hg5' := Lib.hid hg5
      have hqq := Lib.hid (hbQ.out.kept z3 hg5 (Ne.symm hne13))
      have hdd := Lib.hid (hbD.out.kept z2 hg5 hne12)
      have hq4 : q < 4294967296 := by rw [hq]; exact (Nat.div_lt_iff_lt_mul hDP).2 hRw'.out
      have z35 : B3 < w5.heap.size := Nat.lt_of_lt_of_le z3 hg5.size
      have z15 : B1 < w5.heap.size := Nat.lt_of_lt_of_le z1 hg5.size
      have z25 : B2 < w5.heap.size := Nat.lt_of_lt_of_le z2 hg5.size
      clear hq hb5 hl5 hs5 hv5 hg5
      have hcell := hqq.out.cell s (by omega)
      have hfree := hqq.out.free s
      go_wp2_with fail
      go_roundw
      case rel =>
        have hg6 : w5.grownBy (w5.setCell ⟨B3, s, none⟩ (.int .u32 q)) (some B3) := grown_setCell (grown_refl _ _) _ _
        have hwin2 : val F' NN = val F' s + pw s * val (fun x => F' (s + x)) (l + 1 + 1) :=
          val_window (by omega) (fun x h1 h2 => (hs5'.out x (by omega)).trans (hz'.out x (by omega) h2))
        have hlow : val F' s = val F s := val_congr (fun x hx => hs5'.out x (by omega))
        rw [hlow, hv5'.out] at hwin2
        have hv := hval.out
        rw [pw_succ, Nat.mul_comm 4294967296] at hv
        obtain ⟨r1, r2⟩ := div_round hwin'.out hwin2 hv hq'.out (val_lt (hlF.out.mono (by omega))) hDP
        refine ⟨s, F', put Q s q, by omega, int_eq (by omega), hb5'.out.kept z15 hg6 hne13, hl5'.out, hqq.out.set s (by omega) _ _ rfl, put_lim hlQ.out hq4, hdd.out.kept z25 hg6 hne23, ?_, r2, ?_⟩
        · rw [← r1]
          have e : t + 1 - s = t + 1 - (s + 1) + 1 := by omega
          rw [e, val_cons, Nat.add_zero, put_at]
          have e3 : val (fun x => put Q s q (s + (x + 1))) (t + 1 - (s + 1)) = val (fun x => Q (s + 1 + x)) (t + 1 - (s + 1)) := val_congr (fun x _ => by rw [put_ne (by omega), show s + (x + 1) = s + 1 + x by omega])
          rw [e3]
        · exact (hbel.out.grown hg5'.out (by have := hbel.out.size; omega) (fun k hk => by cases hk; exact hle1)).grown hg6 (by have := hbel.out.size; have := hg5'.out.size; omega) (fun k hk => by cases hk; exact hle3)
      case measure => simp [intOf]

end Go.Proofs.Ytnnipciifjpooaa
