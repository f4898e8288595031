/-
  nat.DivMod: the quotient and the rest.
  nat.word, fromWord, gcdOfWords and Gcd: the greatest number that divides both.
  A law on append that the kit lacks: nothing, whatever its address, appended to a nil slice.
  scrimref02.Same and Norm, scrimlaw02.few and awake.
  scrimlaw02.awake: chapter 2's examples hold.
  whole.Sign, whole.Cmp, whole.Of.
  Rational numbers: what Make tells of two whole ones (mkE the error, mkT the top with its sign, mkB the bottom), numbers in lowest terms ('Low'), facts on these; blocks of three cells ('Box3'); a number as a call hands it back ('Rt': its top and its bottom without noughts on top; 'ResPost': with an error; 'RatPost': without).
  scrimref03.Norm, Same, Neg, Sign; scrimlaw03.Mine, Theirs, few, same.
  Plain facts on the document's answers: numbers doubled, their bits, products and quotients bit by bit, the steps of a greatest divisor.
  scrimref02.longer, limb, Cmp, Add, Sub, twice and Bit: the document's answers, as they are reckoned.
  nat.Sub: the difference, or none.
  scrimref03.Add, Sub, Cmp, Mul.
  nat.Add: the sum.
  whole.Cmp, whole.DivMod.
-/
import Derived.Test.YtaepelipkkmeaaaGreatMgsA
import Derived.Lib.Small
import Derived.Lib.Walk
import Derived.Lib.BitFns
import Derived.Deep.QuietTactic
import Derived.BigQuiet
import Derived.WalkKit
import Derived.WalkSpells
import Derived.WalkLawsBesides
import Derived.Lib.Hide
import Derived.Laws.CopyOwn
import Derived.Deep.RegionWith
import Derived.Deep.LoopGhost
import Derived.Deep.RegionHeld3
import Derived.Deep.DrawnRows
import Derived.Deep.CutRange
namespace Go.Proofs.YtaepelipkkmeaaaGreat

open Go.RowKit Num

def DivPost (x y : Nat) (w : World) (e : Ending) (w' : World) : Prop :=
  Below w.heap.size w w' ∧ ((y = 0 ∧ e = .returned (.tuple #[.slice none 0 0, .slice none 0 0, .bool false])) ∨
    (y ≠ 0 ∧ ∃ ao n nc f bo m mc g, e = .returned (.tuple #[.slice ao n nc, .slice bo m mc, .bool true]) ∧ n ≤ nc ∧ nc ≤ 9223372036854775807 ∧ m ≤ mc ∧ mc ≤ 9223372036854775807 ∧
      Sl w' ao n f ∧ Canon (x / y) n f ∧ Sl w' bo m g ∧ Canon (x % y) m g))

set_option maxRecDepth 100000 in
set_option maxHeartbeats 2000000 in
theorem divMod_any (ao bo : Option Addr) (n nc m mc : Nat) (f g : Nat → Nat) (w : World) (A : Arg w ao n nc f) (B : Arg w bo m mc g) :
    Calls Tryz.prog 153 #[.slice ao n nc, .slice bo m mc] w (DivPost (val f n) (val g m) w) := by
  obtain ⟨hn, hnc, hnb, hf, lf⟩ := A
  obtain ⟨hm, hmc, hmb, hg, lg⟩ := B
  obtain ⟨i32, hi, hz0, hz1, hz2⟩ := info_parts info32
  go_enter Tryz.func153, Tryz.ntmps153
  go_wp2_with fail
  refine (trim_any ao n nc f w hn (by omega) hf).mono ?_
  rintro e w' ⟨k, hk, rfl, htf0, hvf0, rfl⟩
  have htf := Lib.hid htf0; have hvf := Lib.hid hvf0; clear htf0 hvf0
  go_wp2_with fail
  refine (trim_any bo m mc g w hm (by omega) hg).mono ?_
  rintro e w' ⟨l, hl, rfl, htg0, hvg0, rfl⟩
  have htg := Lib.hid htg0; have hvg := Lib.hid hvg0; clear htg0 hvg0
  have hsf := Lib.hid (hf.mono hk); have hsg := Lib.hid (hg.mono hl)
  have hlf := Lib.hid (lf.mono hk); have hlg := Lib.hid (lg.mono hl)
  clear hf hg lf lg
  by_cases hl0 : l = 0
  · subst hl0
    go_wp2_with fail
    go_ret3
    exact ⟨Below.refl _ _, .inl ⟨by rw [← hvg.out]; rfl, rfl⟩⟩
  have hgz : val g m ≠ 0 := by
    rw [← hvg.out]
    exact fun e => hl0 ((Canon.ne_zero ⟨hlg.out, htg.out, rfl⟩).2 e)
  by_cases hkl : k < l
  · have hxy : val f n < val g m := by rw [← hvf.out, ← hvg.out]; exact val_lt_of_len hlf.out htg.out hkl
    have hxy' := Lib.hid hxy; have hgz' := Lib.hid hgz
    clear hxy hgz
    go_wp2_with fail
    refine (norm_any ao k nc f w ⟨by omega, by omega, by omega, hsf.out, hlf.out⟩).mono ?_
    rintro e w1 ⟨co, q, qc, h, rfl, hq, hqc, hsh, hch, hbel⟩
    have hsh' := Lib.hid hsh; have hch' := Lib.hid hch; have hbel' := Lib.hid hbel
    clear hsh hch hbel
    go_wp2_with fail
    go_ret3
    refine ⟨hbel'.out, .inr ⟨hgz'.out, none, 0, 0, fun _ => 0, co, q, qc, h, rfl, Nat.le_refl _, by omega, hq, hqc, .inl rfl, ?_, hsh'.out, ?_⟩⟩
    · rw [Nat.div_eq_of_lt hxy'.out]; exact canon_zero _
    · rw [Nat.mod_eq_of_lt hxy'.out, ← hvf.out]; exact hch'.out
  obtain ⟨l, rfl⟩ : ∃ l', l = l' + 1 := ⟨l - 1, by omega⟩
  have hgz' := Lib.hid hgz
  clear hgz
  have htop : g l ≠ 0 := by
    rcases htg.out with h | h
    · omega
    · exact h
  have blg := hlg.out l (by omega)
  rcases hsg.out with h | ⟨b', off', hbo, hcg⟩
  · omega
  subst hbo
  have c1 := hcg l (by omega)
  clear hcg
  obtain ⟨u1, u2, u3⟩ := lead_fits (g l) htop blg
  obtain ⟨u, hu⟩ : ∃ u, u = lead (g l) := ⟨_, rfl⟩
  rw [← hu] at u1 u2 u3
  have u2' := Lib.hid u2; have u3' := Lib.hid u3
  clear u2 u3 htop
  have hu' := Lib.hid hu
  clear hu
  go_wp2_with fail
  refine (lead_any (g l) w blg).mono ?_
  rintro e w' ⟨rfl, rfl⟩
  rw [← hu'.out]
  go_wp2_with fail
  refine (moveUp_any ao k nc u f w u1 ⟨by omega, by omega, by omega, hsf.out, hlf.out⟩).mono ?_
  rintro e w1 ⟨B1, F1, rfl, hB1, hB1', hblk1, hlim1, hval1, hbel1⟩
  have hb1 := Lib.hid hblk1; have hl1 := Lib.hid hlim1; have hv1 := Lib.hid hval1; have hw1 := Lib.hid hbel1
  clear hblk1 hlim1 hval1 hbel1 c1
  go_wp2_with fail
  refine (moveUp_any (some ⟨b', off', none⟩) (l + 1) mc u g w1 u1 ⟨by omega, by omega, by omega, hsg.out.below hw1.out, hlg.out⟩).mono ?_
  rintro e w2 ⟨B2, F2, rfl, hB2, hB2', hblk2, hlim2, hval2, hbel2⟩
  have hb2 := Lib.hid hblk2; have hl2 := Lib.hid hlim2; have hv2 := Lib.hid hval2; have hw2 := Lib.hid (hw1.out.trans (hbel2.mono hw1.out.size)); have hb1' := Lib.hid (hb1.out.below hbel2 hB1')
  have hsz := hbel2.size
  clear hblk2 hlim2 hval2 hbel2 hb1
  go_wp2_with fail
  refine (trim_any (some ⟨B2, 0, none⟩) (l + 1 + 1) (l + 1 + 1) F2 w2 (Nat.le_refl _) (by omega) (Sl.of_blk0 hb2.out _ (Nat.le_refl _))).mono ?_
  rintro e w' ⟨d, hd, rfl, htd0, hvd0, rfl⟩
  have htd := Lib.hid htd0; have hvd := Lib.hid hvd0; clear htd0 hvd0
  have hDv : val F2 d = val g (l + 1) * 2 ^ u := hvd.out.trans hv2.out
  have hcanon : Canon (val g (l + 1) * 2 ^ u) d F2 := ⟨hl2.out.mono hd, htd.out, hDv⟩
  have hd1 : d ≤ l + 1 := hcanon.len_le (lead_len (hlg.out.mono (Nat.le_succ l)) u2'.out ⟨_, pow_parts u1⟩)
  have hd2 : l + 1 ≤ d := len_le_of_val_le (hl2.out.mono hd) htg.out (by rw [hDv]; exact Nat.le_mul_of_pos_right _ (Nat.pow_pos (by decide)))
  obtain rfl : d = l + 1 := by omega
  obtain ⟨t, ht⟩ : ∃ t, k = l + 1 + t := ⟨k - (l + 1), by omega⟩
  subst ht
  have hD1 : val F2 (l + 1) ≤ pw (l + 1) := Nat.le_of_lt (val_lt (hl2.out.mono hd))
  have hst := div_start (x := val f (l + 1 + t)) (y := val F2 (l + 1)) (u := u) (t := t) (val_lt hlf.out) rfl (by rw [hDv]; exact lead_big u3'.out) u1
  have hcan := Lib.hid hcanon; have hDv' := Lib.hid hDv; have hD1' := Lib.hid hD1; have hst' := Lib.hid hst
  have hDpos : 0 < val F2 (l + 1) := Nat.pos_of_ne_zero (fun e => by have := hst'.out; rw [e] at this; omega)
  have hDpos' := Lib.hid hDpos
  clear hDv hcanon hd1 hd2 hD1 hst hDpos
  go_wp2_with (at_make; refine wpList_make_full _ rfl (.tmp 45) (.tmp 45) 22 rfl w2.heap.size 104 i32 (.int .u32 0) 1 Tryz.underlying22 hi hz0 hz1 .i64 .i64 _ _ (t + 1) rfl rfl (by omega) (by omega) (by rw [hz2]; omega) (by unfold maxLen; omega) (Nat.le_refl _) ?_)
  intro w3 hown hgrow
  have hbl3 : Below w2.heap.size w2 w3 := (Below.refl _ w2).grown hgrow (Nat.le_refl _) (fun _ h => by cases h)
  have hb3 := Lib.hid (Blk.of_made hown)
  have hB3 : w2.heap.size < w3.heap.size := hb3.out.lt (by omega)
  have hb13 := Lib.hid (hb1'.out.below hbl3 (by omega))
  have hb23 := Lib.hid ((hb2.out.mono (Nat.le_succ (l + 1))).below hbl3 hB2')
  have hw3 := Lib.hid (hw2.out.trans (hbl3.mono hw2.out.size))
  obtain ⟨B3, hB30⟩ : ∃ B3, B3 = w2.heap.size := ⟨_, rfl⟩
  rw [← hB30] at hb3 hB3 hB2' ⊢
  have hsz1 := hw1.out.size
  have hne12 : B2 ≠ B1 := by omega
  have hne13 : B1 ≠ B3 := by omega
  have hne23 : B2 ≠ B3 := by omega
  have hle1 : w.heap.size ≤ B1 := hB1
  have hle3 : w.heap.size ≤ B3 := by have := hw2.out.size; omega
  clear hown hgrow hbl3 hB30
  obtain ⟨D, hD⟩ : ∃ D, D = val F2 (l + 1) := ⟨_, rfl⟩
  obtain ⟨A, hA⟩ : ∃ A, A = val f (l + 1 + t) * 2 ^ u := ⟨_, rfl⟩
  obtain ⟨NN, hNN⟩ : ∃ NN, NN = l + 1 + t + 1 := ⟨_, rfl⟩
  have hD' := Lib.hid hD; have hA' := Lib.hid hA; have hNN' := Lib.hid hNN
  have hN1 : NN ≤ 1000001 := by omega
  have hN2 : l + t + 2 ≤ NN := by omega
  have hN3 : NN ≤ l + t + 2 := by omega
  clear hD hA hNN
  go_wp2_with fail
  go_loopw [11] (fun i wr => ∃ (j : Nat) (F Q : Nat → Nat), j ≤ t + 1 ∧ i = .int .i64 ((j : Int) - 1) ∧ Blk wr B1 NN F ∧ Lim F NN ∧ Blk wr B3 (t + 1) Q ∧ Lim Q (t + 1) ∧ Blk wr B2 (l + 1) F2 ∧
      val F NN + D * pw j * val (fun s => Q (j + s)) (t + 1 - j) = A ∧ val F NN < D * pw j ∧ Below w.heap.size w wr) (fun i _ => (intOf i + 1).toNat)
  case atStart =>
    refine ⟨t + 1, F1, fun _ => 0, Nat.le_refl _, int_eq (by omega), by rw [hNN'.out]; exact hb13.out, by rw [hNN'.out]; exact hl1.out, hb3.out, fun j _ => (by decide : 0 < 4294967296), hb23.out, ?_, ?_, hw3.out⟩
    · rw [Nat.sub_self, val_zero, Nat.mul_zero, Nat.add_zero, hNN'.out, hv1.out, hA'.out]
    · rw [hNN'.out, hv1.out, hD'.out]; exact hst'.out
  case round =>
    obtain ⟨j, F, Q, hj, rfl, hbF1, hlF1, hbQ1, hlQ1, hbD1, hval1, hlt1, hbel1⟩ := hrel
    have hbF := Lib.hid hbF1; have hlF := Lib.hid hlF1; have hbQ := Lib.hid hbQ1; have hlQ := Lib.hid hlQ1; have hbD := Lib.hid hbD1; have hval := Lib.hid hval1; have hlt := Lib.hid hlt1; have hbel := Lib.hid hbel1
    clear hbF1 hlF1 hbQ1 hlQ1 hbD1 hval1 hlt1 hbel1
    have z1 : B1 < wr.heap.size := hbF.out.lt (by omega)
    have z2 : B2 < wr.heap.size := hbD.out.lt (by omega)
    have z3 : B3 < wr.heap.size := hbQ.out.lt (by omega)
    have hDD : D ≤ pw (l + 1) := by rw [hD'.out]; exact hD1'.out
    have hDP : 0 < D := by rw [hD'.out]; exact hDpos'.out
    have hDD' := Lib.hid hDD; clear hDD
    by_cases h0 : j = 0
    · subst h0
      have hfin := div_whole (V := val F NN) (D := D) (Q := val (fun s => Q (0 + s)) (t + 1 - 0)) (A := A) (x := val f (l + 1 + t)) (y := val g (l + 1)) (u := u) (by have := hval.out; rwa [show pw 0 = 1 from rfl, Nat.mul_one] at this) hA'.out
        (by rw [hD'.out]; exact hDv'.out) (by have := hlt.out; rwa [show pw 0 = 1 from rfl, Nat.mul_one] at this)
      rw [hvf.out, hvg.out] at hfin
      have hQe : val (fun s => Q (0 + s)) (t + 1 - 0) = val Q (t + 1) := val_congr (fun x _ => by rw [Nat.zero_add])
      rw [hQe] at hfin
      have hfin' := Lib.hid hfin
      clear hfin hQe
      rw [← hNN'.out]
      go_wp2_with fail
      refine (moveDown_any B1 NN u F wr (by omega) u1 hbF.out hlF.out).mono ?_
      rintro e w5 ⟨F3, rfl, hb5, hl5, hv5, hg5⟩
      have hb5' := Lib.hid hb5; have hl5' := Lib.hid hl5; have hv5' := Lib.hid hv5
      have hqq := Lib.hid (hbQ.out.kept z3 hg5 (Ne.symm hne13))
      have hbel5 := Lib.hid (hbel.out.grown hg5 (by have := hbel.out.size; omega) (fun k hk => by cases hk; exact hle1))
      clear hb5 hl5 hv5 hg5
      go_wp2_with fail
      refine (trim_any (some ⟨B3, 0, none⟩) (t + 1) (t + 1) Q w5 (Nat.le_refl _) (by omega) (Sl.of_blk0 hqq.out _ (Nat.le_refl _))).mono ?_
      rintro e w' ⟨q1, hq1, rfl, htq0, hvq0, rfl⟩
      have htq := Lib.hid htq0; have hvq := Lib.hid hvq0; clear htq0 hvq0
      go_wp2_with fail
      refine (trim_any (some ⟨B1, 0, none⟩) NN NN F3 w5 (Nat.le_refl _) (by omega) (Sl.of_blk0 hb5'.out _ (Nat.le_refl _))).mono ?_
      rintro e w' ⟨r1, hr1, rfl, htr0, hvr0, rfl⟩
      have htr := Lib.hid htr0; have hvr := Lib.hid hvr0; clear htr0 hvr0
      go_wp2_with fail
      go_ret3
      refine ⟨hbel5.out, .inr ⟨hgz'.out, some ⟨B3, 0, none⟩, q1, t + 1, Q, some ⟨B1, 0, none⟩, r1, NN, F3, rfl, hq1, by omega, hr1, by omega, Sl.of_blk0 hqq.out _ hq1, ?_, Sl.of_blk0 hb5'.out _ hr1, ?_⟩⟩
      · exact ⟨hlQ.out.mono hq1, htq.out, hvq.out.trans hfin'.out.1⟩
      · exact ⟨hl5'.out.mono hr1, htr.out, (hvr.out.trans hv5'.out).trans hfin'.out.2⟩
    · obtain ⟨s, rfl⟩ : ∃ s, j = s + 1 := ⟨j - 1, by omega⟩
      have hz := high_noughts hDD'.out hlt.out
      have hwin := val_window (F := F) (N := NN) (i := s) (k := l + 1 + 1) (by omega) (fun x h1 h2 => hz x (by omega) h2)
      have hRw := div_window (L := val F s) (P := pw s) (Rw := val (fun x => F (s + x)) (l + 1 + 1)) (D := D) hwin (by have := hlt.out; rw [pw_succ, Nat.mul_comm 4294967296] at this; exact this)
      have hz' := Lib.hid hz; have hwin' := Lib.hid hwin; have hRw' := Lib.hid hRw
      clear hz hwin hRw h0
      go_wp2_with fail
      rw [show s + (l + 1) + 1 - s = l + 1 + 1 by omega]
      refine (divideLimb_any B1 NN s l (l + 1 + t + 1 - s) (some ⟨B2, 0, none⟩) (l + 1 + 1) F F2 wr (by omega) (by omega) hbF.out hlF.out (Sl.of_blk0 hbD.out _ (Nat.le_refl _)) (.inr (fun a ha => by cases ha; exact hne12)) (hl2.out.mono (Nat.le_succ _)) (by rw [← hD'.out]; exact hRw'.out)).mono ?_
      rw [← hD'.out]
      rintro e w5 ⟨q, F', hq, rfl, hb5, hl5, hs5, hv5, hg5⟩
      have hq' := Lib.hid hq; have hb5' := Lib.hid hb5; have hl5' := Lib.hid hl5; have hs5' := Lib.hid hs5; have hv5' := Lib.hid hv5; have hg5' := Lib.hid hg5
      have hqq := Lib.hid (hbQ.out.kept z3 hg5 (Ne.symm hne13))
      have hdd := Lib.hid (hbD.out.kept z2 hg5 hne12)
      have hq4 : q < 4294967296 := by rw [hq]; exact (Nat.div_lt_iff_lt_mul hDP).2 hRw'.out
      have z35 : B3 < w5.heap.size := Nat.lt_of_lt_of_le z3 hg5.size
      have z15 : B1 < w5.heap.size := Nat.lt_of_lt_of_le z1 hg5.size
      have z25 : B2 < w5.heap.size := Nat.lt_of_lt_of_le z2 hg5.size
      clear hq hb5 hl5 hs5 hv5 hg5
      have hcell := hqq.out.cell s (by omega)
      have hfree := hqq.out.free s
      go_wp2_with fail
      go_roundw
      case rel =>
        have hg6 : w5.grownBy (w5.setCell ⟨B3, s, none⟩ (.int .u32 q)) (some B3) := grown_setCell (grown_refl _ _) _ _
        have hwin2 : val F' NN = val F' s + pw s * val (fun x => F' (s + x)) (l + 1 + 1) :=
          val_window (by omega) (fun x h1 h2 => (hs5'.out x (by omega)).trans (hz'.out x (by omega) h2))
        have hlow : val F' s = val F s := val_congr (fun x hx => hs5'.out x (by omega))
        rw [hlow, hv5'.out] at hwin2
        have hv := hval.out
        rw [pw_succ, Nat.mul_comm 4294967296] at hv
        obtain ⟨r1, r2⟩ := div_round hwin'.out hwin2 hv hq'.out (val_lt (hlF.out.mono (by omega))) hDP
        refine ⟨s, F', put Q s q, by omega, int_eq (by omega), hb5'.out.kept z15 hg6 hne13, hl5'.out, hqq.out.set s (by omega) _ _ rfl, put_lim hlQ.out hq4, hdd.out.kept z25 hg6 hne23, ?_, r2, ?_⟩
        · rw [← r1]
          have e : t + 1 - s = t + 1 - (s + 1) + 1 := by omega
          rw [e, val_cons, Nat.add_zero, put_at]
          have e3 : val (fun x => put Q s q (s + (x + 1))) (t + 1 - (s + 1)) = val (fun x => Q (s + 1 + x)) (t + 1 - (s + 1)) := val_congr (fun x _ => by rw [put_ne (by omega), show s + (x + 1) = s + 1 + x by omega])
          rw [e3]
        · exact (hbel.out.grown hg5'.out (by have := hbel.out.size; omega) (fun k hk => by cases hk; exact hle1)).grown hg6 (by have := hbel.out.size; have := hg5'.out.size; omega) (fun k hk => by cases hk; exact hle3)
      case measure => simp [intOf]

end Go.Proofs.YtaepelipkkmeaaaGreat
namespace Go.Proofs.YtaepelipkkmeaaaGreat

open Go.RowKit Num

theorem val_two {f : Nat → Nat} {n : Nat} (h : n ≤ 2) : at0 f n 1 * 4294967296 + at0 f n 0 = val f n := by
  rw [← val_at0_ge h]
  simp [val, pw]
  omega

set_option maxHeartbeats 400000 in
theorem word_any (ao : Option Addr) (n nc : Nat) (f : Nat → Nat) (w : World) (h2 : n ≤ 2) (hs : Sl w ao n f) (lf : Lim f n) :
    Calls Tryz.prog 164 #[.slice ao n nc] w fun e w' => e = .returned (.int .u64 (val f n)) ∧ w = w' := by
  have b0 := at0_lt lf 0
  have b1 := at0_lt lf 1
  have hor := or_shift (at0 f n 1) (at0 f n 0) (by omega) (by omega) (by omega) (by omega)
  have hv := Lib.hid (val_two (f := f) h2)
  go_enter Tryz.func164, Tryz.ntmps164
  go_wp2_with fail
  refine (limb_any ao n nc 1 f w (by omega) hs).mono ?_
  rintro e w' ⟨rfl, rfl⟩
  rw [show (1 : Int).toNat = 1 from rfl]
  go_wp2_with fail
  refine (limb_any ao n nc 0 f w (by omega) hs).mono ?_
  rintro e w' ⟨rfl, rfl⟩
  rw [show (0 : Int).toNat = 0 from rfl]
  go_wp2_with fail
  go_ret
  exact ⟨ret_num (by rw [← hv.out]; omega), rfl⟩

set_option maxHeartbeats 400000 in
theorem gcdOfWords_any (x y : Nat) (w : World) (hx : x < 18446744073709551616) (hy : y < 18446744073709551616) :
    Calls Tryz.prog 163 #[.int .u64 x, .int .u64 y] w fun e w' => e = .returned (.int .u64 (Nat.gcd x y)) ∧ ∃ q, w' = w.drewN q := by
  obtain ⟨G, hG0⟩ : ∃ G, G = Nat.gcd x y := ⟨_, rfl⟩
  rw [← hG0]
  have hG := Lib.hid hG0
  clear hG0
  go_enter Tryz.func163, Tryz.ntmps163
  go_wp2_with fail
  go_loopw [0, 1] (fun a b wr => ∃ u v : Nat, a = .int .u64 u ∧ b = .int .u64 v ∧ u < 18446744073709551616 ∧ v < 18446744073709551616 ∧ G = Nat.gcd u v ∧ ∃ q, wr = w.drewN q) (fun _ b _ => (intOf b).toNat)
  case atStart => exact ⟨x, y, rfl, rfl, hx, hy, hG.out, 0, rfl⟩
  case round =>
    obtain ⟨u, v, rfl, rfl, hu, hv, hg0, hq0⟩ := hrel
    have hg := Lib.hid hg0; have hq := Lib.hid hq0
    clear hg0 hq0
    by_cases h0 : v = 0
    · subst h0
      go_wp2_with fail
      go_ret
      exact ⟨ret_num (by rw [hg.out, Nat.gcd_zero_right]), hq.out⟩
    · have hb : ((v : Int) != 0) = true := by rw [bne_iff_ne]; omega
      have hm : (u : Int) % (v : Int) = ((u % v : Nat) : Int) := by omega
      have hm' := Lib.hid hm
      have hm0 : 0 ≤ (u : Int) % (v : Int) := by omega
      have hlt : u % v < v := Nat.mod_lt _ (by omega)
      clear hm
      go_wp2_with fail
      go_quiet (fail)
      go_wp2_with fail
      go_roundw
      case rel =>
        obtain ⟨q, hq'⟩ := hq.out
        exact ⟨v, u % v, rfl, int_eq hm'.out, hv, by omega, by rw [hg.out, Nat.gcd_comm, Nat.gcd_rec, Nat.gcd_comm], drewN_trans hq' _⟩
      case measure => simp [intOf]; omega

set_option maxHeartbeats 400000 in
theorem fromWord_any (x : Nat) (w : World) (hx : x < 18446744073709551616) :
    Calls Tryz.prog 162 #[.int .u64 x] w (NumPost x w) := by
  go_enter Tryz.func162, Tryz.ntmps162
  go_wp2_with fail
  obtain ⟨w1, hw1⟩ : ∃ w1, w1 = w.alloc (.cells #[.int .u32 ((x : Int) % 4294967296), .int .u32 ((x : Int) / 4294967296)] 104) := ⟨_, rfl⟩
  rw [← hw1]
  have hblk : Blk w1 w.heap.size 2 (put (put (fun _ => 0) 0 (x % 4294967296)) 1 (x / 4294967296)) := by
    refine ⟨fun j hj => ?_, fun j => ?_⟩
    · rw [hw1, World.cell?_alloc_new]
      have : j = 0 ∨ j = 1 := by omega
      rcases this with rfl | rfl
      · rw [put_ne (by decide), put_at]; simp
      · rw [put_at]; simp
    · rw [hw1, World.frozen?_alloc_new]
  have hbel : Below w.heap.size w w1 := by rw [hw1]; exact (Below.refl _ _).alloc (Nat.le_refl _) _
  have hsl := Lib.hid (Sl.of_blk0 hblk 2 (Nat.le_refl _)); have hbel' := Lib.hid hbel
  clear hblk hbel hw1
  refine (trim_any (some ⟨w.heap.size, 0, none⟩) 2 2 _ w1 (Nat.le_refl _) (by omega) hsl.out).mono ?_
  rintro e w' ⟨k, hk, rfl, htf0, hvf0, rfl⟩
  have htf := Lib.hid htf0; have hvf := Lib.hid hvf0; clear htf0 hvf0
  go_wp2_with fail
  go_ret
  refine ⟨_, k, 2, _, rfl, hk, by omega, hsl.out.mono hk, ⟨?_, htf.out, ?_⟩, hbel'.out⟩
  · refine Lim.mono (n := 2) (fun j hj => ?_) hk
    have : j = 0 ∨ j = 1 := by omega
    rcases this with rfl | rfl
    · rw [put_ne (by decide), put_at]; exact Nat.mod_lt _ (by decide)
    · rw [put_at]; omega
  · rw [hvf.out, val_succ, val_succ, val_zero, put_at, put_ne (by decide), put_at]
    simp [pw]
    omega

/-- A number of at most 1000000 limbs without noughts on top, that may be handed on. -/
theorem Num.Canon.arg {w : World} {ao : Option Addr} {n nc v : Nat} {f : Nat → Nat} (h : Canon v n f) (hs : Sl w ao n f) (hn : n ≤ nc) (hc : nc ≤ 9223372036854775807) (hv : v < pw 1000000) : Arg w ao n nc f :=
  ⟨hn, hc, h.len_le hv, hs, h.lim⟩

set_option maxHeartbeats 1000000 in
theorem gcd_any (ao bo : Option Addr) (n nc m mc : Nat) (f g : Nat → Nat) (w : World) (A : Arg w ao n nc f) (B : Arg w bo m mc g) :
    Calls Tryz.prog 124 #[.slice ao n nc, .slice bo m mc] w (NumPost (Nat.gcd (val f n) (val g m)) w) := by
  have vx : val f n < pw 1000000 := Nat.lt_of_lt_of_le (val_lt A.lim) (pw_le A.few)
  have vy : val g m < pw 1000000 := Nat.lt_of_lt_of_le (val_lt B.lim) (pw_le B.few)
  obtain ⟨X, hX⟩ : ∃ X, X = val f n := ⟨_, rfl⟩
  obtain ⟨Y, hY⟩ : ∃ Y, Y = val g m := ⟨_, rfl⟩
  obtain ⟨G, hG0⟩ : ∃ G, G = Nat.gcd X Y := ⟨_, rfl⟩
  obtain ⟨T, hT⟩ : ∃ T, T = pw 1000000 := ⟨_, rfl⟩
  rw [← hX, ← hY, ← hG0]
  rw [← hT] at vx vy
  rw [← hX] at vx
  rw [← hY] at vy
  have hX' := Lib.hid hX; have hY' := Lib.hid hY; have hG' := Lib.hid hG0; have hT' := Lib.hid hT; have vx' := Lib.hid vx; have vy' := Lib.hid vy
  have hA := Lib.hid A; have hB := Lib.hid B
  clear hX hY hG0 hT vx vy A B
  go_enter Tryz.func124, Tryz.ntmps124
  go_wp2_with fail
  refine (norm_any ao n nc f w hA.out).mono ?_
  rintro e w1 ⟨co, q, qc, h, rfl, hq, hqc, hsh, hch, hbel⟩
  have hsh' := Lib.hid hsh; have hch' := Lib.hid hch; have hbel' := Lib.hid hbel
  clear hsh hch hbel
  go_wp2_with fail
  refine (norm_any bo m mc g w1 (hB.out.below hbel'.out)).mono ?_
  rintro e w2 ⟨do_, r, rc, i, rfl, hr, hrc, hsi, hci, hbel⟩
  have hsi' := Lib.hid hsi; have hci' := Lib.hid hci; have hbel2 := Lib.hid (hbel'.out.trans (hbel.mono hbel'.out.size)); have hsh2 := Lib.hid (hsh'.out.below hbel)
  clear hsi hci hbel hsh'
  go_wp2_with fail
  go_loopg [0, 1] Y (fun y a b wr => ∃ (x : Nat) (ao : Option Addr) (n nc : Nat) (f : Nat → Nat) (bo : Option Addr) (m mc : Nat) (g : Nat → Nat), a = .slice ao n nc ∧ b = .slice bo m mc ∧ n ≤ nc ∧ nc ≤ 9223372036854775807 ∧ m ≤ mc ∧ mc ≤ 9223372036854775807 ∧
      Sl wr ao n f ∧ Canon x n f ∧ Sl wr bo m g ∧ Canon y m g ∧ x < T ∧ y < T ∧ G = Nat.gcd x y ∧ Below w.heap.size w wr)
  case atStart =>
    exact ⟨X, co, q, qc, h, do_, r, rc, i, rfl, rfl, hq, hqc, hr, hrc, hsh2.out, by rw [hX'.out]; exact hch'.out, hsi'.out, by rw [hY'.out]; exact hci'.out, vx'.out, vy'.out, hG'.out, hbel2.out⟩
  case round =>
    obtain ⟨x, ao, n, nc, f, bo, m, mc, g, rfl, rfl, hn, hnc, hm, hmc, hsf0, hcf0, hsg0, hcg0, hx0, hy0, hg0, hbel0⟩ := hrel
    have hsf := Lib.hid hsf0; have hcf := Lib.hid hcf0; have hsg := Lib.hid hsg0; have hcg := Lib.hid hcg0; have hx := Lib.hid hx0; have hy := Lib.hid hy0; have hg := Lib.hid hg0; have hbel := Lib.hid hbel0
    clear hsf0 hcf0 hsg0 hcg0 hx0 hy0 hg0 hbel0
    by_cases hm0 : m = 0
    · subst hm0
      go_wp2_with fail
      go_ret
      refine ⟨ao, n, nc, f, rfl, hn, hnc, hsf.out, ?_, hbel.out⟩
      have e : gk = 0 := hcg.out.ne_zero.1 rfl
      have e2 := hg.out
      rw [e, Nat.gcd_zero_right] at e2
      rw [e2]; exact hcf.out
    · have hy1 : 0 < gk := Nat.pos_of_ne_zero (fun e => hm0 (hcg.out.ne_zero.2 e))
      by_cases hsmall : n ≤ 2 ∧ m ≤ 2
      · obtain ⟨s1, s2⟩ := hsmall
        have wx : x < 18446744073709551616 := Nat.lt_of_lt_of_le hcf.out.lt_pw (pw_le s1)
        have wy : gk < 18446744073709551616 := Nat.lt_of_lt_of_le hcg.out.lt_pw (pw_le s2)
        go_wp2_with fail
        refine (word_any ao n nc f wr s1 hsf.out hcf.out.lim).mono ?_
        rw [hcf.out.val]
        rintro e w' ⟨rfl, rfl⟩
        go_wp2_with fail
        refine (word_any bo m mc g wr s2 hsg.out hcg.out.lim).mono ?_
        rw [hcg.out.val]
        rintro e w' ⟨rfl, rfl⟩
        go_wp2_with fail
        refine (gcdOfWords_any x gk wr wx wy).mono ?_
        rw [← hg.out]
        have wg : G < 18446744073709551616 := by rw [hg.out]; exact Nat.lt_of_le_of_lt (Nat.gcd_le_right _ hy1) wy
        rintro e w' ⟨rfl, p, rfl⟩
        go_wp2_with fail
        refine (fromWord_any G (wr.drewN p) wg).mono ?_
        rintro e w3 ⟨ao3, n3, nc3, f3, rfl, h1, h2, h3, h4, h5⟩
        have h3' := Lib.hid h3; have h4' := Lib.hid h4
        have hbel3 := Lib.hid ((below_drewN hbel.out p).trans (h5.mono hbel.out.size))
        clear h3 h4 h5
        go_wp2_with fail
        go_ret
        exact ⟨ao3, n3, nc3, f3, rfl, h1, h2, h3'.out, h4'.out, hbel3.out⟩
      · by_cases s1 : n ≤ 2
        · have s2 : ¬ m ≤ 2 := fun h => hsmall ⟨s1, h⟩
          clear hsmall
          go_wp2_with fail
          refine (divMod_any ao bo n nc m mc f g wr (hcf.out.arg hsf.out hn hnc (by rw [← hT'.out]; exact hx.out)) (hcg.out.arg hsg.out hm hmc (by rw [← hT'.out]; exact hy.out))).mono ?_
          rw [hcf.out.val, hcg.out.val]
          rintro e w3 ⟨hb3, h3⟩
          rcases h3 with ⟨h3, _⟩ | ⟨_, ao3, n3, nc3, f3, bo3, m3, mc3, g3, rfl, _, _, hm3, hmc3, _, _, hsg3, hcg3⟩
          · exact absurd h3 (Nat.pos_iff_ne_zero.1 hy1)
          have hb3' := Lib.hid hb3; have hsg3' := Lib.hid hsg3; have hcg3' := Lib.hid hcg3; have hsg4 := Lib.hid (hsg.out.below hb3)
          have hbel3 := Lib.hid (hbel.out.trans (hb3.mono hbel.out.size))
          clear hb3 hsg3 hcg3
          go_wp2_with fail
          go_roundg (x % gk)
          case measure => exact Nat.mod_lt _ hy1
          case rel =>
            exact ⟨gk, bo, m, mc, g, bo3, m3, mc3, g3, rfl, rfl, hm, hmc, hm3, hmc3, hsg4.out, hcg.out, hsg3'.out, hcg3'.out, hy.out, Nat.lt_trans (Nat.mod_lt _ hy1) hy.out, by rw [hg.out, Nat.gcd_comm, Nat.gcd_rec, Nat.gcd_comm], hbel3.out⟩
        · clear hsmall
          go_wp2_with fail
          refine (divMod_any ao bo n nc m mc f g wr (hcf.out.arg hsf.out hn hnc (by rw [← hT'.out]; exact hx.out)) (hcg.out.arg hsg.out hm hmc (by rw [← hT'.out]; exact hy.out))).mono ?_
          rw [hcf.out.val, hcg.out.val]
          rintro e w3 ⟨hb3, h3⟩
          rcases h3 with ⟨h3, _⟩ | ⟨_, ao3, n3, nc3, f3, bo3, m3, mc3, g3, rfl, _, _, hm3, hmc3, _, _, hsg3, hcg3⟩
          · exact absurd h3 (Nat.pos_iff_ne_zero.1 hy1)
          have hb3' := Lib.hid hb3; have hsg3' := Lib.hid hsg3; have hcg3' := Lib.hid hcg3; have hsg4 := Lib.hid (hsg.out.below hb3)
          have hbel3 := Lib.hid (hbel.out.trans (hb3.mono hbel.out.size))
          clear hb3 hsg3 hcg3
          go_wp2_with fail
          go_roundg (x % gk)
          case measure => exact Nat.mod_lt _ hy1
          case rel =>
            exact ⟨gk, bo, m, mc, g, bo3, m3, mc3, g3, rfl, rfl, hm, hmc, hm3, hmc3, hsg4.out, hcg.out, hsg3'.out, hcg3'.out, hy.out, Nat.lt_trans (Nat.mod_lt _ hy1) hy.out, by rw [hg.out, Nat.gcd_comm, Nat.gcd_rec, Nat.gcd_comm], hbel3.out⟩

end Go.Proofs.YtaepelipkkmeaaaGreat
namespace Go.Proofs.YtaepelipkkmeaaaGreat

open Go.RowKit

theorem wpList_append_empty {P : Program} {w : World} {ops : Array Oper} {rest : List Oper} {o : Oper} {a : Act} {Q : Exit → Act → World → Prop} (hgd : o.guard = none) (s x : Operand) (t : TypeId)
    (ho : o.op = .call { callee := .builtin .append, args := #[s, x], argTypes := #[t, t] }) (e : TypeId) (i : TypeInfo) (ht : P.underlying t = some (.slice e)) (hi : P.info? e = some i)
    (ao : Option Addr) (c : Nat) (hs : a.eval s = .slice none 0 0) (hx : a.eval x = .slice ao 0 c)
    (h : wpList P ops Q rest (a.put o.dst (.slice none 0 0)) w) : wpList P ops Q (o :: rest) a w := by
  refine wpList_plain hgd fun K hK => ?_
  have hrun : (Builtin.append_ #[t, t] o.type #[.slice none 0 0, .slice ao 0 c]).run P w = .ok (.slice none 0 0) w := by
    cases ao <;> simp [Builtin.append_, run_underlying ht, sizeOf, typeInfo, hi, Builtin.lenOf, Builtin.firstCells, loadCells, loadCellsFrom]
  unfold Oper.wp
  simp [execOp, ho, resolve, invoke, builtin, hs, hx, hrun, Result.andThen]
  exact hK _ _ h

end Go.Proofs.YtaepelipkkmeaaaGreat
namespace Go.Proofs.YtaepelipkkmeaaaGreat

open Go.RowKit Num

theorem owns_slice {w : World} {base n : Nat} {t : TypeId} {v : Value} {f : Nat → Nat} (h : w.ownsRow base t 1 v n (limbCells f n)) :
    ∃ ao cap, v = .slice ao n cap ∧ n ≤ cap ∧ cap ≤ 9223372036854775807 ∧ Sl w ao n f := by
  rcases h.2 with ⟨rfl, rfl⟩ | ⟨g, cap, cur, hv, hb, hg, hnc, hcm, hcs, ht⟩
  · exact ⟨none, 0, rfl, Nat.le_refl _, by omega, .inl rfl⟩
  · subst hv
    refine ⟨_, cap, rfl, hnc, by unfold maxLen at hcm; omega, ?_⟩
    by_cases h0 : n = 0
    · exact .inl h0
    · refine .inr ⟨g, 0, rfl, fun j hj => ?_⟩
      rw [Nat.zero_add, h.cellAt j (by omega), limbCells_get f n j hj]

set_option maxHeartbeats 1000000 in
theorem refNorm_any (ao : Option Addr) (n nc : Nat) (f : Nat → Nat) (w : World) (A : Arg w ao n nc f) :
    Calls Tryz.prog 140 #[.slice ao n nc] w (NumPost (val f n) w) := by
  obtain ⟨i32, hi, hz0, hz1, hz2⟩ := info_parts info32
  obtain ⟨hn, hnc, hnb, hf, lf⟩ := A
  have lf' := Lib.hid lf
  clear lf
  rcases hf with rfl | ⟨b, off, rfl, hc⟩
  · go_enter Tryz.func140, Tryz.ntmps140
    go_wp2_with fail
    go_loop [3] (fun i => i = .int .i64 0) (fun i => (intOf i).toNat)
    case atStart => exact rfl
    case round =>
      obtain rfl := hrel
      go_wp2_with (at_builtin; refine wpList_append_empty rfl (.tmp 19) (.tmp 22) 22 rfl 104 i32 Tryz.underlying22 hi _ _ rfl rfl ?_)
      all_goals
        go_ret
        exact ⟨none, 0, 0, f, rfl, Nat.le_refl _, by omega, .inl rfl, canon_zero f, Below.refl _ _⟩
  · go_enter Tryz.func140, Tryz.ntmps140
    go_wp2_with fail
    go_loop [3] (fun i => ∃ k : Nat, k ≤ n ∧ i = .int .i64 k ∧ val f k = val f n) (fun i => (intOf i).toNat)
    case atStart => exact ⟨n, Nat.le_refl _, rfl, rfl⟩
    case round =>
      obtain ⟨k, hk, rfl, hv0⟩ := hrel
      have hv := Lib.hid hv0; clear hv0
      by_cases h0 : k = 0
      · subst h0
        go_wp2_with (at_builtin; refine wpList_append_empty rfl (.tmp 19) (.tmp 22) 22 rfl 104 i32 Tryz.underlying22 hi _ _ rfl rfl ?_)
        go_ret
        exact ⟨none, 0, 0, f, rfl, Nat.le_refl _, by omega, .inl rfl, by rw [← hv.out]; exact canon_zero f, Below.refl _ _⟩
      · have hpos : 0 < k := by omega
        have hcell := hc (k - 1) (by omega)
        have hc' := Lib.hid hc
        clear hc
        by_cases hz : f (k - 1) = 0
        · have hzi : ((f (k - 1) : Int) == 0) = true := by simp [hz]
          have hz' := Lib.hid hz; clear hz
          go_wp2_with fail
          go_round
          case rel =>
            have hk1 : k = k - 1 + 1 := by omega
            have e := val_nought hz'.out
            rw [← hk1] at e
            exact ⟨k - 1, by omega, int_eq (by omega), e.symm.trans hv.out⟩
          case measure => simp [intOf]; omega
        · have hzi : ((f (k - 1) : Int) == 0) = false := by simp [hz]
          have hone := limbCells_one f k
          have hlen := limbCells_length f k
          have hat := limbCells_at (w := w) (b := b) (off := off) (n := k) (f := f) (fun j hj => hc'.out j (by omega))
          obtain ⟨cs, hcs⟩ : ∃ cs, cs = limbCells f k := ⟨_, rfl⟩
          rw [← hcs] at hone hlen hat
          have hcs' := Lib.hid hcs; have hlen' := Lib.hid hlen
          clear hcs hlen
          go_wp2_with (at_builtin; refine wpList_append_own _ rfl (.tmp 19) (.tmp 22) 22 rfl w.heap.size 104 i32 (.int .u32 0) 1 4 Tryz.underlying22 hi hz0 hz1 hz2 rfl (by decide) _ _ _ rfl (World.ownsRow_nil _ _ _ _) ⟨b, off, none⟩ k nc cs rfl (by rw [hlen'.out]; omega) hat hone (by unfold maxLen; omega) (by omega) (Nat.le_refl _) ?_)
          intro v' w1 hown hgr hnil
          rw [hcs'.out] at hown
          obtain ⟨ao', cap', rfl, g1, g2, g3⟩ := owns_slice hown
          have g3' := Lib.hid g3
          have hb := Lib.hid ((Below.refl w.heap.size w).grown hgr (Nat.le_refl _) (fun _ h => by cases h))
          clear hown hgr hnil g3
          go_wp2_with fail
          go_ret
          exact ⟨ao', k, cap', f, rfl, g1, g2, g3'.out, ⟨lf'.out.mono hk, .inr hz, hv.out⟩, hb.out⟩

end Go.Proofs.YtaepelipkkmeaaaGreat
namespace Go.Proofs.YtaepelipkkmeaaaGreat

open Go.RowKit Num

theorem sl_new1 (w : World) (t : TypeId) (v : Int) (x : Nat) (h : v = x) : Sl (w.alloc (.cells #[.int .u32 v] t)) (some ⟨w.heap.size, 0, none⟩) 1 (fun _ => x) := by
  subst h
  refine .inr ⟨w.heap.size, 0, rfl, fun j hj => ?_⟩
  obtain rfl : j = 0 := by omega
  rw [Nat.zero_add, World.cell?_alloc_new]
  rfl

theorem sl_new2 (w : World) (t : TypeId) (u v : Int) (x y : Nat) (hu : u = x) (hv : v = y) : Sl (w.alloc (.cells #[.int .u32 u, .int .u32 v] t)) (some ⟨w.heap.size, 0, none⟩) 2 (put (fun _ => x) 1 y) := by
  subst hu hv
  refine .inr ⟨w.heap.size, 0, rfl, fun j hj => ?_⟩
  rw [Nat.zero_add, World.cell?_alloc_new]
  have : j = 0 ∨ j = 1 := by omega
  rcases this with rfl | rfl <;> rfl

end Go.Proofs.YtaepelipkkmeaaaGreat
namespace Go.Proofs.YtaepelipkkmeaaaGreat

open Go.RowKit Num

attribute [local go_sem ↓] Go.wp_at_zero Go.wp_at_succ

/-- This comes back; what lay there before lies there still. -/
def Says (v : Value) (w : World) (e : Ending) (w' : World) : Prop := e = .returned v ∧ Below w.heap.size w w'

theorem below_drawn {w w' : World} (h : ∃ q, w' = w.drewN q) : Below w.heap.size w w' := by
  obtain ⟨q, rfl⟩ := h
  exact below_drewN (Below.refl _ _) q

theorem sign_sgn (b : Bool) (v : Nat) : (sgn b v).sign = if b then -cmpI v 0 else cmpI v 0 := by
  cases b
  · by_cases h : v = 0
    · subst h; simp [sgn, cmpI]
    · have h1 : (0 : Int) < (v : Int) := by omega
      simp only [sgn_false, Int.sign_eq_one_of_pos h1, cmpI_gt h1]; simp
  · by_cases h : v = 0
    · subst h; simp [sgn, cmpI]
    · have h1 : (0 : Int) < (v : Int) := by omega
      simp only [sgn_true, Int.sign_neg, Int.sign_eq_one_of_pos h1, cmpI_gt h1]; simp

set_option maxHeartbeats 1000000 in
theorem wSign_any (b : Bool) (ao : Option Addr) (n nc : Nat) (x : Int) (w : World) (A : Whole w b ao n nc x) :
    Calls Tryz.prog 110 #[.agg #[.bool b, .slice ao n nc]] w (Says (.int .i64 x.sign) w) := by
  obtain ⟨f, A, hx⟩ := A.ex
  have A' := Lib.hid A
  have hs : x.sign = if b then -cmpI (val f n) 0 else cmpI (val f n) 0 := by rw [← hx]; exact sign_sgn b _
  rw [hs]
  clear A hx hs
  cases b
  all_goals
   go_enter Tryz.func110, Tryz.ntmps110
   go_wp2_with fail
   refine gen_calls (fun w' => Below w.heap.size w w' ∧ Box w' w.heap.size _ (.slice ao n nc)) ⟨(Below.refl _ w).alloc (Nat.le_refl _) _, Box.new _ _ _ rfl⟩ ?_
   rintro w0 ⟨hb0, x0⟩
   refine (cmp_any ao none n nc 0 0 f (fun _ => 0) _ (A'.out.below hb0) ⟨Nat.le_refl _, by omega, by omega, .inl rfl, fun _ h => by omega⟩).mono ?_
   rintro e w1 ⟨rfl, hd⟩
   have hb := below_drawn hd
   have y0 := x0.later hb
   have hb1 := Lib.hid (below_then hb0 (Nat.le_refl _) hb)
   have p0 := y0.c0
   clear hd hb hb0 x0
   have hv : cmpI (val f n : Nat) (val (fun _ => 0) 0 : Nat) = cmpI (val f n) 0 := rfl
   rw [hv]
   have hc : cmpI (val f n) 0 = 0 ∨ cmpI (val f n) 0 = 1 := by
     by_cases h : val f n = 0
     · exact .inl (cmpI_eq (by omega))
     · exact .inr (cmpI_gt (by omega))
   clear hv
   rcases hc with hc | hc <;> have hc' := Lib.hid hc <;> rw [hc] <;> clear hc
   all_goals
     go_wp2_with fail
     go_ret
     refine ⟨ret_num ?_, hb1.out⟩
     simp [hc'.out]

theorem wrap_back (v : Nat) (h : v ≤ 9223372036854775808) : IntKind.u64.wrap (-IntKind.u64.wrap (-(v : Int))) = (v : Int) := by
  simp [IntKind.wrap, IntKind.bits, IntKind.signed]
  omega

theorem sl_two {w : World} {B : Nat} {u v : Int} {x y : Nat} (t : TypeId) (h : B = w.heap.size) (hu : u = x) (hv : v = y) : Sl (w.alloc (.cells #[.int .u32 u, .int .u32 v] t)) (some ⟨B, 0, none⟩) 2 (put (fun _ => x) 1 y) := by
  subst h
  exact sl_new2 w t u v x y hu hv

theorem lim_two {x y : Nat} (hx : x < 4294967296) (hy : y < 4294967296) : Lim (put (fun _ => x) 1 y) 2 := put_lim (fun _ _ => hx) hy

theorem val_pair (x y : Nat) : val (put (fun _ => x) 1 y) 2 = x + 4294967296 * y := by
  rw [val_succ, val_succ, val_zero, put_at, put_ne (by decide)]
  simp [pw]
  omega

set_option maxHeartbeats 1000000 in
theorem wOf_any (n : Int) (w : World) (h0 : -9223372036854775808 ≤ n) (h1 : n ≤ 9223372036854775807) :
    Calls Tryz.prog 109 #[.int .i64 n] w (IntPost n w) := by
  by_cases hn : n < 0
  · obtain ⟨v, hv⟩ : ∃ v : Nat, n = -(v : Int) := ⟨n.natAbs, by omega⟩
    subst hv
    have hw := wrap_back v (by omega)
    have hp : 0 < v := by omega
    go_enter Tryz.func109, Tryz.ntmps109
    go_wp2_with fail
    refine gen_calls (fun w' => Below w.heap.size w w' ∧ Box w' w.heap.size (.bool false) (.slice none 0 0) ∧ Sl w' (some ⟨w.heap.size + 1, 0, none⟩) 2 (put (fun _ => v % 4294967296) 1 (v / 4294967296)))
      ⟨((Below.refl _ w).alloc (Nat.le_refl _) _).alloc (by simp) _, (Box.new _ _ _ rfl).alloc _, sl_two _ (by simp) (by omega) (by omega)⟩ ?_
    rintro w0 ⟨hb0, x0, hs⟩
    refine (norm_any (some ⟨w.heap.size + 1, 0, none⟩) 2 2 _ _ ⟨Nat.le_refl _, by omega, by omega, hs, lim_two (by omega) (by omega)⟩).mono ?_
    rw [val_pair, Nat.mod_add_div]
    rintro e w1 ⟨co, cn, cc, c, rfl, g1, g2, g3, g4, hb⟩
    have y0 := x0.later hb
    have hb1 := Lib.hid (below_then hb0 (Nat.le_refl _) hb)
    have g3' := Lib.hid g3; have g4' := Lib.hid g4
    clear g3 g4 hb hs x0 hb0
    go_wp2_with fail
    refine (signed_any true co _ cn cc c _ g1 g2 g3'.out g4'.out).mono ?_
    rintro e w3 ⟨sb, so, sn, sc, rfl, hR, hb4⟩
    have z2 := y0.later hb4
    have q1 := z2.c0; have q2 := z2.c1; have q3 := z2.fr 0; have q4 := z2.fr 1
    have hb2 := below_then hb1.out (Nat.le_refl _) hb4
    have z3 := z2.set (.bool sb) (.slice so sn sc)
    have e0 := z3.c0; have e1 := z3.c1
    have hR' := Lib.hid hR; have z2' := Lib.hid z2; have hb2' := Lib.hid hb2
    clear hR z2 hb2 hb4 y0
    go_wp2_with fail
    refine bodyPost_ret (v := .agg #[.bool sb, .slice so sn sc]) (by simp [results, Tryz.results109, go_sem, e0, e1]) rfl ?_
    exact IntPost.stored hR'.out z2'.out hb2'.out (by omega)
  · obtain ⟨v, hv⟩ : ∃ v : Nat, n = (v : Int) := ⟨n.natAbs, by omega⟩
    subst hv
    go_enter Tryz.func109, Tryz.ntmps109
    go_wp2_with fail
    refine gen_calls (fun w' => Below w.heap.size w w' ∧ Box w' w.heap.size (.bool false) (.slice none 0 0) ∧ Sl w' (some ⟨w.heap.size + 1, 0, none⟩) 2 (put (fun _ => v % 4294967296) 1 (v / 4294967296)))
      ⟨((Below.refl _ w).alloc (Nat.le_refl _) _).alloc (by simp) _, (Box.new _ _ _ rfl).alloc _, sl_two _ (by simp) (by omega) (by omega)⟩ ?_
    rintro w0 ⟨hb0, x0, hs⟩
    refine (norm_any (some ⟨w.heap.size + 1, 0, none⟩) 2 2 _ _ ⟨Nat.le_refl _, by omega, by omega, hs, lim_two (by omega) (by omega)⟩).mono ?_
    rw [val_pair, Nat.mod_add_div]
    rintro e w1 ⟨co, cn, cc, c, rfl, g1, g2, g3, g4, hb⟩
    have y0 := x0.later hb
    have hb1 := Lib.hid (below_then hb0 (Nat.le_refl _) hb)
    have g3' := Lib.hid g3; have g4' := Lib.hid g4
    clear g3 g4 hb hs x0 hb0
    go_wp2_with fail
    refine (signed_any false co _ cn cc c _ g1 g2 g3'.out g4'.out).mono ?_
    rintro e w3 ⟨sb, so, sn, sc, rfl, hR, hb4⟩
    have z2 := y0.later hb4
    have q1 := z2.c0; have q2 := z2.c1; have q3 := z2.fr 0; have q4 := z2.fr 1
    have hb2 := below_then hb1.out (Nat.le_refl _) hb4
    have z3 := z2.set (.bool sb) (.slice so sn sc)
    have e0 := z3.c0; have e1 := z3.c1
    have hR' := Lib.hid hR; have z2' := Lib.hid z2; have hb2' := Lib.hid hb2
    clear hR z2 hb2 hb4 y0
    go_wp2_with fail
    refine bodyPost_ret (v := .agg #[.bool sb, .slice so sn sc]) (by simp [results, Tryz.results109, go_sem, e0, e1]) rfl ?_
    exact IntPost.stored hR'.out z2'.out hb2'.out (by omega)

end Go.Proofs.YtaepelipkkmeaaaGreat
namespace Go.Proofs.YtaepelipkkmeaaaGreat

open Go.RowKit Num

/-- In lowest terms, of at most 32 limbs each. -/
def Low (P : Int) (Q : Nat) : Prop := Q ≠ 0 ∧ Nat.gcd P.natAbs Q = 1 ∧ P.natAbs < pw 32 ∧ Q < pw 32

/-- What Make tells of p by q: the error, the top, the bottom. -/
def mkG (p q : Int) : Nat := Nat.gcd p.natAbs q.natAbs

def mkE (p q : Int) : Int := if q = 0 then 3 else if p.natAbs / mkG p q < pw 32 ∧ q.natAbs / mkG p q < pw 32 then 0 else 7

def mkT (p q : Int) : Int := if mkE p q = 0 then sgn (decide (p.sign * q.sign < 0)) (p.natAbs / mkG p q) else 0

def mkB (p q : Int) : Nat := if mkE p q = 0 then q.natAbs / mkG p q else 0

theorem mkG_pos {p q : Int} (hq : q ≠ 0) : 0 < mkG p q := Nat.gcd_pos_of_pos_right _ (by omega)

theorem mkE_ok {p q : Int} : mkE p q = 0 ↔ q ≠ 0 ∧ p.natAbs / mkG p q < pw 32 ∧ q.natAbs / mkG p q < pw 32 := by
  unfold mkE
  by_cases h : q = 0
  · simp [h]
  · by_cases k : p.natAbs / mkG p q < pw 32 ∧ q.natAbs / mkG p q < pw 32
    · simp only [h, k, if_false, if_true, ne_eq, not_false_eq_true, and_self]
    · simp only [h, k, if_false, ne_eq, not_false_eq_true, true_and, iff_false]
      decide

theorem mk_bad {p q : Int} (h : mkE p q ≠ 0) : mkT p q = 0 ∧ mkB p q = 0 := by simp [mkT, mkB, h]

theorem mk_three {p q : Int} : mkE p q = 3 ↔ q = 0 := by
  unfold mkE
  by_cases h : q = 0
  · simp [h]
  · simp only [h, if_false, iff_false]; split <;> decide

theorem mkT_ok {p q : Int} (h : mkE p q = 0) : mkT p q = sgn (decide (p.sign * q.sign < 0)) (p.natAbs / mkG p q) := by simp [mkT, h]

theorem mkB_ok {p q : Int} (h : mkE p q = 0) : mkB p q = q.natAbs / mkG p q := by simp [mkB, h]

theorem mkT_abs {p q : Int} (h : mkE p q = 0) : (mkT p q).natAbs = p.natAbs / mkG p q := by rw [mkT_ok h, sgn_abs]

theorem mkT_lt (p q : Int) : (mkT p q).natAbs < pw 32 := by
  by_cases h : mkE p q = 0
  · rw [mkT_abs h]; exact (mkE_ok.1 h).2.1
  · rw [(mk_bad h).1]; exact pw_pos _

theorem mkB_lt (p q : Int) : mkB p q < pw 32 := by
  by_cases h : mkE p q = 0
  · rw [mkB_ok h]; exact (mkE_ok.1 h).2.2
  · rw [(mk_bad h).2]; exact pw_pos _

theorem mk_low {p q : Int} (h : mkE p q = 0) : Low (mkT p q) (mkB p q) := by
  obtain ⟨hq, h1, h2⟩ := mkE_ok.1 h
  have hg := mkG_pos (p := p) hq
  refine ⟨?_, ?_, mkT_lt _ _, mkB_lt _ _⟩
  · rw [mkB_ok h]
    have : mkG p q ≤ q.natAbs := Nat.gcd_le_right _ (by omega)
    have := Nat.div_pos this hg
    omega
  · rw [mkT_abs h, mkB_ok h]
    rw [mkG, Nat.gcd_div (Nat.gcd_dvd_left _ _) (Nat.gcd_dvd_right _ _)]; exact Nat.div_self hg

theorem abs_sign (x : Int) : (x.natAbs : Int) * x.sign = x := by rw [Int.mul_comm]; exact Int.sign_mul_natAbs x

theorem sgn_sign {x : Int} {v : Nat} (h' : x = 0 → v = 0) : sgn (decide (x < 0)) v = x.sign * v := by
  rcases Int.lt_trichotomy x 0 with hx | hx | hx
  · rw [Int.sign_eq_neg_one_of_neg hx]; simp [hx, sgn]
  · rw [hx, h' hx]; simp [sgn]
  · rw [Int.sign_eq_one_of_pos hx]; simp [sgn, Int.not_lt.2 (Int.le_of_lt hx)]

theorem mk_cross {p q : Int} (h : mkE p q = 0) : mkT p q * q = p * mkB p q := by
  obtain ⟨hq, _, _⟩ := mkE_ok.1 h
  have hg := mkG_pos (p := p) hq
  have e1 : mkG p q * (p.natAbs / mkG p q) = p.natAbs := Nat.mul_div_cancel' (Nat.gcd_dvd_left _ _)
  have e2 : mkG p q * (q.natAbs / mkG p q) = q.natAbs := Nat.mul_div_cancel' (Nat.gcd_dvd_right _ _)
  rw [mkT_ok h, mkB_ok h]
  generalize p.natAbs / mkG p q = a at *
  generalize q.natAbs / mkG p q = b at *
  generalize mkG p q = g at *
  have es : (p.sign * q.sign).sign = p.sign * q.sign := by rw [Int.sign_mul, Int.sign_sign, Int.sign_sign]
  have k1 : p.sign * q.sign = 0 → a = 0 := by
    intro h0
    rcases Int.mul_eq_zero.1 h0 with h1 | h1
    · have : p = 0 := Int.sign_eq_zero_iff_zero.1 h1
      subst this
      rcases Nat.mul_eq_zero.1 (e1.trans rfl) with h2 | h2
      · omega
      · exact h2
    · exact absurd (Int.sign_eq_zero_iff_zero.1 h1) hq
  rw [sgn_sign k1, es]
  have sq : q.sign * q.sign = 1 := by
    rcases Int.lt_or_gt_of_ne hq with h1 | h1
    · rw [Int.sign_eq_neg_one_of_neg h1]; rfl
    · rw [Int.sign_eq_one_of_pos h1]; rfl
  have ep := abs_sign p
  have eq := abs_sign q
  have f1 : (g : Int) * a = p.natAbs := by exact_mod_cast e1
  have f2 : (g : Int) * b = q.natAbs := by exact_mod_cast e2
  generalize p.sign = sp at *
  generalize q.sign = sq' at *
  generalize (p.natAbs : Int) = pa at *
  generalize (q.natAbs : Int) = qa at *
  generalize (a : Int) = a at *
  generalize (b : Int) = b at *
  generalize (g : Int) = g at *
  subst f1 f2 ep eq
  grind

theorem low_unique {P P' : Int} {Q Q' : Nat} (a : Low P Q) (b : Low P' Q') (h : P * Q' = P' * Q) : P = P' ∧ Q = Q' := by
  obtain ⟨a0, a1, _, _⟩ := a
  obtain ⟨b0, b1, _, _⟩ := b
  have hn : P.natAbs * Q' = P'.natAbs * Q := by
    have := congrArg Int.natAbs h
    simpa [Int.natAbs_mul] using this
  have d1 : Q ∣ Q' := (Nat.Coprime.symm a1).dvd_of_dvd_mul_left ⟨P'.natAbs, by rw [hn, Nat.mul_comm]⟩
  have d2 : Q' ∣ Q := (Nat.Coprime.symm b1).dvd_of_dvd_mul_left ⟨P.natAbs, by rw [← hn, Nat.mul_comm]⟩
  have e : Q = Q' := Nat.dvd_antisymm d1 d2
  subst e
  exact ⟨Int.eq_of_mul_eq_mul_right (by omega) h, rfl⟩

/-- A number that is right, told by any two that make it. -/
theorem mk_of_low {p q : Int} {P : Int} {Q : Nat} (a : Low P Q) (hq : q ≠ 0) (e : p * Q = P * q) : mkE p q = 0 ∧ mkT p q = P ∧ mkB p q = Q := by
  have h : mkE p q = 0 := by
    obtain ⟨a0, a1, a2, a3⟩ := a
    have hn : p.natAbs * Q = P.natAbs * q.natAbs := by
      have := congrArg Int.natAbs e
      simpa [Int.natAbs_mul] using this
    have d1 : Q ∣ q.natAbs := (Nat.Coprime.symm a1).dvd_of_dvd_mul_left ⟨p.natAbs, by rw [← hn, Nat.mul_comm]⟩
    obtain ⟨k, hk⟩ := d1
    have hp : p.natAbs = P.natAbs * k := by
      rw [hk, Nat.mul_left_comm, Nat.mul_comm] at hn
      exact Nat.eq_of_mul_eq_mul_left (by omega) hn
    have hk0 : 0 < k := by
      rcases Nat.eq_zero_or_pos k with rfl | h
      · simp at hk; omega
      · exact h
    have hg : mkG p q = k := by
      unfold mkG
      rw [hp, hk, Nat.gcd_mul_right, a1, Nat.one_mul]
    refine mkE_ok.2 ⟨hq, ?_, ?_⟩
    · rw [hg, hp, Nat.mul_div_cancel _ hk0]; exact a2
    · rw [hg, hk, Nat.mul_div_cancel _ hk0]; exact a3
  have c := mk_cross h
  refine ⟨h, low_unique (mk_low h) a ?_⟩
  refine Int.eq_of_mul_eq_mul_right hq ?_
  rw [Int.mul_right_comm, c, Int.mul_right_comm, e, Int.mul_right_comm]

theorem Low.nz {P : Int} {Q : Nat} (a : Low P Q) : (Q : Int) ≠ 0 := by have := a.1; omega

theorem mk_self {P : Int} {Q : Nat} (a : Low P Q) : mkE P Q = 0 ∧ mkT P Q = P ∧ mkB P Q = Q := mk_of_low a a.nz rfl

theorem low_one {P : Int} (h : P.natAbs < pw 32) : Low P 1 := ⟨by omega, Nat.gcd_one_right _, h, Nat.lt_of_lt_of_le (by decide : 1 < pw 1) (pw_le (by omega))⟩

theorem Low.neg {P : Int} {Q : Nat} (a : Low P Q) : Low (-P) Q := ⟨a.1, by rw [Int.natAbs_neg]; exact a.2.1, by rw [Int.natAbs_neg]; exact a.2.2.1, a.2.2.2⟩

theorem fdiv_abs (P : Int) {Q : Nat} (hQ : Q ≠ 0) : (P.fdiv Q).natAbs ≤ P.natAbs := by
  have hq : (0 : Int) < (Q : Int) := by omega
  have e := Int.fmod_add_mul_fdiv P Q
  have h1 := Int.fmod_nonneg_of_pos P hq
  have h2 := Int.fmod_lt_of_pos P hq
  generalize P.fdiv Q = f at *
  generalize P.fmod Q = r at *
  have hQ1 : (1 : Int) ≤ (Q : Int) := by omega
  by_cases hf : 0 ≤ f
  · have : 1 * f ≤ (Q : Int) * f := Int.mul_le_mul_of_nonneg_right hQ1 hf
    omega
  · have : (Q : Int) * (f + 1) ≤ 1 * (f + 1) := Int.mul_le_mul_of_nonpos_right hQ1 (by omega)
    rw [Int.mul_add] at this
    omega

theorem low_floor {P : Int} {Q : Nat} (a : Low P Q) : Low (P.fdiv Q) 1 := low_one (Nat.lt_of_le_of_lt (fdiv_abs P a.1) a.2.2.1)

/-- A block of three cells, none of them frozen. -/
structure Box3 (w : World) (B : Nat) (v0 v1 v2 : Value) : Prop where
  c0 : w.cell? ⟨B, 0, none⟩ = some v0
  c1 : w.cell? ⟨B, 1, none⟩ = some v1
  c2 : w.cell? ⟨B, 2, none⟩ = some v2
  fr : ∀ j, w.frozen? ⟨B, j, none⟩ = false

theorem Box3.lt {w : World} {B : Nat} {v0 v1 v2 : Value} (h : Box3 w B v0 v1 v2) : B < w.heap.size := World.block_lt_of_cell? w _ h.c0

theorem Box3.new {w : World} {B : Nat} (v0 v1 v2 : Value) (t : TypeId) (h : B = w.heap.size) : Box3 (w.alloc (.cells #[v0, v1, v2] t)) B v0 v1 v2 := by
  subst h
  exact ⟨by simp, by simp, by simp, fun j => by
    have hh := heap_alloc_new w (.cells #[v0, v1, v2] t)
    simp only [World.frozen?, hh]
    simp⟩

theorem Box3.below {w w' : World} {B C : Nat} {v0 v1 v2 : Value} (h : Box3 w B v0 v1 v2) (hb : Below C w w') (hC : B < C) : Box3 w' B v0 v1 v2 :=
  ⟨(hb.cell hC).trans h.c0, (hb.cell hC).trans h.c1, (hb.cell hC).trans h.c2, fun j => (hb.frozen hC).trans (h.fr j)⟩

theorem Box3.later {w w' : World} {B : Nat} {v0 v1 v2 : Value} (h : Box3 w B v0 v1 v2) (hb : Below w.heap.size w w') : Box3 w' B v0 v1 v2 := h.below hb h.lt

theorem Box3.alloc {w : World} {B : Nat} {v0 v1 v2 : Value} (h : Box3 w B v0 v1 v2) (o : Obj) : Box3 (w.alloc o) B v0 v1 v2 := h.later ((Below.refl _ w).alloc (Nat.le_refl _) o)

theorem Box3.drew {w : World} {B : Nat} {v0 v1 v2 : Value} (h : Box3 w B v0 v1 v2) : Box3 w.drew B v0 v1 v2 := ⟨h.c0, h.c1, h.c2, h.fr⟩

theorem cell_set_ne {w : World} {a b : Addr} {v : Value} (h : a ≠ b) : (w.setCell b v).cell? a = w.cell? a := World.cell?_setCell_other _ _ _ _ (fun e => h e.symm)

theorem Box3.set {w : World} {B : Nat} {v0 v1 v2 : Value} (h : Box3 w B v0 v1 v2) (u0 u1 u2 : Value) : Box3 (((w.setCell ⟨B, 0, none⟩ u0).setCell ⟨B, 1, none⟩ u1).setCell ⟨B, 2, none⟩ u2) B u0 u1 u2 := by
  have ne : ∀ {j k : Nat}, j ≠ k → (⟨B, j, none⟩ : Addr) ≠ ⟨B, k, none⟩ := fun h e => h (by injection e)
  refine ⟨?_, ?_, ?_, fun j => by rw [World.frozen?_setCell, World.frozen?_setCell, World.frozen?_setCell]; exact h.fr j⟩
  · rw [cell_set_ne (ne (by decide)), cell_set_ne (ne (by decide))]
    exact World.cell?_setCell_same _ _ _ h.c0
  · rw [cell_set_ne (ne (by decide))]
    refine World.cell?_setCell_same _ _ _ (?_ : _ = some v1)
    rw [cell_set_ne (ne (by decide))]
    exact h.c1
  · refine World.cell?_setCell_same _ _ _ (?_ : _ = some v2)
    rw [cell_set_ne (ne (by decide)), cell_set_ne (ne (by decide))]
    exact h.c2

theorem Box3.other {w : World} {B C : Nat} {v0 v1 v2 : Value} (h : Box3 w B v0 v1 v2) (hne : B ≠ C) (u0 u1 : Value) : Box3 ((w.setCell ⟨C, 0, none⟩ u0).setCell ⟨C, 1, none⟩ u1) B v0 v1 v2 := by
  have ne : ∀ j k, (⟨B, j, none⟩ : Addr) ≠ ⟨C, k, none⟩ := fun j k e => hne (by injection e)
  refine ⟨?_, ?_, ?_, fun j => by rw [World.frozen?_setCell, World.frozen?_setCell]; exact h.fr j⟩
  · rw [cell_set_ne (ne _ _), cell_set_ne (ne _ _)]; exact h.c0
  · rw [cell_set_ne (ne _ _), cell_set_ne (ne _ _)]; exact h.c1
  · rw [cell_set_ne (ne _ _), cell_set_ne (ne _ _)]; exact h.c2

theorem Box3.other3 {w : World} {B C : Nat} {v0 v1 v2 : Value} (h : Box3 w B v0 v1 v2) (hne : B ≠ C) (u0 u1 u2 : Value) : Box3 (((w.setCell ⟨C, 0, none⟩ u0).setCell ⟨C, 1, none⟩ u1).setCell ⟨C, 2, none⟩ u2) B v0 v1 v2 := by
  have ne : ∀ j k, (⟨B, j, none⟩ : Addr) ≠ ⟨C, k, none⟩ := fun j k e => hne (by injection e)
  refine ⟨?_, ?_, ?_, fun j => by rw [World.frozen?_setCell, World.frozen?_setCell, World.frozen?_setCell]; exact h.fr j⟩
  · rw [cell_set_ne (ne _ _), cell_set_ne (ne _ _), cell_set_ne (ne _ _)]; exact h.c0
  · rw [cell_set_ne (ne _ _), cell_set_ne (ne _ _), cell_set_ne (ne _ _)]; exact h.c1
  · rw [cell_set_ne (ne _ _), cell_set_ne (ne _ _), cell_set_ne (ne _ _)]; exact h.c2

theorem Box.other3 {w : World} {B C : Nat} {v0 v1 : Value} (h : Box w B v0 v1) (hne : B ≠ C) (u0 u1 u2 : Value) : Box (((w.setCell ⟨C, 0, none⟩ u0).setCell ⟨C, 1, none⟩ u1).setCell ⟨C, 2, none⟩ u2) B v0 v1 := by
  have ne : ∀ j k, (⟨B, j, none⟩ : Addr) ≠ ⟨C, k, none⟩ := fun j k e => hne (by injection e)
  refine ⟨?_, ?_, fun j => by rw [World.frozen?_setCell, World.frozen?_setCell, World.frozen?_setCell]; exact h.fr j⟩
  · rw [cell_set_ne (ne _ _), cell_set_ne (ne _ _), cell_set_ne (ne _ _)]; exact h.c0
  · rw [cell_set_ne (ne _ _), cell_set_ne (ne _ _), cell_set_ne (ne _ _)]; exact h.c1

theorem below_set3 {w w' : World} {A B : Nat} (h : Below A w w') (hB : A ≤ B) (u0 u1 u2 : Value) : Below A w (((w'.setCell ⟨B, 0, none⟩ u0).setCell ⟨B, 1, none⟩ u1).setCell ⟨B, 2, none⟩ u2) := ((h.setCell (p := ⟨B, 0, none⟩) hB u0).setCell (p := ⟨B, 1, none⟩) hB u1).setCell (p := ⟨B, 2, none⟩) hB u2

theorem Sl.box3 {w : World} {ao : Option Addr} {n B : Nat} {f : Nat → Nat} {c : Bool} {p q : Option Addr} {k l k' l' : Nat} (h : Sl w ao n f) (z : Box3 w B (.bool c) (.slice p k l) (.slice q k' l')) (u0 u1 u2 : Value) : Sl (((w.setCell ⟨B, 0, none⟩ u0).setCell ⟨B, 1, none⟩ u1).setCell ⟨B, 2, none⟩ u2) ao n f := by
  rcases h with rfl | ⟨d, off, rfl, hc⟩
  · exact .inl rfl
  · refine .inr ⟨d, off, rfl, fun j hj => ?_⟩
    have e := hc j hj
    rw [cell_set_ne (fun e1 => by rw [e1, z.c2] at e; cases e), cell_set_ne (fun e1 => by rw [e1, z.c1] at e; cases e), cell_set_ne (fun e1 => by rw [e1, z.c0] at e; cases e)]
    exact e

theorem Right.box3 {w : World} {b : Bool} {ao : Option Addr} {n nc B : Nat} {x : Int} {c : Bool} {p q : Option Addr} {k l k' l' : Nat} (h : Right w b ao n nc x) (z : Box3 w B (.bool c) (.slice p k l) (.slice q k' l')) (u0 u1 u2 : Value) : Right (((w.setCell ⟨B, 0, none⟩ u0).setCell ⟨B, 1, none⟩ u1).setCell ⟨B, 2, none⟩ u2) b ao n nc x := by
  obtain ⟨f, h1, h2, h3, h4, h5⟩ := h.ex
  exact ⟨f, h1, h2, h3.box3 z u0 u1 u2, h4, h5⟩

/-- A number as a call hands it back: top and bottom without noughts on top, a sign below 0 alone. -/
structure Rt (w : World) (b : Bool) (ao : Option Addr) (n nc : Nat) (bo : Option Addr) (m mc : Nat) (P : Int) (Q : Nat) : Prop where
  top : Right w b ao n nc P
  bot : Right w false bo m mc Q

theorem Rt.below {w w' : World} {b : Bool} {ao bo : Option Addr} {n nc m mc Q : Nat} {P : Int} (h : Rt w b ao n nc bo m mc P Q) (hb : Below w.heap.size w w') : Rt w' b ao n nc bo m mc P Q := ⟨h.top.below hb, h.bot.below hb⟩

theorem Rt.box {w : World} {b : Bool} {ao bo : Option Addr} {n nc m mc Q B : Nat} {P : Int} {c : Bool} {p : Option Addr} {k l : Nat} (h : Rt w b ao n nc bo m mc P Q) (z : Box w B (.bool c) (.slice p k l)) (u0 u1 : Value) : Rt ((w.setCell ⟨B, 0, none⟩ u0).setCell ⟨B, 1, none⟩ u1) b ao n nc bo m mc P Q := ⟨h.top.box z u0 u1, h.bot.box z u0 u1⟩

theorem Rt.box3 {w : World} {b : Bool} {ao bo : Option Addr} {n nc m mc Q B : Nat} {P : Int} {c : Bool} {p q : Option Addr} {k l k' l' : Nat} (h : Rt w b ao n nc bo m mc P Q) (z : Box3 w B (.bool c) (.slice p k l) (.slice q k' l')) (u0 u1 u2 : Value) : Rt (((w.setCell ⟨B, 0, none⟩ u0).setCell ⟨B, 1, none⟩ u1).setCell ⟨B, 2, none⟩ u2) b ao n nc bo m mc P Q := ⟨h.top.box3 z u0 u1 u2, h.bot.box3 z u0 u1 u2⟩

theorem Right.whole32 {w : World} {b : Bool} {ao : Option Addr} {n nc : Nat} {x : Int} (h : Right w b ao n nc x) (hx : x.natAbs < pw 32) : Whole w b ao n nc x := h.whole hx (by omega)

theorem Low.abs_lt {P : Int} {Q : Nat} (h : Low P Q) : P.natAbs < pw 32 := h.2.2.1

theorem Low.bot_lt {P : Int} {Q : Nat} (h : Low P Q) : (Q : Int).natAbs < pw 32 := by rw [Int.natAbs_natCast]; exact h.2.2.2

theorem Rt.upper {w : World} {b : Bool} {ao bo : Option Addr} {n nc m mc Q : Nat} {P : Int} (h : Rt w b ao n nc bo m mc P Q) (l : Low P Q) : Whole w b ao n nc P := h.top.whole32 l.abs_lt

theorem Rt.lower {w : World} {b : Bool} {ao bo : Option Addr} {n nc m mc Q : Nat} {P : Int} (h : Rt w b ao n nc bo m mc P Q) (l : Low P Q) : Whole w false bo m mc Q := h.bot.whole32 l.bot_lt

theorem rt_zero (w : World) : Rt w false none 0 0 none 0 0 0 0 := ⟨⟨fun _ => 0, Nat.le_refl _, by omega, .inl rfl, canon_zero _, rfl⟩, ⟨fun _ => 0, Nat.le_refl _, by omega, .inl rfl, canon_zero _, rfl⟩⟩

/-- A number and an error come back. -/
def ResPost (T : Int) (B : Nat) (E : Int) (w : World) (e : Ending) (w' : World) : Prop :=
  ∃ b ao n nc bo m mc, e = .returned (.tuple #[.agg #[.bool b, .slice ao n nc, .slice bo m mc], .int .i64 E]) ∧ Rt w' b ao n nc bo m mc T B ∧ Below w.heap.size w w'

/-- A number comes back. -/
def RatPost (T : Int) (B : Nat) (w : World) (e : Ending) (w' : World) : Prop :=
  ∃ b ao n nc bo m mc, e = .returned (.agg #[.bool b, .slice ao n nc, .slice bo m mc]) ∧ Rt w' b ao n nc bo m mc T B ∧ Below w.heap.size w w'

abbrev MakePost (p q : Int) := ResPost (mkT p q) (mkB p q) (mkE p q)

theorem ResPost.stored {w w2 : World} {b : Bool} {ao bo : Option Addr} {n nc m mc B Q : Nat} {T E : Int} {c : Bool} {p q : Option Addr} {k l k' l' : Nat} (h : Rt w2 b ao n nc bo m mc T Q) (z : Box3 w2 B (.bool c) (.slice p k l) (.slice q k' l')) (hb : Below w.heap.size w w2) (hB : w.heap.size ≤ B) :
    ResPost T Q E w (.returned (.tuple #[.agg #[.bool b, .slice ao n nc, .slice bo m mc], .int .i64 E])) (((w2.setCell ⟨B, 0, none⟩ (.bool b)).setCell ⟨B, 1, none⟩ (.slice ao n nc)).setCell ⟨B, 2, none⟩ (.slice bo m mc)) :=
  ⟨b, ao, n, nc, bo, m, mc, rfl, h.box3 z _ _ _, below_set3 hb hB _ _ _⟩

theorem RatPost.stored {w w2 : World} {b : Bool} {ao bo : Option Addr} {n nc m mc B Q : Nat} {T : Int} {c : Bool} {p q : Option Addr} {k l k' l' : Nat} (h : Rt w2 b ao n nc bo m mc T Q) (z : Box3 w2 B (.bool c) (.slice p k l) (.slice q k' l')) (hb : Below w.heap.size w w2) (hB : w.heap.size ≤ B) :
    RatPost T Q w (.returned (.agg #[.bool b, .slice ao n nc, .slice bo m mc])) (((w2.setCell ⟨B, 0, none⟩ (.bool b)).setCell ⟨B, 1, none⟩ (.slice ao n nc)).setCell ⟨B, 2, none⟩ (.slice bo m mc)) :=
  ⟨b, ao, n, nc, bo, m, mc, rfl, h.box3 z _ _ _, below_set3 hb hB _ _ _⟩

end Go.Proofs.YtaepelipkkmeaaaGreat
namespace Go.Proofs.YtaepelipkkmeaaaGreat

open Go.RowKit Num

attribute [local go_sem ↓] Go.wp_at_zero Go.wp_at_succ

theorem canon_right {w : World} {b : Bool} {ao : Option Addr} {n nc v : Nat} {f : Nat → Nat} (hn : n ≤ nc) (hc : nc ≤ 9223372036854775807) (hs : Sl w ao n f) (cf : Canon v n f) (h : 0 < n ∨ b = false) : Right w b ao n nc (sgn b v) := by
  refine ⟨f, hn, hc, hs, by rw [sgn_abs]; exact cf, ?_⟩
  rw [sgn_neg]
  rcases h with h | h
  · have := cf.ne_zero
    have : 0 < v := by omega
    simp [this]
  · simp [h]

set_option maxHeartbeats 1000000 in
theorem rNorm_any (b : Bool) (ao : Option Addr) (n nc : Nat) (x : Int) (w : World) (A : Whole w b ao n nc x) :
    Calls Tryz.prog 95 #[.agg #[.bool b, .slice ao n nc]] w (IntPost x w) := by
  obtain ⟨f, A, hx⟩ := A.ex
  have A' := Lib.hid A; have hx' := Lib.hid hx
  clear A hx
  go_enter Tryz.func95, Tryz.ntmps95
  go_wp2_with fail
  refine gen_calls (fun w' => Below w.heap.size w w' ∧ Box w' w.heap.size (.bool b) (.slice ao n nc) ∧ Box w' (w.heap.size + 1) (.bool false) (.slice none 0 0))
    ⟨(((Below.refl _ w).alloc (Nat.le_refl _) _).alloc (by first | (simp; done) | (simp; omega)) _), ((Box.new _ _ _ rfl).alloc _), (Box.new _ _ _ (by first | (simp; done) | (simp; omega)))⟩ ?_
  rintro w0 ⟨hb0, x0, x1⟩
  refine (refNorm_any ao n nc f _ (A'.out.below hb0)).mono ?_
  rintro e w1 ⟨co, cn, cc, c, rfl, h1, h2, h3, h4, hb⟩
  have y0 := x0.later hb; have y1 := x1.later hb
  have hb1 := Lib.hid (below_then hb0 (Nat.le_refl _) hb)
  have h3' := Lib.hid h3; have h4' := Lib.hid h4; have y0' := Lib.hid y0; have y1' := Lib.hid y1
  have p0 := y0.c0; have q1 := y1.c0; have q2 := y1.c1; have q3 := y1.fr 0; have q4 := y1.fr 1
  clear h3 h4 x0 x1 hb hb0 y0 y1
  by_cases h0 : cn = 0
  · subst h0
    have z := y1'.out.set (.bool false) (.slice none 0 0)
    have e0 := z.c0; have e1 := z.c1
    have hz : x = 0 := by
      rw [← hx'.out, h4'.out.ne_zero.1 rfl]; cases b <;> rfl
    have hz' := Lib.hid hz
    clear z hz
    go_wp2_with fail
    refine bodyPost_ret (v := .agg #[.bool false, .slice none 0 0]) (by simp [results, Tryz.results95, go_sem, e0, e1]) rfl ?_
    rw [hz'.out]
    exact IntPost.stored ⟨fun _ => 0, Nat.le_refl _, by omega, .inl rfl, canon_zero _, rfl⟩ y1'.out hb1.out (by omega)
  · have z := y1'.out.set (.bool b) (.slice co cn cc)
    have e0 := z.c0; have e1 := z.c1
    clear z
    go_wp2_with fail
    refine bodyPost_ret (v := .agg #[.bool b, .slice co cn cc]) (by simp [results, Tryz.results95, go_sem, e0, e1]) rfl ?_
    rw [← hx'.out]
    exact IntPost.stored (canon_right h1 h2 h3'.out h4'.out (.inl (Nat.pos_of_ne_zero h0))) y1'.out hb1.out (by omega)

end Go.Proofs.YtaepelipkkmeaaaGreat
namespace Go.Proofs.YtaepelipkkmeaaaGreat.Num

theorem pw_two (n : Nat) : pw n = 2 ^ (32 * n) := by
  induction n with
  | zero => rfl
  | succ n ih =>
    rw [pw_succ, ih, show 32 * (n + 1) = 32 * n + 32 by omega, Nat.pow_add, Nat.mul_comm]

end Go.Proofs.YtaepelipkkmeaaaGreat.Num
namespace Go.Proofs.YtaepelipkkmeaaaGreat

open Go.RowKit Num

set_option maxRecDepth 20000

set_option maxHeartbeats 400000 in
theorem longer_any (ao bo : Option Addr) (n nc m mc : Nat) (w : World) :
    Calls Tryz.prog 167 #[.slice ao n nc, .slice bo m mc] w fun e w' => e = .returned (.int .i64 (max n m : Nat)) ∧ w = w' := by
  by_cases h : m < n
  · rw [Nat.max_eq_left (by omega)]
    go_enter Tryz.func167, Tryz.ntmps167
    go_wp2_with fail
    go_ret
    exact ⟨rfl, rfl⟩
  · rw [Nat.max_eq_right (by omega)]
    go_enter Tryz.func167, Tryz.ntmps167
    go_wp2_with fail
    go_ret
    exact ⟨rfl, rfl⟩

set_option maxHeartbeats 400000 in
theorem refLimb_any (ao : Option Addr) (n cap : Nat) (i : Int) (f : Nat → Nat) (w : World) (h0 : 0 ≤ i) (hs : Sl w ao n f) (lf : Lim f n) :
    Calls Tryz.prog 168 #[.slice ao n cap, .int .i64 i] w fun e w' => e = .returned (.int .u64 (at0 f n i.toNat)) ∧ w = w' := by
  obtain ⟨i, rfl⟩ := Int.eq_ofNat_of_zero_le h0
  rw [Int.toNat_natCast]
  by_cases h : i < n
  · rw [at0_in h]
    rcases hs with rfl | ⟨b, off, rfl, hc⟩
    · omega
    · have hcell := hc i h
      have hl := lf i h
      clear hc
      go_enter Tryz.func168, Tryz.ntmps168
      go_wp2
      go_ret
      exact ⟨rfl, rfl⟩
  · rw [at0_out (by omega)]
    clear hs
    go_enter Tryz.func168, Tryz.ntmps168
    go_wp2
    go_ret
    exact ⟨rfl, rfl⟩

set_option maxHeartbeats 1000000 in
theorem refCmp_any (ao bo : Option Addr) (n nc m mc : Nat) (f g : Nat → Nat) (w : World) (A : Arg w ao n nc f) (B : Arg w bo m mc g) :
    Calls Tryz.prog 166 #[.slice ao n nc, .slice bo m mc] w fun e w' => e = .returned (.int .i64 (cmpI (val f n) (val g m))) ∧ w = w' := by
  obtain ⟨hn, hnc, hnb, hf, lf⟩ := A
  obtain ⟨hm, hmc, hmb, hg, lg⟩ := B
  obtain ⟨N, hN0⟩ : ∃ N, N = max n m := ⟨_, rfl⟩
  have hnN : n ≤ N := by omega
  have hmN : m ≤ N := by omega
  have hNb : N ≤ 1000000 := by omega
  have hN := Lib.hid hN0
  have hlf := Lib.hid lf; have hlg := Lib.hid lg; have hsf := Lib.hid hf; have hsg := Lib.hid hg
  clear hN0 hf hg lf lg
  go_enter Tryz.func166, Tryz.ntmps166
  go_wp2_with fail
  refine (longer_any ao bo n nc m mc w).mono ?_
  rw [← hN.out]
  rintro e w' ⟨rfl, rfl⟩
  go_wp2_with fail
  go_loop [5] (fun i => ∃ j : Nat, j ≤ N ∧ i = .int .i64 ((j : Int) - 1) ∧ (∀ t, j ≤ t → t < N → at0 f n t = at0 g m t)) (fun i => (intOf i + 1).toNat)
  case atStart => exact ⟨N, Nat.le_refl _, rfl, fun t h1 h2 => by omega⟩
  case round =>
    obtain ⟨j, hj, rfl, hsame0⟩ := hrel
    have hsame := Lib.hid hsame0
    clear hsame0
    by_cases h0 : j = 0
    · subst h0
      go_wp2_with fail
      go_ret
      refine ⟨ret_num ?_, rfl⟩
      rw [cmpI_eq]
      rw [← val_at0_ge hnN, ← val_at0_ge hmN, val_congr fun t ht => hsame.out t (Nat.zero_le _) ht]
    · have p1 : 0 ≤ (j : Int) - 1 := by omega
      have ej : ((j : Int) - 1).toNat = j - 1 := by omega
      have ej' := Lib.hid ej
      clear ej
      go_wp2_with fail
      refine (refLimb_any ao n nc _ f w (by omega) hsf.out hlf.out).mono ?_
      rw [ej'.out]
      rintro e w' ⟨rfl, rfl⟩
      go_wp2_with fail
      refine (refLimb_any bo m mc _ g w (by omega) hsg.out hlg.out).mono ?_
      rw [ej'.out]
      rintro e w' ⟨rfl, rfl⟩
      by_cases h1 : at0 f n (j - 1) < at0 g m (j - 1)
      · go_wp2_with fail
        go_ret
        refine ⟨ret_num ?_, rfl⟩
        rw [cmpI_lt]
        rw [← val_at0_ge hnN, ← val_at0_ge hmN]
        exact Int.ofNat_lt.2 (val_lt_of_top (at0_lim hlf.out N) (j - 1) (by omega) (fun t a b => hsame.out t (by omega) b) h1)
      · go_wp2_with fail
        refine (refLimb_any ao n nc _ f w (by omega) hsf.out hlf.out).mono ?_
        rw [ej'.out]
        rintro e w' ⟨rfl, rfl⟩
        go_wp2_with fail
        refine (refLimb_any bo m mc _ g w (by omega) hsg.out hlg.out).mono ?_
        rw [ej'.out]
        rintro e w' ⟨rfl, rfl⟩
        by_cases h2 : at0 g m (j - 1) < at0 f n (j - 1)
        · go_wp2_with fail
          go_ret
          refine ⟨ret_num ?_, rfl⟩
          rw [cmpI_gt]
          rw [← val_at0_ge hnN, ← val_at0_ge hmN]
          exact Int.ofNat_lt.2 (val_lt_of_top (at0_lim hlg.out N) (j - 1) (by omega) (fun t a b => (hsame.out t (by omega) b).symm) h2)
        · go_wp2_with fail
          go_round
          case rel =>
            refine ⟨j - 1, by omega, int_eq (by omega), fun t a b => ?_⟩
            by_cases ht : t = j - 1
            · rw [ht]; omega
            · exact hsame.out t (by omega) b
          case measure => simp [intOf]; omega

theorem cells_snoc (F : Nat → Nat) (j x : Nat) (v : Int) (h : v = (x : Int)) : limbCells F j ++ [Value.int .u32 v] = limbCells (put F j x) (j + 1) := by
  subst h
  unfold limbCells
  rw [List.range_succ, List.map_append]
  congr 1
  · exact List.map_congr_left fun t ht => by rw [put_ne (by have := List.mem_range.1 ht; omega)]
  · simp [put_at]

theorem put_snoc_lim {F : Nat → Nat} {j x : Nat} (h : Lim F j) (hx : x < 4294967296) : Lim (put F j x) (j + 1) := by
  intro t ht
  by_cases c : t = j
  · rw [c, put_at]; exact hx
  · rw [put_ne c]; exact h t (by omega)

theorem one_at (w : World) (v : Value) (t : TypeId) : ∀ j u, [v][j]? = some u → (w.alloc (.cells #[v] t)).cell? ((⟨w.heap.size, 0, none⟩ : Addr).add j) = some u := by
  intro j u h
  match j, h with
  | 0, h =>
    simp at h
    subst h
    simp [Addr.add]

/-- One limb more behind those that the call's own slice holds. -/
theorem wpList_append_limb {P : Program} {w0 : World} {ops : Array Oper} {rest : List Oper} {o : Oper} {a : Act} {Q : Exit → Act → World → Prop} (hgd : o.guard = none) (s x : Operand) (t : TypeId)
    (ho : o.op = .call { callee := .builtin .append, args := #[s, x], argTypes := #[t, t] }) (base : Nat) (e : TypeId) (i : TypeInfo) (ht : P.underlying t = some (.slice e)) (hi : P.info? e = some i)
    (hz : i.zero = some (Value.int .u32 0)) (h1 : i.size = 1) (h4 : i.bytes = 4) (v : Value) (n : Nat) (F : Nat → Nat) (tt : TypeId) (z : Int) (y : Nat) (hs : a.eval s = v) (hx : a.eval x = .slice (some ⟨w0.heap.size, 0, none⟩) 1 1)
    (hown : w0.ownsRow base e 1 v n (limbCells F n)) (hzy : z = (y : Int)) (hn : n ≤ 1000000) (hb : base ≤ w0.heap.size)
    (h : ∀ v' w', w'.ownsRow base e 1 v' (n + 1) (limbCells (put F n y) (n + 1)) → Below base w0 w' → wpList P ops Q rest (a.put o.dst v') w') :
    wpList P ops Q (o :: rest) a (w0.alloc (.cells #[.int .u32 z] tt)) := by
  refine wpList_append_own _ hgd s x t ho base e i (.int .u32 0) 1 4 ht hi hz h1 h4 rfl (by decide) v n (limbCells F n) hs (hown.alloc _) ⟨w0.heap.size, 0, none⟩ 1 1 [.int .u32 z] hx rfl (one_at w0 _ tt) ?_ (by unfold maxLen; omega) (by omega) (by simp; omega) ?_
  · intro u hu
    simp at hu
    subst hu
    rfl
  · intro v' w' hown' hgr _
    rw [cells_snoc F n y z hzy] at hown'
    refine h v' w' hown' ?_
    exact ((Below.refl base w0).alloc hb _).grown hgr (by simp; omega) (fun k hk => (hown.lt k hk).1)

set_option maxHeartbeats 1000000 in
theorem refAdd_any (ao bo : Option Addr) (n nc m mc : Nat) (f g : Nat → Nat) (w : World) (A : Arg w ao n nc f) (B : Arg w bo m mc g) (hsum : max n m < 1000000) :
    Calls Tryz.prog 141 #[.slice ao n nc, .slice bo m mc] w (NumPost (val f n + val g m) w) := by
  obtain ⟨i32, hi, hz0, hz1, hz2⟩ := info_parts info32
  obtain ⟨hn, hnc, hnb, hf, lf⟩ := A
  obtain ⟨hm, hmc, hmb, hg, lg⟩ := B
  obtain ⟨N, hN0⟩ : ∃ N, N = max n m := ⟨_, rfl⟩
  have hnN : n ≤ N := by omega
  have hmN : m ≤ N := by omega
  have hNb : N < 1000000 := by omega
  have hN := Lib.hid hN0
  have hlf := Lib.hid lf; have hlg := Lib.hid lg; have hsf := Lib.hid hf; have hsg := Lib.hid hg
  clear hN0 hf hg lf lg hsum
  go_enter Tryz.func141, Tryz.ntmps141
  go_wp2_with fail
  go_loopw [5, 6, 7] (fun v c i wr => ∃ (j : Nat) (F : Nat → Nat) (cn : Nat), j ≤ N + 1 ∧ i = .int .i64 j ∧ c = .int .u64 cn ∧ cn ≤ 1 ∧ wr.ownsRow w.heap.size 104 1 v j (limbCells F j) ∧ Lim F j ∧
      val F j + cn * pw j = val (at0 f n) j + val (at0 g m) j ∧ Below w.heap.size w wr) (fun _ _ i _ => N + 1 - (intOf i).toNat)
  case atStart => exact ⟨0, fun _ => 0, 0, Nat.zero_le _, rfl, rfl, by omega, World.ownsRow_nil _ _ _ _, fun j h => by omega, rfl, Below.refl _ _⟩
  case round =>
    obtain ⟨j, F, cn, hj, rfl, rfl, hc, hown0, hlim0, hval0, hbel0⟩ := hrel
    have hown := Lib.hid hown0; have hlim := Lib.hid hlim0; have hval := Lib.hid hval0; have hbel := Lib.hid hbel0
    clear hown0 hlim0 hval0 hbel0
    have bf := at0_lt hlf.out j
    have bg := at0_lt hlg.out j
    go_wp2_with fail
    refine (longer_any ao bo n nc m mc _).mono ?_
    rw [← hN.out]
    rintro e w' ⟨rfl, rfl⟩
    by_cases hlt : j < N + 1
    · go_wp2_with fail
      refine (refLimb_any ao n nc j f wr (by omega) (hsf.out.below hbel.out) hlf.out).mono ?_
      rw [Int.toNat_natCast]
      rintro e w' ⟨rfl, rfl⟩
      go_wp2_with fail
      refine (refLimb_any bo m mc j g wr (by omega) (hsg.out.below hbel.out) hlg.out).mono ?_
      rw [Int.toNat_natCast]
      rintro e w' ⟨rfl, rfl⟩
      go_wp2_with (at_builtin; refine wpList_append_limb rfl (.tmp 25) (.tmp 29) 22 rfl w.heap.size 104 i32 Tryz.underlying22 hi hz0 hz1 hz2 _ j F _ _ ((at0 f n j + at0 g m j + cn) % 4294967296) rfl rfl hown.out (by omega) (by omega) hbel.out.size ?_)
      intro v' w1 hown1 hb1
      have hown' := Lib.hid hown1; have hbel' := Lib.hid (hbel.out.trans hb1)
      clear hown1 hb1
      go_wp2_with fail
      go_roundw
      case rel =>
        refine ⟨j + 1, put F j ((at0 f n j + at0 g m j + cn) % 4294967296), (at0 f n j + at0 g m j + cn) / 4294967296, by omega, by go_num, int_eq (by omega), by omega, hown'.out, ?_, ?_, hbel'.out⟩
        · exact put_snoc_lim hlim.out (Nat.mod_lt _ (by decide))
        · rw [val_put_succ, val_succ, val_succ, pw_succ]
          exact sum_step hval.out (by omega)
      case measure => simp [intOf]; omega
    · obtain rfl : j = N + 1 := by omega
      obtain ⟨ao', cap', rfl, g1, g2, g3⟩ := owns_slice hown.out
      have A' := Lib.hid (show Arg wr ao' (N + 1) cap' F from ⟨g1, g2, by omega, g3, hlim.out⟩)
      have hown' := Lib.hid hown.out
      clear g3
      go_wp2_with fail
      refine (refNorm_any ao' (N + 1) cap' F wr A'.out).mono ?_
      rintro e w2 ⟨bo', p, pc, h, rfl, hp, hpc, hsp, hcp, hb⟩
      have hsp' := Lib.hid hsp; have hcp' := Lib.hid hcp; have hbel' := Lib.hid (hbel.out.trans (hb.mono hbel.out.size))
      clear hsp hcp hb
      go_wp2_with fail
      go_ret
      refine ⟨bo', p, pc, h, rfl, hp, hpc, hsp'.out, ?_, hbel'.out⟩
      have e1 := hval.out
      rw [val_at0_ge (by omega), val_at0_ge (by omega)] at e1
      have a1 : val f n < pw N := Nat.lt_of_lt_of_le (val_lt hlf.out) (pw_le hnN)
      have a2 : val g m < pw N := Nat.lt_of_lt_of_le (val_lt hlg.out) (pw_le hmN)
      rw [← (sum_end e1 a1 a2).1]
      exact hcp'.out

end Go.Proofs.YtaepelipkkmeaaaGreat
namespace Go.Proofs.YtaepelipkkmeaaaGreat

open Go.RowKit Num

def SubPost (x y : Nat) (w : World) (e : Ending) (w' : World) : Prop :=
  Below w.heap.size w w' ∧ ((x < y ∧ e = .returned (.tuple #[.slice none 0 0, .bool false])) ∨
    (y ≤ x ∧ ∃ ao n cap f, e = .returned (.tuple #[.slice ao n cap, .bool true]) ∧ n ≤ cap ∧ cap ≤ 9223372036854775807 ∧ Sl w' ao n f ∧ Canon (x - y) n f))

set_option maxHeartbeats 1000000 in
theorem sub_any (ao bo : Option Addr) (n nc m mc : Nat) (f g : Nat → Nat) (w : World) (A : Arg w ao n nc f) (B : Arg w bo m mc g) :
    Calls Tryz.prog 156 #[.slice ao n nc, .slice bo m mc] w (SubPost (val f n) (val g m) w) := by
  obtain ⟨hn, hnc, hnb, hf, lf⟩ := A
  obtain ⟨hm, hmc, hmb, hg, lg⟩ := B
  obtain ⟨i32, hi, hz0, hz1, hz2⟩ := info_parts info32
  go_enter Tryz.func156, Tryz.ntmps156
  go_wp2_with fail
  refine (trim_any ao n nc f w hn (by omega) hf).mono ?_
  rintro e w' ⟨k, hk, rfl, htf0, hvf0, rfl⟩
  have htf := Lib.hid htf0; have hvf := Lib.hid hvf0; clear htf0 hvf0
  go_wp2_with fail
  refine (trim_any bo m mc g w hm (by omega) hg).mono ?_
  rintro e w' ⟨l, hl, rfl, htg0, hvg0, rfl⟩
  have htg := Lib.hid htg0; have hvg := Lib.hid hvg0; clear htg0 hvg0
  go_wp2_with (at_make; refine wpList_make_full _ rfl (.tmp 14) (.tmp 14) 22 rfl w.heap.size 104 i32 (.int .u32 0) 1 Tryz.underlying22 hi hz0 hz1 .i64 .i64 _ _ k rfl rfl rfl rfl (by rw [hz2]; omega) (by unfold maxLen; omega) (Nat.le_refl _) ?_)
  intro w1 hown hgrow
  have hblk0 := Lib.hid (Blk.of_made hown)
  have hgr0 := Lib.hid (grown_any hgrow (some w.heap.size))
  clear hown hgrow
  have hsf := Lib.hid (hf.mono hk); have hsg := Lib.hid (hg.mono hl)
  have hlf := Lib.hid (lf.mono hk); have hlg := Lib.hid (lg.mono hl)
  clear hf hg lf lg
  go_wp2_with fail
  go_loopw [7, 18] (fun cv i wr => ∃ (j : Nat) (F : Nat → Nat) (c : Nat), j ≤ k ∧ i = .int .i64 j ∧ cv = .int .u32 c ∧ c ≤ 1 ∧ Blk wr w.heap.size k F ∧ Lim F k ∧ val F j + val (at0 g l) j = val f j + c * pw j ∧ w.grownBy wr (some w.heap.size))
    (fun _ i _ => k - (intOf i).toNat)
  case atStart => exact ⟨0, fun _ => 0, 0, Nat.zero_le _, rfl, rfl, by omega, hblk0.out, fun j _ => (by decide : 0 < 4294967296), rfl, hgr0.out⟩
  case round =>
    obtain ⟨j, F, c, hj, rfl, rfl, hc, hblk1, hlim1, hval1, hgr1⟩ := hrel
    have hlim := Lib.hid hlim1; have hval := Lib.hid hval1; have hgr := Lib.hid hgr1; have hblk := Lib.hid hblk1; clear hlim1 hval1 hgr1 hblk1
    have hsfr := hsf.out.grown hsf.out.off hgr.out
    have hsgr := Lib.hid (hsg.out.grown hsg.out.off hgr.out)
    have bg := at0_lt hlg.out j
    by_cases hlt : j < k
    · have hcell := hblk.out.cell j hlt
      have hfree := hblk.out.free j
      have bf := hlf.out j hlt
      rcases hsfr with h | ⟨b, off, rfl, hcf⟩
      · omega
      have hcf' := hcf j hlt
      clear hcf
      go_wp2_with fail
      go_region_with (first
        | (go_at_call 178; refine (limb_any bo l mc j g _ (by omega) (by exact hsgr.out)).mono ?_; rintro e w' ⟨rfl, rfl⟩; rw [Int.toNat_natCast])
        | (go_at_call 179; refine (sub32_nat (f j) (at0 g l j) c _ bf bg hc).mono ?_; rintro e w' ⟨rfl, rfl⟩))
      all_goals
        go_wp2_with fail
        go_roundw
        case rel =>
          obtain ⟨q1, q2, q3⟩ := sub_eq bf bg hc
          refine ⟨j + 1, put F j (subD (f j) (at0 g l j) c), subC (f j) (at0 g l j) c, by omega, by go_num, rfl, q3, ?_, put_lim hlim.out q2, ?_, ?_⟩
          · first | exact (hblk.out.set j hlt _ _ rfl).drew | exact hblk.out.set j hlt _ _ rfl | exact (hblk.out.drew).set j hlt _ _ rfl
          · rw [val_put_succ, val_succ, val_succ, pw_succ]
            exact dif_step hval.out q1
          · first | exact grown_drew (grown_setCell hgr.out _ _) | exact grown_setCell hgr.out _ _ | exact grown_setCell (grown_drew hgr.out) _ _
        case measure => simp [intOf]; omega
    · obtain rfl : j = k := by omega
      clear hsfr
      have hsl := Sl.of_blk0 hblk.out j (Nat.le_refl _)
      have lF := val_lt hlim.out
      have e1 := hval.out
      have hbel := Lib.hid (grown_below hgr.out (Nat.le_refl _) (Nat.le_refl _))
      by_cases h1 : j < l
      · have hlt0 : val f n < val g m := by
          rw [← hvf.out, ← hvg.out]; exact val_lt_of_len hlf.out htg.out h1
        have hlt1 := Lib.hid hlt0
        clear e1 lF hlt0
        go_wp2_with fail
        go_ret2
        exact ⟨hbel.out, .inl ⟨hlt1.out, rfl⟩⟩
      · rw [val_at0_ge (by omega), hvf.out, hvg.out] at e1
        by_cases h2 : c = 0
        · have e2 := (dif_end e1 lF hc).1 h2
          have e3 := Lib.hid e2
          clear e1 lF e2
          subst h2
          go_wp2_with fail
          refine (trim_any (some ⟨w.heap.size, 0, none⟩) j j F wr (Nat.le_refl _) (by omega) hsl).mono ?_
          rintro e w' ⟨q, hq, rfl, htq0, hvq0, rfl⟩
          have htq := Lib.hid htq0; have hvq := Lib.hid hvq0; clear htq0 hvq0
          go_wp2_with fail
          go_ret2
          exact ⟨hbel.out, .inr ⟨e3.out.1, _, q, j, F, rfl, hq, by omega, hsl.mono hq, hlim.out.mono hq, htq.out, hvq.out.trans e3.out.2⟩⟩
        · have e2 := Lib.hid ((dif_end e1 lF hc).2 h2)
          have hb : ((c : Int) != 0) = true := by rw [bne_iff_ne]; omega
          clear e1 lF
          go_wp2_with fail
          go_ret2
          exact ⟨hbel.out, .inl ⟨e2.out, rfl⟩⟩

end Go.Proofs.YtaepelipkkmeaaaGreat
namespace Go.Proofs.YtaepelipkkmeaaaGreat

open Go.RowKit Num

attribute [local go_sem ↓] Go.wp_at_zero Go.wp_at_succ

theorem Whole.alloc {w : World} {b : Bool} {ao : Option Addr} {n nc : Nat} {x : Int} (h : Whole w b ao n nc x) (o : Obj) : Whole (w.alloc o) b ao n nc x := h.below ((Below.refl _ w).alloc (Nat.le_refl _) o)

theorem Right.alloc {w : World} {b : Bool} {ao : Option Addr} {n nc : Nat} {x : Int} (h : Right w b ao n nc x) (o : Obj) : Right (w.alloc o) b ao n nc x := h.below ((Below.refl _ w).alloc (Nat.le_refl _) o)

theorem small2 {v k : Nat} (hk : k ≤ 1000000) (h : v < pw k) : v < pw 1000000 := Nat.lt_of_lt_of_le h (pw_le hk)

theorem made1' {W w' : World} {u0 u1 : Value} {t : TypeId} (hb : Below (W.alloc (.cells #[u0, u1] t)).drew.heap.size (W.alloc (.cells #[u0, u1] t)).drew w') : Box w' W.heap.size u0 u1 := (Box.new u0 u1 t rfl).drew.later hb

theorem made2' {W w' : World} {u0 u1 v0 v1 : Value} {t s : TypeId} (hb : Below ((W.alloc (.cells #[u0, u1] t)).alloc (.cells #[v0, v1] s)).drew.heap.size ((W.alloc (.cells #[u0, u1] t)).alloc (.cells #[v0, v1] s)).drew w') :
    Box w' W.heap.size u0 u1 ∧ Box w' (W.heap.size + 1) v0 v1 := ⟨((Box.new u0 u1 t rfl).alloc _).drew.later hb, (Box.new v0 v1 s (by simp)).drew.later hb⟩

theorem made1 {W w' : World} {u0 u1 : Value} {t : TypeId} (hb : Below (W.alloc (.cells #[u0, u1] t)).heap.size (W.alloc (.cells #[u0, u1] t)) w') : Box w' W.heap.size u0 u1 := (Box.new u0 u1 t rfl).later hb

theorem made2 {W w' : World} {u0 u1 v0 v1 : Value} {t s : TypeId} (hb : Below ((W.alloc (.cells #[u0, u1] t)).alloc (.cells #[v0, v1] s)).heap.size ((W.alloc (.cells #[u0, u1] t)).alloc (.cells #[v0, v1] s)) w') :
    Box w' W.heap.size u0 u1 ∧ Box w' (W.heap.size + 1) v0 v1 := ⟨((Box.new u0 u1 t rfl).alloc _).later hb, (Box.new v0 v1 s (by simp)).later hb⟩

end Go.Proofs.YtaepelipkkmeaaaGreat
namespace Go.Proofs.YtaepelipkkmeaaaGreat

open Go.RowKit Num

set_option maxHeartbeats 400000 in
theorem add_any (ao bo : Option Addr) (n nc m mc : Nat) (f g : Nat → Nat) (w : World) (A : Arg w ao n nc f) (B : Arg w bo m mc g) :
    Calls Tryz.prog 155 #[.slice ao n nc, .slice bo m mc] w (NumPost (val f n + val g m) w) := by
  obtain ⟨hn, hnc, hnb, hf, lf⟩ := A
  obtain ⟨hm, hmc, hmb, hg, lg⟩ := B
  obtain ⟨i32, hi, hz0, hz1, hz2⟩ := info_parts info32
  go_enter Tryz.func155, Tryz.ntmps155
  go_wp2_with fail
  refine (trim_any ao n nc f w hn (by omega) hf).mono ?_
  rintro e w' ⟨k, hk, rfl, htf0, hvf0, rfl⟩
  have htf := Lib.hid htf0; have hvf := Lib.hid hvf0; clear htf0 hvf0
  go_wp2_with fail
  refine (trim_any bo m mc g w hm (by omega) hg).mono ?_
  rintro e w' ⟨l, hl, rfl, htg0, hvg0, rfl⟩
  have htg := Lib.hid htg0; have hvg := Lib.hid hvg0; clear htg0 hvg0
  obtain ⟨N, hN0⟩ : ∃ N, N = max k l + 1 := ⟨_, rfl⟩
  have hNk : k ≤ N := by omega
  have hNl : l ≤ N := by omega
  have hNb : N ≤ 1000001 := by omega
  have hN := Lib.hid hN0; clear hN0
  go_wp2_with (at_make; refine wpList_make_full _ rfl (.tmp 17) (.tmp 17) 22 rfl w.heap.size 104 i32 (.int .u32 0) 1 Tryz.underlying22 hi hz0 hz1 .i64 .i64 _ _ N rfl rfl (by rw [hN.out]; omega) (by rw [hN.out]; omega) (by rw [hz2]; omega) (by unfold maxLen; omega) (Nat.le_refl _) ?_)
  intro w1 hown hgrow
  have hblk0 := Lib.hid (Blk.of_made hown)
  have hgr0 := Lib.hid (grown_any hgrow (some w.heap.size))
  clear hown hgrow
  have hsf := Lib.hid (hf.mono hk); have hsg := Lib.hid (hg.mono hl)
  have hlf := Lib.hid (lf.mono hk); have hlg := Lib.hid (lg.mono hl)
  clear hf hg lf lg
  go_wp2_with fail
  go_loopw [6, 21] (fun cv i wr => ∃ (j : Nat) (F : Nat → Nat) (c : Nat), j ≤ N ∧ i = .int .i64 j ∧ cv = .int .u32 c ∧ c ≤ 1 ∧ Blk wr w.heap.size N F ∧ Lim F N ∧ val F j + c * pw j = val (at0 f k) j + val (at0 g l) j ∧ w.grownBy wr (some w.heap.size))
    (fun _ i _ => N - (intOf i).toNat)
  case atStart => exact ⟨0, fun _ => 0, 0, Nat.zero_le _, rfl, rfl, by omega, hblk0.out, fun j _ => (by decide : 0 < 4294967296), rfl, hgr0.out⟩
  case round =>
    obtain ⟨j, F, c, hj, rfl, rfl, hc, hblk1, hlim1, hval1, hgr1⟩ := hrel
    have hlim := Lib.hid hlim1; have hval := Lib.hid hval1; have hgr := Lib.hid hgr1; have hblk := Lib.hid hblk1; clear hlim1 hval1 hgr1 hblk1
    have hsfr := hsf.out.grown hsf.out.off hgr.out
    have hsgr := hsg.out.grown hsg.out.off hgr.out
    have bf := at0_lt hlf.out j
    have bg := at0_lt hlg.out j
    by_cases hlt : j < N
    · have hcell := hblk.out.cell j hlt
      have hfree := hblk.out.free j
      go_wp2_with fail
      refine (limb_any ao k nc j f wr (by omega) hsfr).mono ?_
      rintro e w' ⟨rfl, rfl⟩
      rw [Int.toNat_natCast]
      go_wp2_with fail
      refine (limb_any bo l mc j g wr (by omega) hsgr).mono ?_
      rintro e w' ⟨rfl, rfl⟩
      rw [Int.toNat_natCast]
      go_wp2_with fail
      refine (add32_any (at0 f k j) (at0 g l j) c wr (by omega) (by omega) (by omega) (by omega) (by omega) (by omega)).mono ?_
      rintro e w' ⟨rfl, rfl⟩
      go_wp2_with fail
      go_roundw
      case rel =>
        refine ⟨j + 1, put F j ((at0 f k j + at0 g l j + c) % 4294967296), (at0 f k j + at0 g l j + c) / 4294967296, by omega, by go_num, int_eq (by omega), by omega, hblk.out.set j hlt _ _ (by omega),
          put_lim hlim.out (Nat.mod_lt _ (by decide)), ?_, grown_setCell hgr.out _ _⟩
        rw [val_put_succ, val_succ, val_succ, pw_succ]
        exact sum_step hval.out (by omega)
      case measure => simp [intOf]; omega
    · obtain rfl : j = N := by omega
      have hsl := Sl.of_blk0 hblk.out j (Nat.le_refl _)
      go_wp2_with fail
      refine (trim_any (some ⟨w.heap.size, 0, none⟩) j j F wr (Nat.le_refl _) (by omega) hsl).mono ?_
      rintro e w' ⟨q, hq, rfl, htq0, hvq0, rfl⟩
      have htq := Lib.hid htq0; have hvq := Lib.hid hvq0; clear htq0 hvq0
      go_wp2_with fail
      go_ret
      refine ⟨some ⟨w.heap.size, 0, none⟩, q, j, F, rfl, hq, by omega, hsl.mono hq, ⟨hlim.out.mono hq, htq.out, ?_⟩, grown_below hgr.out (Nat.le_refl _) (Nat.le_refl _)⟩
      have e1 := hval.out
      rw [val_at0_ge hNk, val_at0_ge hNl] at e1
      obtain ⟨M, rfl⟩ : ∃ M, j = M + 1 := ⟨max k l, hN.out⟩
      have hM : M = max k l := by have := hN.out; omega
      have a1 : val f k < pw M := Nat.lt_of_lt_of_le (val_lt hlf.out) (pw_le (by omega))
      have a2 : val g l < pw M := Nat.lt_of_lt_of_le (val_lt hlg.out) (pw_le (by omega))
      rw [hvq.out, (sum_end e1 a1 a2).1, hvf.out, hvg.out]

end Go.Proofs.YtaepelipkkmeaaaGreat
namespace Go.Proofs.YtaepelipkkmeaaaGreat

open Go.RowKit Num

attribute [local go_sem ↓] Go.wp_at_zero Go.wp_at_succ

theorem cmp_sign {x y : Int} (h : x.sign ≠ y.sign) : cmpI x.sign y.sign = cmpI x y := by
  rcases Int.lt_trichotomy x 0 with hx | rfl | hx <;> rcases Int.lt_trichotomy y 0 with hy | rfl | hy <;>
    simp_all [Int.sign_eq_one_of_pos, Int.sign_eq_neg_one_of_neg, cmpI] <;> (repeat' split) <;> omega

theorem sgn_cases (b : Bool) (u : Nat) : ((u = 0 ∧ (sgn b u).sign = 0 ∧ sgn b u = 0) ∨ (0 < u ∧ (sgn b u).sign = 1 ∧ sgn b u = u)) ∨ (0 < u ∧ (sgn b u).sign = -1 ∧ sgn b u = -(u : Int)) := by
  by_cases h : u = 0
  · subst h; left; left; cases b <;> simp [sgn]
  · have h' : (0 : Int) < (u : Int) := by omega
    cases b
    · left; right; exact ⟨by omega, Int.sign_eq_one_of_pos h', rfl⟩
    · right; exact ⟨by omega, Int.sign_eq_neg_one_of_neg (by simp only [sgn_true]; omega), rfl⟩

theorem wrap_is (z : Int) : wrap64 z = IntKind.i64.wrap z := by
  simp [wrap64, IntKind.wrap, IntKind.bits, IntKind.signed]
  omega

theorem wrap_cmp (p q : Int) : IntKind.i64.wrap (1 * cmpI p q) = cmpI p q ∧ IntKind.i64.wrap (-1 * cmpI p q) = cmpI (-p) (-q) ∧ IntKind.i64.wrap (0 * cmpI p q) = 0 := by
  have w1 : IntKind.i64.wrap 1 = 1 := by decide
  have w2 : IntKind.i64.wrap (-1) = -1 := by decide
  have w3 : IntKind.i64.wrap 0 = 0 := by decide
  rcases Int.lt_trichotomy p q with h | h | h
  · rw [cmpI_lt h, cmpI_gt (show -q < -p by omega)]; exact ⟨w2, w1, w3⟩
  · rw [cmpI_eq h, cmpI_eq (show -p = -q by omega)]; exact ⟨w3, w3, w3⟩
  · rw [cmpI_gt h, cmpI_lt (show -p < -q by omega)]; exact ⟨w1, w2, w3⟩

theorem cmp_size {b c : Bool} {u v : Nat} (h : (sgn b u).sign = (sgn c v).sign) : IntKind.i64.wrap ((sgn b u).sign * cmpI u v) = cmpI (sgn b u) (sgn c v) := by
  obtain ⟨w1, w2, w3⟩ := wrap_cmp u v
  rcases sgn_cases b u with (⟨h1, h2, h3⟩ | ⟨h1, h2, h3⟩) | ⟨h1, h2, h3⟩ <;> rcases sgn_cases c v with (⟨k1, k2, k3⟩ | ⟨k1, k2, k3⟩) | ⟨k1, k2, k3⟩ <;> rw [h2, k2] at h <;> first | omega | skip
  · rw [h2, h3, k3, w3, cmpI_eq rfl]
  · rw [h2, h3, k3, w1]
  · rw [h2, h3, k3, w2]

set_option maxHeartbeats 1000000 in
theorem wCmp_any (b c : Bool) (ao bo : Option Addr) (n nc m mc : Nat) (x y : Int) (w : World) (A : Whole w b ao n nc x) (B : Whole w c bo m mc y) :
    Calls Tryz.prog 165 #[.agg #[.bool b, .slice ao n nc], .agg #[.bool c, .slice bo m mc]] w (Says (.int .i64 (cmpI x y)) w) := by
  have A' := Lib.hid A; have B' := Lib.hid B
  clear A B
  go_enter Tryz.func165, Tryz.ntmps165
  go_wp2_with fail
  refine gen_wp (fun w' => Below w.heap.size w w' ∧ Box w' w.heap.size (.bool b) (.slice ao n nc) ∧ Box w' (w.heap.size + 1) (.bool c) (.slice bo m mc))
    ⟨(((Below.refl _ w).alloc (Nat.le_refl _) _).alloc (by first | (simp; done) | (simp; omega)) _), ((Box.new _ _ _ rfl).alloc _), (Box.new _ _ _ (by first | (simp; done) | (simp; omega)))⟩ ?_
  rintro w0 ⟨hb0, x0, x1⟩
  have hb0 := hb0.drew; have x0 := x0.drew; have x1 := x1.drew
  go_region_held3 (fun w' => w'.cell? ⟨w.heap.size, 0, none⟩ = some (.bool b) ∧ w'.cell? ⟨w.heap.size, 1, none⟩ = some (.slice ao n nc) ∧ w'.cell? ⟨w.heap.size + 1, 0, none⟩ = some (.bool c) ∧ w'.cell? ⟨w.heap.size + 1, 1, none⟩ = some (.slice bo m mc))
    (first | with_reducible exact ⟨x0.c0, x0.c1, x1.c0, x1.c1⟩ | with_reducible exact ⟨y0.c0, y0.c1, y1.c0, y1.c1⟩ | with_reducible exact ⟨z0.c0, z0.c1, z1.c0, z1.c1⟩)
    (first
    | (go_at_call_of 110 (Value.agg #[.bool b, .slice ao n nc]); refine (wSign_any b ao n nc x _ (A'.out.below hb0)).mono ?_; rintro e w1 ⟨rfl, hb⟩; have y0 := x0.later hb; have y1 := x1.later hb; have hb1 := below_then hb0 (Nat.le_refl _) hb)
    | (go_at_call_of 110 (Value.agg #[.bool c, .slice bo m mc]); refine (wSign_any c bo m mc y _ (B'.out.below hb1)).mono ?_; rintro e w2 ⟨rfl, hb2⟩; have z0 := y0.later hb2; have z1 := y1.later hb2; have hb3 := below_then hb1 (Nat.le_refl _) hb2))
  have hb3' := Lib.hid hb3; have z0' := Lib.hid z0; have z1' := Lib.hid z1
  clear x0 x1 y0 y1 hb0 hb hb1 hb2 hb3 z0 z1
  by_cases hs : x.sign = y.sign
  · have p0 := z0'.out.c0; have p1 := z0'.out.c1; have p2 := z1'.out.c0; have p3 := z1'.out.c1
    obtain ⟨f, A, hx⟩ := A'.out.ex
    obtain ⟨g, B, hy⟩ := B'.out.ex
    have A := Lib.hid A; have B := Lib.hid B; have hx := Lib.hid hx; have hy := Lib.hid hy; have hs' := Lib.hid hs
    go_wp2_with fail
    refine (cmp_any ao bo n nc m mc f g _ (A.out.below hb3'.out) (B.out.below hb3'.out)).mono ?_
    rintro e w3 ⟨rfl, hd⟩
    have hb := below_drawn hd
    have hb4 := Lib.hid (below_then hb3'.out (Nat.le_refl _) hb)
    clear hd hb
    go_wp2_with fail
    go_ret
    refine ⟨ret_num ?_, hb4.out⟩
    have key := cmp_size (b := b) (c := c) (u := val f n) (v := val g m) (by rw [hx.out, hy.out]; exact hs'.out)
    rw [hx.out, hy.out] at key
    rw [← hs, wrap_is]
    exact key
  · go_wp2_with fail
    refine (cmp_int x.sign y.sign _).mono ?_
    rintro e w3 ⟨rfl, rfl⟩
    rw [cmp_sign hs]
    go_wp2_with fail
    go_ret
    exact ⟨rfl, hb3'.out⟩

/-- Quotient, rounded down, and rest; or zeros and false. -/
def IDivPost (x y : Int) (w : World) (e : Ending) (w' : World) : Prop :=
  Below w.heap.size w w' ∧ ((y = 0 ∧ e = .returned (.tuple #[.agg #[.bool false, .slice none 0 0], .agg #[.bool false, .slice none 0 0], .bool false])) ∨
    (y ≠ 0 ∧ ∃ b ao n nc c bo m mc, e = .returned (.tuple #[.agg #[.bool b, .slice ao n nc], .agg #[.bool c, .slice bo m mc], .bool true]) ∧ Right w' b ao n nc (x.fdiv y) ∧ Right w' c bo m mc (x.fmod y)))

theorem fdiv_is {x y q r : Int} (e : r + y * q = x) (h : (0 < y ∧ 0 ≤ r ∧ r < y) ∨ (y < 0 ∧ y < r ∧ r ≤ 0)) : x.fdiv y = q ∧ x.fmod y = r := by
  rcases h with ⟨h0, h1, h2⟩ | ⟨h0, h1, h2⟩
  · exact (Int.fdiv_fmod_unique h0).2 ⟨e, h1, h2⟩
  · exact (Int.fdiv_fmod_unique' h0).2 ⟨e, h1, h2⟩

theorem fdiv_same (b : Bool) {u v : Nat} (hv : v ≠ 0) : (sgn b u).fdiv (sgn b v) = sgn false (u / v) ∧ (sgn b u).fmod (sgn b v) = sgn b (u % v) := by
  have e : (v : Int) * ((u / v : Nat) : Int) + ((u % v : Nat) : Int) = u := by exact_mod_cast Nat.div_add_mod u v
  have l : u % v < v := Nat.mod_lt _ (by omega)
  cases b
  · exact fdiv_is (by simp only [sgn_false]; omega) (.inl ⟨by simp only [sgn_false]; omega, by simp only [sgn_false]; omega, by simp only [sgn_false]; omega⟩)
  · refine fdiv_is ?_ (.inr ⟨by simp only [sgn_true]; omega, by simp only [sgn_true]; omega, by simp only [sgn_true]; omega⟩)
    simp only [sgn_true, sgn_false, Int.neg_mul]; omega

theorem fdiv_even {b c : Bool} (h : b ≠ c) {u v : Nat} (hv : v ≠ 0) (hr : u % v = 0) : (sgn b u).fdiv (sgn c v) = sgn true (u / v) ∧ (sgn b u).fmod (sgn c v) = sgn c (u % v) := by
  have e : (v : Int) * ((u / v : Nat) : Int) + ((u % v : Nat) : Int) = u := by exact_mod_cast Nat.div_add_mod u v
  rw [hr] at e ⊢
  cases b <;> cases c <;> simp only [ne_eq, not_true, reduceCtorEq, not_false_iff] at h
  · refine fdiv_is ?_ (.inr ⟨by simp only [sgn_true]; omega, by simp only [sgn_true]; omega, by simp only [sgn_true]; omega⟩)
    simp only [sgn_true, sgn_false, Int.neg_mul, Int.mul_neg]; omega
  · refine fdiv_is ?_ (.inl ⟨by simp only [sgn_false]; omega, by simp only [sgn_false]; omega, by simp only [sgn_false]; omega⟩)
    simp only [sgn_true, sgn_false, Int.mul_neg]; omega

theorem fdiv_odd {b c : Bool} (h : b ≠ c) {u v : Nat} (hv : v ≠ 0) (hr : u % v ≠ 0) : (sgn b u).fdiv (sgn c v) = sgn true (u / v + 1) ∧ (sgn b u).fmod (sgn c v) = sgn c (v - u % v) := by
  have e : (v : Int) * ((u / v : Nat) : Int) + ((u % v : Nat) : Int) = u := by exact_mod_cast Nat.div_add_mod u v
  have l : u % v < v := Nat.mod_lt _ (by omega)
  have e2 : (v : Int) * ((u / v + 1 : Nat) : Int) = (v : Int) * ((u / v : Nat) : Int) + v := by rw [Int.natCast_add, Int.mul_add]; simp
  cases b <;> cases c <;> simp only [ne_eq, not_true, reduceCtorEq, not_false_iff] at h
  · refine fdiv_is ?_ (.inr ⟨by simp only [sgn_true]; omega, by simp only [sgn_true]; omega, by simp only [sgn_true]; omega⟩)
    simp only [sgn_true, sgn_false, Int.neg_mul, Int.mul_neg]; omega
  · refine fdiv_is ?_ (.inl ⟨by simp only [sgn_false]; omega, by simp only [sgn_false]; omega, by simp only [sgn_false]; omega⟩)
    simp only [sgn_true, sgn_false, Int.mul_neg]; omega

theorem small {v k : Nat} (hk : k ≤ 1000000) (h : v < pw k) : v < pw 1000000 := Nat.lt_of_lt_of_le h (pw_le hk)

theorem IDivPost.stored {w wk : World} {x y q r : Int} {b c : Bool} {ao bo : Option Addr} {n nc m mc B C : Nat} {b1 b2 : Bool} {p1 p2 : Option Addr} {k1 k2 l1 l2 : Nat} (hQ : Right wk b ao n nc q) (hR : Right wk c bo m mc r)
    (zB : Box wk B (.bool b1) (.slice p1 k1 l1)) (zC : Box wk C (.bool b2) (.slice p2 k2 l2)) (hne : B ≠ C) (hb : Below w.heap.size w wk) (hB : w.heap.size ≤ B) (hC : w.heap.size ≤ C) (hy : y ≠ 0) (e : x.fdiv y = q ∧ x.fmod y = r) :
    IDivPost x y w (.returned (.tuple #[.agg #[.bool b, .slice ao n nc], .agg #[.bool c, .slice bo m mc], .bool true])) ((((wk.setCell ⟨B, 0, none⟩ (.bool b)).setCell ⟨B, 1, none⟩ (.slice ao n nc)).setCell ⟨C, 0, none⟩ (.bool c)).setCell ⟨C, 1, none⟩ (.slice bo m mc)) := by
  rw [← e.1] at hQ; rw [← e.2] at hR
  exact ⟨below_set (below_set hb hB _ _) hC _ _, .inr ⟨hy, b, ao, n, nc, c, bo, m, mc, rfl, (hQ.box zB _ _).box (zC.other hne.symm _ _) _ _, (hR.box zB _ _).box (zC.other hne.symm _ _) _ _⟩⟩

set_option maxHeartbeats 1000000 in
theorem wDivMod_any (b c : Bool) (ao bo : Option Addr) (n nc m mc : Nat) (x y : Int) (w : World) (A : Whole w b ao n nc x) (B : Whole w c bo m mc y) :
    Calls Tryz.prog 114 #[.agg #[.bool b, .slice ao n nc], .agg #[.bool c, .slice bo m mc]] w (IDivPost x y w) := by
  obtain ⟨f, A, hx⟩ := A.ex
  obtain ⟨g, B, hy⟩ := B.ex
  have A' := Lib.hid A; have hx' := Lib.hid hx; have B' := Lib.hid B; have hy' := Lib.hid hy
  clear A hx B hy
  go_enter Tryz.func114, Tryz.ntmps114
  go_wp2_with fail
  refine gen_calls (fun w' => Below w.heap.size w w' ∧ Box w' w.heap.size (.bool b) (.slice ao n nc) ∧ Box w' (w.heap.size + 1) (.bool c) (.slice bo m mc) ∧ Box w' (w.heap.size + 2) (.bool false) (.slice none 0 0) ∧ Box w' (w.heap.size + 3) (.bool false) (.slice none 0 0))
    ⟨(((((Below.refl _ w).alloc (Nat.le_refl _) _).alloc (by first | (simp; done) | (simp; omega)) _).alloc (by first | (simp; done) | (simp; omega)) _).alloc (by first | (simp; done) | (simp; omega)) _), ((((Box.new _ _ _ rfl).alloc _).alloc _).alloc _), (((Box.new _ _ _ (by first | (simp; done) | (simp; omega))).alloc _).alloc _), ((Box.new _ _ _ (by first | (simp; done) | (simp; omega))).alloc _), (Box.new _ _ _ (by first | (simp; done) | (simp; omega)))⟩ ?_
  rintro w0 ⟨hb0, x0, x1, x2, x3⟩
  refine (divMod_any ao bo n nc m mc f g _ (A'.out.below hb0) (B'.out.below hb0)).mono ?_
  rintro e w1 ⟨hb, h⟩
  have y0 := x0.later hb; have y1 := x1.later hb; have y2 := x2.later hb; have y3 := x3.later hb
  have hb1 := below_then hb0 (Nat.le_refl _) hb
  clear x0 x1 x2 x3 hb hb0
  rcases h with ⟨h0, rfl⟩ | ⟨h0, qo, qn, qc, q, ro, rn, rc, r, rfl, g1, g2, g3, g4, g5, g6, g7, g8⟩
  · have hb1' := Lib.hid hb1
    have hy0 : y = 0 := by rw [← hy'.out, h0]; cases c <;> rfl
    have hy0' := Lib.hid hy0
    have p0 := y2.c0; have p1 := y2.c1; have p2 := y2.fr 0; have p3 := y2.fr 1; have p4 := y3.c0; have p5 := y3.c1; have p6 := y3.fr 0; have p7 := y3.fr 1
    have z2 := Lib.hid ((y2.set (.bool false) (.slice none 0 0)).other (C := w.heap.size + 3) (by omega) (.bool false) (.slice none 0 0))
    have z3 := Lib.hid ((y3.other (C := w.heap.size + 2) (by omega) (.bool false) (.slice none 0 0)).set (.bool false) (.slice none 0 0))
    clear hb1 h0 hy0 y0 y1 y2 y3
    go_wp2_with fail
    have e0 := z2.out.c0; have e1 := z2.out.c1; have e2 := z3.out.c0; have e3 := z3.out.c1
    refine bodyPost_ret (v := .tuple #[.agg #[.bool false, .slice none 0 0], .agg #[.bool false, .slice none 0 0], .bool false]) (by simp [results, Tryz.results114, go_sem, e0, e1, e2, e3]) rfl ?_
    exact ⟨below_set (below_set hb1'.out (by omega) _ _) (by omega) _ _, .inl ⟨hy0'.out, rfl⟩⟩
  · have h0' := Lib.hid h0; have g5' := Lib.hid g5; have g6' := Lib.hid g6; have g7' := Lib.hid g7; have g8' := Lib.hid g8; have hb1' := Lib.hid hb1
    have p0 := y0.c0; have p1 := y1.c0
    have y0' := Lib.hid y0; have y1' := Lib.hid y1; have y2' := Lib.hid y2; have y3' := Lib.hid y3
    clear h0 g5 g6 g7 g8 hb1 y0 y1 y2 y3
    by_cases hbc : b = c
    · subst hbc
      go_wp2_with fail
      have hbw := Lib.hid hb1'.out.drew
      have x1 := y1'.out.drew; have x2 := y2'.out.drew; have x3 := y3'.out.drew
      go_region_held3 (fun w' => w'.cell? ⟨w.heap.size + 1, 0, none⟩ = some (.bool b))
        (first | with_reducible exact x1.c0 | with_reducible exact u1.c0 | with_reducible exact v1.c0 | with_reducible exact (v1.other (C := w.heap.size + 2) (by omega) _ _).c0 | with_reducible exact (v1.other (C := w.heap.size + 3) (by omega) _ _).c0 | with_reducible exact ((v1.other (C := w.heap.size + 2) (by omega) _ _).other (C := w.heap.size + 3) (by omega) _ _).c0 | with_reducible exact ((v1.other (C := w.heap.size + 3) (by omega) _ _).other (C := w.heap.size + 2) (by omega) _ _).c0)
        (first
        | (go_at_call_of 150 qo; refine (signed_any false qo _ qn qc q _ g1 g2 (g5'.out.below (Below.refl _ _).drew) g6'.out).mono ?_; rintro e w2 ⟨sb, so, sn, sc, rfl, hQ, hb2⟩; have u1 := x1.later hb2; have u2 := x2.later hb2; have u3 := x3.later hb2; have hb3 := below_then hbw.out (Nat.le_refl _) hb2; have g7 := g7'.out.below ((Below.refl _ _).drew.trans hb2))
        | (go_at_call_of 150 ro; refine (signed_any b ro _ rn rc r _ g3 g4 g7 g8'.out).mono ?_; rintro e w3 ⟨tb, to_, tn, tc, rfl, hR, hb4⟩; have v1 := u1.later hb4; have v2 := u2.later hb4; have v3 := u3.later hb4; have hb5 := below_then hb3 (Nat.le_refl _) hb4; have hQ3 := hQ.below hb4
           have q0 := v2.c0; have q1 := v2.c1; have q2 := v2.fr 0; have q3 := v2.fr 1; have q4 := v3.c0; have q5 := v3.c1; have q6 := v3.fr 0; have q7 := v3.fr 1))
      have z2 := (v2.set (.bool sb) (.slice so sn sc)).other (C := w.heap.size + 3) (by omega) (.bool tb) (.slice to_ tn tc)
      have z3 := (v3.other (C := w.heap.size + 2) (by omega) (.bool sb) (.slice so sn sc)).set (.bool tb) (.slice to_ tn tc)
      have e0 := z2.c0; have e1 := z2.c1; have e2 := z3.c0; have e3 := z3.c1
      have hQ3' := Lib.hid hQ3; have hR' := Lib.hid hR; have v2' := Lib.hid v2; have v3' := Lib.hid v3; have hb5' := Lib.hid hb5
      clear z2 z3 q0 q1 q2 q3 q4 q5 q6 q7 hQ hR hb2 hb3 hb4 hb5 u1 u2 u3 v1 v2 v3 x1 x2 x3 g7 hQ3
      go_wp2_with fail
      refine bodyPost_ret (v := .tuple #[.agg #[.bool sb, .slice so sn sc], .agg #[.bool tb, .slice to_ tn tc], .bool true]) (by simp [results, Tryz.results114, go_sem, e0, e1, e2, e3]) rfl ?_
      have hy0 : y ≠ 0 := by
        rw [← hy'.out]
        intro e
        have e1 := congrArg Int.natAbs e
        rw [sgn_abs] at e1
        exact h0'.out (by simpa using e1)
      exact IDivPost.stored hQ3'.out hR'.out v2'.out v3'.out (by omega) hb5'.out (by omega) (by omega) hy0 (by rw [← hx'.out, ← hy'.out]; exact fdiv_same b h0'.out)
    · have hbc' : (b == c) = false := by simp [hbc]
      by_cases hr : rn = 0
      · subst hr
        go_wp2_with fail
        have hbw := Lib.hid hb1'.out.drew
        have x1 := y1'.out.drew; have x2 := y2'.out.drew; have x3 := y3'.out.drew
        go_region_held3 (fun w' => w'.cell? ⟨w.heap.size + 1, 0, none⟩ = some (.bool c))
          (first | with_reducible exact x1.c0 | with_reducible exact u1.c0 | with_reducible exact v1.c0 | with_reducible exact (v1.other (C := w.heap.size + 2) (by omega) _ _).c0 | with_reducible exact (v1.other (C := w.heap.size + 3) (by omega) _ _).c0 | with_reducible exact ((v1.other (C := w.heap.size + 2) (by omega) _ _).other (C := w.heap.size + 3) (by omega) _ _).c0 | with_reducible exact ((v1.other (C := w.heap.size + 3) (by omega) _ _).other (C := w.heap.size + 2) (by omega) _ _).c0)
          (first
          | (go_at_call_of 150 qo; refine (signed_any true qo _ qn qc q _ g1 g2 (g5'.out.below (Below.refl _ _).drew) g6'.out).mono ?_; rintro e w2 ⟨sb, so, sn, sc, rfl, hQ, hb2⟩; have u1 := x1.later hb2; have u2 := x2.later hb2; have u3 := x3.later hb2; have hb3 := below_then hbw.out (Nat.le_refl _) hb2; have g7 := g7'.out.below ((Below.refl _ _).drew.trans hb2))
          | (go_at_call_of 150 ro; refine (signed_any c ro _ 0 rc r _ g3 g4 g7 g8'.out).mono ?_; rintro e w3 ⟨tb, to_, tn, tc, rfl, hR, hb4⟩; have v1 := u1.later hb4; have v2 := u2.later hb4; have v3 := u3.later hb4; have hb5 := below_then hb3 (Nat.le_refl _) hb4; have hQ3 := hQ.below hb4
             have q0 := v2.c0; have q1 := v2.c1; have q2 := v2.fr 0; have q3 := v2.fr 1; have q4 := v3.c0; have q5 := v3.c1; have q6 := v3.fr 0; have q7 := v3.fr 1))
        have z2 := (v2.set (.bool sb) (.slice so sn sc)).other (C := w.heap.size + 3) (by omega) (.bool tb) (.slice to_ tn tc)
        have z3 := (v3.other (C := w.heap.size + 2) (by omega) (.bool sb) (.slice so sn sc)).set (.bool tb) (.slice to_ tn tc)
        have e0 := z2.c0; have e1 := z2.c1; have e2 := z3.c0; have e3 := z3.c1
        have hQ3' := Lib.hid hQ3; have hR' := Lib.hid hR; have v2' := Lib.hid v2; have v3' := Lib.hid v3; have hb5' := Lib.hid hb5
        clear z2 z3 q0 q1 q2 q3 q4 q5 q6 q7 hQ hR hb2 hb3 hb4 hb5 u1 u2 u3 v1 v2 v3 x1 x2 x3 g7 hQ3
        go_wp2_with fail
        refine bodyPost_ret (v := .tuple #[.agg #[.bool sb, .slice so sn sc], .agg #[.bool tb, .slice to_ tn tc], .bool true]) (by simp [results, Tryz.results114, go_sem, e0, e1, e2, e3]) rfl ?_
        have hy0 : y ≠ 0 := by
          rw [← hy'.out]
          intro e
          have e1 := congrArg Int.natAbs e
          rw [sgn_abs] at e1
          exact h0'.out (by simpa using e1)
        exact IDivPost.stored hQ3'.out hR'.out v2'.out v3'.out (by omega) hb5'.out (by omega) (by omega) hy0 (by rw [← hx'.out, ← hy'.out]; exact fdiv_even hbc h0'.out (g8'.out.ne_zero.1 rfl))
      · have hr0 := Nat.pos_of_ne_zero hr
        have hlt := Lib.hid (val_lt A'.out.lim)
        have hfew := Lib.hid (small A'.out.few hlt.out)
        have hQa := Lib.hid (g6'.out.arg g5'.out g1 g2 (Nat.lt_of_le_of_lt (Nat.div_le_self _ _) hfew.out))
        have hRa := Lib.hid (g8'.out.arg g7'.out g3 g4 (Nat.lt_of_le_of_lt (Nat.mod_le _ _) hfew.out))
        have hrv := Lib.hid g8'.out.val; have hqv := Lib.hid g6'.out.val
        have hrn : Hid (val f n % val g m ≠ 0) := Lib.hid (fun e => hr (g8'.out.ne_zero.2 e))
        clear hr
        go_wp2_with fail
        refine gen_calls (fun w' => Below w1.heap.size w1 w' ∧ Sl w' (some ⟨w1.heap.size, 0, none⟩) 1 (fun _ => 1)) ⟨(Below.refl _ _).alloc (Nat.le_refl _) _, sl_new1 w1 _ _ _ rfl⟩ ?_
        rintro w4 ⟨k2, ks⟩
        refine (add_any qo (some ⟨w1.heap.size, 0, none⟩) qn qc 1 1 q (fun _ => 1) _ (hQa.out.below k2) ⟨Nat.le_refl _, by omega, by omega, ks, fun _ _ => (by decide : 1 < 4294967296)⟩).mono ?_
        have e1 : val (fun _ => 1) 1 = 1 := by simp [val, pw]
        rw [e1, hqv.out]
        clear e1 g1 g2 g5' g6' ks
        rintro e w5 ⟨qo, qn, qc, q, rfl, g1, g2, g5, g6, hb6⟩
        have hb7 := k2.trans (hb6.mono k2.size)
        have hb1' := Lib.hid (below_then hb1'.out (Nat.le_refl _) hb7)
        have y1' := Lib.hid (y1'.out.later hb7); have y2' := Lib.hid (y2'.out.later hb7); have y3' := Lib.hid (y3'.out.later hb7)
        have hRa := Lib.hid (hRa.out.below hb7)
        have g5' := Lib.hid g5; have g6' := Lib.hid g6
        have p1 := y1'.out.c1
        clear k2 hb6 hb7 g5 g6 p0 y0'
        go_wp2_with fail
        refine (sub_any bo ro m mc rn rc g r _ (B'.out.below hb1'.out) hRa.out).mono ?_
        rw [hrv.out]
        rintro e w6 ⟨hb8, h⟩
        rcases h with ⟨h, _⟩ | ⟨_, so, sn, sc, s, rfl, k3, k4, k7, k8⟩
        · exact absurd h (Nat.not_lt.2 (Nat.le_of_lt (Nat.mod_lt _ (Nat.pos_of_ne_zero h0'.out))))
        have hb1' := Lib.hid (below_then hb1'.out (Nat.le_refl _) hb8)
        have y1' := Lib.hid (y1'.out.later hb8); have y2' := Lib.hid (y2'.out.later hb8); have y3' := Lib.hid (y3'.out.later hb8)
        have g5' := Lib.hid (g5'.out.below hb8)
        have g7' := Lib.hid k7; have g8' := Lib.hid k8
        have p1 := y1'.out.c0
        clear hb8 k7 k8 g3 g4 hRa
        go_wp2_with fail
        have hbw := Lib.hid hb1'.out.drew
        have x1 := y1'.out.drew; have x2 := y2'.out.drew; have x3 := y3'.out.drew
        go_region_held3 (fun w' => w'.cell? ⟨w.heap.size + 1, 0, none⟩ = some (.bool c))
          (first | with_reducible exact x1.c0 | with_reducible exact u1.c0 | with_reducible exact v1.c0 | with_reducible exact (v1.other (C := w.heap.size + 2) (by omega) _ _).c0 | with_reducible exact (v1.other (C := w.heap.size + 3) (by omega) _ _).c0 | with_reducible exact ((v1.other (C := w.heap.size + 2) (by omega) _ _).other (C := w.heap.size + 3) (by omega) _ _).c0 | with_reducible exact ((v1.other (C := w.heap.size + 3) (by omega) _ _).other (C := w.heap.size + 2) (by omega) _ _).c0)
          (first
          | (go_at_call_of 150 qo; refine (signed_any true qo _ qn qc q _ g1 g2 (g5'.out.below (Below.refl _ _).drew) g6'.out).mono ?_; rintro e w2 ⟨sb, vo, vn, vc, rfl, hQ, hb2⟩; have u1 := x1.later hb2; have u2 := x2.later hb2; have u3 := x3.later hb2; have hb3 := below_then hbw.out (Nat.le_refl _) hb2; have g7 := g7'.out.below ((Below.refl _ _).drew.trans hb2))
          | (go_at_call_of 150 so; refine (signed_any c so _ sn sc s _ k3 k4 g7 g8'.out).mono ?_; rintro e w3 ⟨tb, to_, tn, tc, rfl, hR, hb4⟩; have v1 := u1.later hb4; have v2 := u2.later hb4; have v3 := u3.later hb4; have hb5 := below_then hb3 (Nat.le_refl _) hb4; have hQ3 := hQ.below hb4
             have q0 := v2.c0; have q1 := v2.c1; have q2 := v2.fr 0; have q3 := v2.fr 1; have q4 := v3.c0; have q5 := v3.c1; have q6 := v3.fr 0; have q7 := v3.fr 1))
        have z2 := (v2.set (.bool sb) (.slice vo vn vc)).other (C := w.heap.size + 3) (by omega) (.bool tb) (.slice to_ tn tc)
        have z3 := (v3.other (C := w.heap.size + 2) (by omega) (.bool sb) (.slice vo vn vc)).set (.bool tb) (.slice to_ tn tc)
        have e0 := z2.c0; have e1 := z2.c1; have e2 := z3.c0; have e3 := z3.c1
        have hQ3' := Lib.hid hQ3; have hR' := Lib.hid hR; have v2' := Lib.hid v2; have v3' := Lib.hid v3; have hb5' := Lib.hid hb5
        clear z2 z3 q0 q1 q2 q3 q4 q5 q6 q7 hQ hR hb2 hb3 hb4 hb5 u1 u2 u3 v1 v2 v3 x1 x2 x3 g7 hQ3
        go_wp2_with fail
        refine bodyPost_ret (v := .tuple #[.agg #[.bool sb, .slice vo vn vc], .agg #[.bool tb, .slice to_ tn tc], .bool true]) (by simp [results, Tryz.results114, go_sem, e0, e1, e2, e3]) rfl ?_
        have hy0 : y ≠ 0 := by
          rw [← hy'.out]
          intro e
          have e1 := congrArg Int.natAbs e
          rw [sgn_abs] at e1
          exact h0'.out (by simpa using e1)
        exact IDivPost.stored hQ3'.out hR'.out v2'.out v3'.out (by omega) hb5'.out (by omega) (by omega) hy0 (by rw [← hx'.out, ← hy'.out]; exact fdiv_odd hbc h0'.out hrn.out)

end Go.Proofs.YtaepelipkkmeaaaGreat
