/-
  scrimref08.Cell, Right: which cells and arrays are right.
  scrimref08.Right: an array is right.
  scrimref08.Pack, Unpack: an array as a cell, a cell as an array.
  An api.Array that came in, as the walks speak of it.
  Arrays, plain: what is without labels, what has got more; what is packed and unpacked.
  What the functions of package array are to tell (as hypotheses of the walks of the statements).
  scrimlaw08.awake.
  scrimlaw08.ArrayRight, walked.
  scrimlaw08.ArrayLabels, walked.
  scrimlaw08.ArraySame, walked.
  scrimlaw08.ArrayPacks, walked.
-/
import Derived.Test.YtmkjebembicljaaGreatMrgF
import Derived.OpenShut
import Derived.SizedLaws
import Derived.Deep.RegionHeld3
namespace Go.Proofs.YtmkjebembicljaaGreat
open Go.RowKit Num

/-- A number's fields are right: they are a number in lowest terms. -/
def RightF (N : NumF) : Prop := ∃ (P : Int) (Q : Nat), Low P Q ∧ N.neg = decide (P < 0) ∧ Canon P.natAbs N.an N.fa ∧ Canon Q N.am N.ga

theorem numRight_any (N : NumF) (c0 c1 c2 : Value) (w : World) (h : NumP w N c0 c1 c2) :
    Calls Tryz.prog 49 #[.agg #[c0, c1, c2]] w (BoolPost (RightF N) w) := by
  obtain ⟨neg, an, fa, am, ga⟩ := N
  obtain ⟨rfl, ⟨ao, ac, rfl, hn, hs, hl⟩, ⟨bo, bc, rfl, hm, hs', hl'⟩⟩ := h
  refine (right4_in neg ao bo an ac am bc fa ga w ⟨hn.1, hn.2.1, hs, hl⟩ ⟨hm.1, hm.2.1, hs', hl'⟩).mono ?_
  rintro e w' ⟨r, rfl, h1, h2, hb⟩
  refine ⟨r, rfl, ⟨fun hr => ?_, fun ⟨P, Q, lw, e1, e2, e3⟩ => ?_⟩, hb⟩
  · obtain ⟨P, Q, lw, R⟩ := h1 hr
    have n1 := R.top.len_le32 lw.2.2.1
    have n2 := R.bot.len_le32 (x := (Q : Int)) (by simpa using lw.2.2.2)
    have k1 := R.top.canon ⟨hn.1, hn.2.1, by omega, hs, hl⟩
    have k2 := R.bot.canon ⟨hm.1, hm.2.1, by omega, hs', hl'⟩
    obtain ⟨_, _, _, _, _, e⟩ := R.top.ex
    exact ⟨P, Q, lw, e, k1, by simpa using k2⟩
  · refine h2 P Q lw ⟨⟨fa, hn.1, hn.2.1, hs, e2, e1⟩, ⟨ga, hm.1, hm.2.1, hs', by simpa using e3, by simp⟩⟩

/-- A cell is right, with d boxes left: simple and right tell it of the array in it. -/
def CellT (K : Int) (N : NumF) (C : Int) (k : Nat) (simple : Bool) (d : Nat) (R : Prop) : Prop :=
  (K = 0 ∧ C = 0 ∧ k = 0 ∧ RightF N) ∨ (K = 1 ∧ zeroF N = true ∧ k = 0 ∧ mayZ C = true) ∨ (K = 2 ∧ zeroF N = true ∧ C = 0 ∧ k = 1 ∧ 0 < d ∧ simple = false ∧ R)

/-- An array is right, with d boxes left. -/
def RightT : Tree → Nat → Prop
  | .leaf, _ => False
  | .arr _ n sh m _ K C N k sub, d => Shape sh n (m : Int) ∧ ∀ i, i < m → CellT (K i) (N i) (C i) (k i) (simpleT (sub i 0)) d (RightT (sub i 0) (d - 1))

set_option maxRecDepth 20000 in
set_option maxHeartbeats 8000000 in
theorem cell8_of (L : Nat) (K : Int) (N : NumF) (C : Int) (k : Nat) (R : Nat → Value → Value → Value → Prop) (e : Nat → Value) (T : Tree) (d : Nat) (P : Prop) (w : World) (h : CellP w L K N C k R e) (hd : d ≤ 8) (hR : ∀ d0 d1 d2, R 0 d0 d1 d2 → ArrP w T d0 d1 d2)
    (hS : ∀ d0 d1 d2 w', R 0 d0 d1 d2 → Below w.heap.size w w' → 0 < d → Calls Tryz.prog 12 #[.agg #[d0, d1, d2], .int .i64 ((d : Int) - 1)] w' (BoolPost P w')) :
    Calls Tryz.prog 36 #[.agg #[e 0, e 1, e 2, e 3, e 4, e 5, e 6], .int .i64 d] w (BoolPost (CellT K N C k (simpleT T) d P) w) := by
  obtain ⟨p0, pL, p1, pK, hN, p5, pC, io, kc, p6, hk, hrow⟩ := h
  obtain ⟨c0, hc0⟩ : ∃ x, x = e 2 := ⟨_, rfl⟩
  have hN' := Lib.hid hN
  obtain ⟨p2, ⟨ao, ac, p3, ha, _⟩, ⟨bo, bc, p4, hb, _⟩⟩ := hN
  rw [p2, p3, p4] at hN'
  rw [p0, p1, p2, p3, p4, p5, p6]
  have kk1 := hk.1; have kk2 := hk.2.1
  have hbel := Lib.hid ((Below.refl w.heap.size w).alloc (Nat.le_refl _) (.cells #[.int .u64 L, .int .i64 K, .bool N.neg, .slice ao N.an ac, .slice bo N.am bc, .int .i64 C, .slice io k kc] 32))
  have hx := Lib.hid (Box7.new (w := w) (B := w.heap.size) (.int .u64 L) (.int .i64 K) (.bool N.neg) (.slice ao N.an ac) (.slice bo N.am bc) (.int .i64 C) (.slice io k kc) 32 rfl)
  have hr1 := Lib.hid hrow; have hS' := Lib.hid hS; have hRT := Lib.hid hR
  clear p0 pL p1 pK p2 p3 p4 p5 pC p6 ha hb hk hrow hS hR hc0 c0
  by_cases K0 : K = 0
  · subst K0
    by_cases C0 : C = 0
    · subst C0
      by_cases k0 : k = 0
      · subst k0
        go_enter Tryz.func36, Tryz.ntmps36
        go_wp2_with fail
        refine (numRight_any N _ _ _ _ (hN'.out.below hbel.out)).mono ?_
        rintro e' w1 ⟨r, rfl, hr, hb1⟩
        have b1 := Lib.hid (hbel.out.trans (hb1.mono hbel.out.size)); have hr' := Lib.hid hr
        clear hb1 hr
        go_wp2_with fail
        go_ret
        refine ⟨r, rfl, ⟨fun h => .inl ⟨rfl, rfl, rfl, hr'.out.1 h⟩, fun h => hr'.out.2 ?_⟩, b1.out⟩
        rcases h with h | h | h
        · exact h.2.2.2
        · exact absurd h.1 (by decide)
        · exact absurd h.1 (by decide)
      · have kb : ((k : Int) == 0) = false := by rw [beq_eq_false_iff_ne]; omega
        have hn := Lib.hid k0
        clear k0
        go_enter Tryz.func36, Tryz.ntmps36
        go_wp2_with fail
        go_ret
        refine ⟨false, rfl, ⟨fun h => (Bool.false_ne_true h).elim, fun h => ?_⟩, hbel.out⟩
        rcases h with h | h | h
        · exact absurd h.2.2.1 hn.out
        · exact absurd h.1 (by decide)
        · exact absurd h.1 (by decide)
    · have kb : (C == 0) = false := by rw [beq_eq_false_iff_ne]; exact C0
      have hn := Lib.hid C0
      clear C0
      go_enter Tryz.func36, Tryz.ntmps36
      go_wp2_with fail
      go_ret
      refine ⟨false, rfl, ⟨fun h => (Bool.false_ne_true h).elim, fun h => ?_⟩, hbel.out⟩
      rcases h with h | h | h
      · exact absurd h.2.1 hn.out
      · exact absurd h.1 (by decide)
      · exact absurd h.1 (by decide)
  by_cases K1 : K = 1
  · subst K1
    clear K0
    go_enter Tryz.func36, Tryz.ntmps36
    go_wp2_with fail
    refine (zero8_any N _ _ _ _ (hN'.out.below hbel.out)).mono ?_
    rintro e' w1 ⟨rfl, hb1⟩
    have b1 := Lib.hid (hbel.out.trans (hb1.mono hbel.out.size)); have x1 := hx.out.later hb1
    have g5 := x1.c5; have g6 := x1.c6
    clear hb1 hx x1
    obtain ⟨z, hz⟩ : ∃ z, z = zeroF N := ⟨_, rfl⟩
    have hz' := Lib.hid hz
    rw [← hz]
    clear hz
    cases z with
    | false =>
      go_wp2_with fail
      go_ret
      refine ⟨false, rfl, ⟨fun h => (Bool.false_ne_true h).elim, fun h => ?_⟩, b1.out⟩
      have hzo := hz'.out
      rcases h with h | h | h
      · exact absurd h.1 (by decide)
      · rw [h.2.1] at hzo; cases hzo
      · exact absurd h.1 (by decide)
    | true =>
      by_cases k0 : k = 0
      · subst k0
        go_wp2_with fail
        refine (may6_any C _).mono ?_
        rintro e' w2 ⟨rfl, rfl⟩
        go_wp2_with fail
        go_ret
        refine ⟨_, rfl, ⟨fun h => .inr (.inl ⟨rfl, hz'.out.symm, rfl, h⟩), fun h => ?_⟩, b1.out⟩
        rcases h with h | h | h
        · exact absurd h.1 (by decide)
        · exact h.2.2.2
        · exact absurd h.1 (by decide)
      · have kb : ((k : Int) == 0) = false := by rw [beq_eq_false_iff_ne]; omega
        have hn := Lib.hid k0
        clear k0
        go_wp2_with fail
        go_ret
        refine ⟨false, rfl, ⟨fun h => (Bool.false_ne_true h).elim, fun h => ?_⟩, b1.out⟩
        rcases h with h | h | h
        · exact absurd h.1 (by decide)
        · exact absurd h.2.2.1 hn.out
        · exact absurd h.1 (by decide)
  by_cases K2 : K = 2
  · subst K2
    clear K0 K1
    go_enter Tryz.func36, Tryz.ntmps36
    go_wp2_with fail
    refine (zero8_any N _ _ _ _ (hN'.out.below hbel.out)).mono ?_
    rintro e' w1 ⟨rfl, hb1⟩
    have b1 := Lib.hid (hbel.out.trans (hb1.mono hbel.out.size)); have x1 := hx.out.later hb1
    have hx1 := Lib.hid x1
    have g5 := x1.c5; have g6 := x1.c6
    clear hb1 hx x1
    obtain ⟨z, hz⟩ : ∃ z, z = zeroF N := ⟨_, rfl⟩
    have hz' := Lib.hid hz
    rw [← hz]
    clear hz
    cases z with
    | false =>
      go_wp2_with fail
      go_ret
      refine ⟨false, rfl, ⟨fun h => (Bool.false_ne_true h).elim, fun h => ?_⟩, b1.out⟩
      have hzo := hz'.out
      rcases h with h | h | h
      · exact absurd h.1 (by decide)
      · exact absurd h.1 (by decide)
      · rw [h.2.1] at hzo; cases hzo
    | true =>
      by_cases C0 : C = 0
      · subst C0
        by_cases k1 : k = 1
        · subst k1
          by_cases d0 : d = 0
          · subst d0
            go_wp2_with fail
            go_ret
            refine ⟨false, rfl, ⟨fun h => (Bool.false_ne_true h).elim, fun h => ?_⟩, b1.out⟩
            rcases h with h | h | h
            · exact absurd h.1 (by decide)
            · exact absurd h.1 (by decide)
            · exact absurd h.2.2.2.2.1 (by decide)
          · have hd0 : 0 < d := by omega
            have hd1 : (0 : Int) < (d : Int) := by omega
            clear d0
            rcases hr1.out with h0 | ⟨b, o, rfl, hrows⟩
            · omega
            obtain ⟨u0, u1, u2, r0, r1, r2, r3⟩ := hrows 0 (by decide)
            rw [Nat.zero_mul, Nat.add_zero] at r0 r1 r2
            have s0 := cell_below r0 b1.out; have s1 := cell_below r1 b1.out; have s2 := cell_below r2 b1.out
            have hr3 := Lib.hid r3
            clear hrows
            go_wp2_with fail
            refine (simple8_any T u0 u1 u2 _ (ArrP.below _ _ _ _ (hRT.out _ _ _ hr3.out) b1.out)).mono ?_
            rintro e' w2 ⟨rfl, hb2⟩
            have b2 := Lib.hid (b1.out.trans (hb2.mono b1.out.size))
            have x2 := hx1.out.later hb2
            have t6 := x2.c6
            have v0 := cell_below r0 b2.out; have v1 := cell_below r1 b2.out; have v2 := cell_below r2 b2.out
            obtain ⟨si, hsi⟩ : ∃ si, si = simpleT T := ⟨_, rfl⟩
            have hsi' := Lib.hid hsi
            rw [← hsi]
            clear hsi s0 s1 s2 r0 r1 r2 r3 hb2 x2 g5 g6
            cases si with
            | true =>
              go_wp2_with fail
              go_ret
              refine ⟨false, rfl, ⟨fun h => (Bool.false_ne_true h).elim, fun h => ?_⟩, b2.out⟩
              have hso := hsi'.out
              rcases h with h | h | h
              · exact absurd h.1 (by decide)
              · exact absurd h.1 (by decide)
              · rw [h.2.2.2.2.2.1] at hso; cases hso
            | false =>
              go_wp2_with fail
              refine (hS'.out u0 u1 u2 _ hr3.out b2.out hd0).mono ?_
              rintro e' w3 ⟨r, rfl, hr, hb3⟩
              have b3 := Lib.hid (b2.out.trans (hb3.mono b2.out.size)); have hr' := Lib.hid hr
              clear hb3 hr v0 v1 v2 t6
              go_wp2_with fail
              go_ret
              refine ⟨r, rfl, ⟨fun h => .inr (.inr ⟨rfl, hz'.out.symm, rfl, rfl, hd0, hsi'.out.symm, hr'.out.1 h⟩), fun h => hr'.out.2 ?_⟩, b3.out⟩
              rcases h with h | h | h
              · exact absurd h.1 (by decide)
              · exact absurd h.1 (by decide)
              · exact h.2.2.2.2.2.2
        · have kb : ((k : Int) == 1) = false := by rw [beq_eq_false_iff_ne]; omega
          have hn := Lib.hid k1
          clear k1
          go_wp2_with fail
          go_ret
          refine ⟨false, rfl, ⟨fun h => (Bool.false_ne_true h).elim, fun h => ?_⟩, b1.out⟩
          rcases h with h | h | h
          · exact absurd h.1 (by decide)
          · exact absurd h.1 (by decide)
          · exact absurd h.2.2.2.1 hn.out
      · have kb : (C == 0) = false := by rw [beq_eq_false_iff_ne]; exact C0
        have hn := Lib.hid C0
        clear C0
        go_wp2_with fail
        go_ret
        refine ⟨false, rfl, ⟨fun h => (Bool.false_ne_true h).elim, fun h => ?_⟩, b1.out⟩
        rcases h with h | h | h
        · exact absurd h.1 (by decide)
        · exact absurd h.1 (by decide)
        · exact absurd h.2.2.1 hn.out
  have kb0 : (K == 0) = false := by rw [beq_eq_false_iff_ne]; exact K0
  have kb1 : (K == 1) = false := by rw [beq_eq_false_iff_ne]; exact K1
  have kb2 : (K == 2) = false := by rw [beq_eq_false_iff_ne]; exact K2
  have h0 := Lib.hid K0; have h1 := Lib.hid K1; have h2 := Lib.hid K2
  clear K0 K1 K2
  go_enter Tryz.func36, Tryz.ntmps36
  go_wp2_with fail
  go_ret
  refine ⟨false, rfl, ⟨fun h => (Bool.false_ne_true h).elim, fun h => ?_⟩, hbel.out⟩
  rcases h with h | h | h
  · exact absurd h.1 h0.out
  · exact absurd h.1 h1.out
  · exact absurd h.1 h2.out

end Go.Proofs.YtmkjebembicljaaGreat

namespace Go.Proofs.YtmkjebembicljaaGreat
open Go.RowKit Num

set_option maxRecDepth 20000 in
set_option maxHeartbeats 8000000 in
theorem right8_any : ∀ (A : Tree) (d : Nat) (c0 c1 c2 : Value) (w : World), ArrP w A c0 c1 c2 → d ≤ 8 →
    Calls Tryz.prog 12 #[.agg #[c0, c1, c2], .int .i64 d] w (BoolPost (RightT A d) w) := by
  intro A
  induction A with
  | leaf => intros; exact (ArrP.leaf ‹ArrP _ Tree.leaf _ _ _›).elim
  | arr S n sh m L K C N k sub ih =>
    intro d c0 c1 c2 w h hd8
    obtain ⟨rfl, _, ⟨ao, nc, rfl, hn, hsh, _⟩, co, mc, rfl, hm, hc⟩ := h
    have n1 := hn.1; have n2 := hn.2.1; have m1 := hm.1; have m2 := hm.2.1; have m3 := hm.2.2
    have hbel := Lib.hid ((Below.refl w.heap.size w).alloc (Nat.le_refl _) (.cells #[.int .u64 S, .slice ao n nc, .slice co m mc] 26))
    have hx := Lib.hid (Box3.new (w := w) (B := w.heap.size) (.int .u64 S) (.slice ao n nc) (.slice co m mc) 26 rfl)
    have hsh1 := Lib.hid (hsh.below hbel.out)
    have hc1 := Lib.hid hc
    clear hn hm hsh hc
    go_enter Tryz.func12, Tryz.ntmps12
    go_wp2_with fail
    refine (count7_any ao n nc sh _ (by omega) hsh1.out).mono ?_
    rintro e' w1 ⟨⟨M, E, rfl, hcnt⟩, rfl⟩
    have hcnt' := Lib.hid hcnt
    have z2 := hx.out.c2
    clear hcnt
    by_cases hE : E = 0
    · subst hE
      have hs := Lib.hid (hcnt'.out.shape rfl)
      by_cases hM : M = m
      · subst hM
        go_wp2_with fail
        go_loopw [7] (fun j wr => ∃ i : Nat, i ≤ m ∧ j = .int .i64 i ∧ Hid (∀ t, t < i → CellT (K t) (N t) (C t) (k t) (simpleT (sub t 0)) d (RightT (sub t 0) (d - 1))) ∧ Hid (Box3 wr w.heap.size (.int .u64 S) (.slice ao n nc) (.slice co m mc)) ∧ Hid (Below w.heap.size w wr)) (fun j _ => m - (intOfZ j).toNat)
        case atStart => exact ⟨0, Nat.zero_le _, rfl, Lib.hid fun t h => by omega, hx, hbel⟩
        case round =>
          obtain ⟨i, hi, rfl, hd, hx2, hb⟩ := hrel
          clear hx hbel hsh1 z2
          by_cases hlt : i < m
          · rcases hc1.out with h0 | ⟨b, o, rfl, hcells⟩
            · omega
            obtain ⟨e, he, hcell⟩ := hcells i hlt
            have u2 := hx2.out.c2
            have m0 := cell_below (he 0 (by decide)) hb.out
            rw [Nat.add_zero] at m0
            have m1 := cell_below (he 1 (by decide)) hb.out
            have m2 := cell_below (he 2 (by decide)) hb.out
            have m3 := cell_below (he 3 (by decide)) hb.out
            have m4 := cell_below (he 4 (by decide)) hb.out
            have m5 := cell_below (he 5 (by decide)) hb.out
            have m6 := cell_below (he 6 (by decide)) hb.out
            have hcall := Lib.hid (cell8_of (L i) (K i) (N i) (C i) (k i) _ e (sub i 0) d (RightT (sub i 0) (d - 1)) wr (hcell.below hb.out fun j d0 d1 d2 _ hd => ArrP.below _ _ _ _ hd hb.out) hd8 (fun d0 d1 d2 r => r)
              (fun d0 d1 d2 w' r hw' hd0 => by
                have q := ih i 0 (d - 1) d0 d1 d2 w' (ArrP.below _ _ _ _ r hw') (by omega)
                rwa [show (((d - 1 : Nat) : Int)) = (d : Int) - 1 from by omega] at q))
            clear hcells he hcell
            go_wp2_with fail
            refine hcall.out.mono ?_
            rintro e2 w2 ⟨r, rfl, hr, hb2⟩
            have hr' := Lib.hid hr
            have b3 := Lib.hid (hb.out.trans (hb2.mono hb.out.size)); have x3 := Lib.hid (hx2.out.later hb2)
            clear hr hb2 hcall u2 m0 m1 m2 m3 m4 m5 m6
            cases r with
            | true =>
              go_wp2_with fail
              go_roundw
              case rel =>
                refine ⟨i + 1, by omega, by go_num, Lib.hid fun t ht => ?_, x3, b3⟩
                by_cases e : t = i
                · rw [e]; exact hr'.out.1 (by first | exact rfl | trivial)
                · exact hd.out t (by omega)
              case measure => simp [intOfZ]; omega
            | false =>
              go_wp2_with fail
              go_ret
              exact ⟨false, rfl, ⟨fun h => (Bool.false_ne_true h).elim, fun h => absurd (hr'.out.2 (h.2 i hlt)) Bool.false_ne_true⟩, b3.out⟩
          · obtain rfl : i = m := by omega
            go_wp2_with fail
            go_ret
            exact ⟨true, rfl, ⟨fun _ => ⟨hs.out, hd.out⟩, fun _ => rfl⟩, hb.out⟩
      · have hd : (M != (m : Int)) = true := by rw [bne_iff_ne]; exact hM
        have hn := Lib.hid hM
        clear hM
        go_wp2_with fail
        go_ret
        refine ⟨false, rfl, ⟨fun h => (Bool.false_ne_true h).elim, fun h => absurd ?_ hn.out⟩, hbel.out⟩
        rw [hs.out.all, ← h.1.all]
    · have hd : (E != 0) = true := by rw [bne_iff_ne]; exact hE
      have hn := Lib.hid hE
      clear hE
      go_wp2_with fail
      go_ret
      exact ⟨false, rfl, ⟨fun h => (Bool.false_ne_true h).elim, fun h => absurd h.1 ((hcnt'.out.none hn.out).2.2 _)⟩, hbel.out⟩

end Go.Proofs.YtmkjebembicljaaGreat

namespace Go.Proofs.YtmkjebembicljaaGreat
open Go.RowKit Num

/-- A cell by its fields. -/
structure CellD where
  L : Nat
  K : Int
  N : NumF
  C : Int
  k : Nat
  sub : Nat → Tree

def CellR (w : World) (c : CellD) (e : Nat → Value) : Prop := CellP w c.L c.K c.N c.C c.k (fun j d0 d1 d2 => ArrP w (c.sub j) d0 d1 d2) e

/-- What a call that makes a cell tells. -/
def CellPost (c : CellD) (w : World) (e : Ending) (w' : World) : Prop := ∃ v : Nat → Value, e = .returned (.agg #[v 0, v 1, v 2, v 3, v 4, v 5, v 6]) ∧ CellR w' c v ∧ Below w.heap.size w w'

def zeroN : NumF := ⟨false, 0, fun _ => 0, 0, fun _ => 0⟩

def packT : Tree → CellD
  | .leaf => ⟨0, 0, zeroN, 0, 0, fun _ => .leaf⟩
  | .arr S n sh m L K C N k sub => if n = 0 ∧ m = 1 then ⟨orL S (L 0), K 0, N 0, C 0, k 0, sub 0⟩ else ⟨S, 2, zeroN, 0, 1, fun _ => .arr S n sh m L K C N k sub⟩

def unpackT (c : CellD) : Tree :=
  if c.K = 2 ∧ c.k = 1 then raiseT (c.sub 0) c.L else .arr c.L 0 (fun _ => 0) 1 (fun _ => c.L) (fun _ => c.K) (fun _ => c.C) (fun _ => c.N) (fun _ => c.k) (fun _ => c.sub)

theorem Box7.setAll {w : World} {B : Nat} {z0 z1 z2 z3 z4 z5 z6 : Value} (h : Box7 w B z0 z1 z2 z3 z4 z5 z6) (v0 v1 v2 v3 v4 v5 v6 : Value) :
    Box7 (((((((w.setCell ⟨B, 0, none⟩ v0).setCell ⟨B, 1, none⟩ v1).setCell ⟨B, 2, none⟩ v2).setCell ⟨B, 3, none⟩ v3).setCell ⟨B, 4, none⟩ v4).setCell ⟨B, 5, none⟩ v5).setCell ⟨B, 6, none⟩ v6) B v0 v1 v2 v3 v4 v5 v6 := by
  have ne : ∀ {j k : Nat}, j ≠ k → (⟨B, j, none⟩ : Addr) ≠ ⟨B, k, none⟩ := fun h e => h (by injection e)
  have lt : ∀ {j : Nat} {x v : Value} {w' : World}, w'.cell? ⟨B, j, none⟩ = some x → (w'.setCell ⟨B, j, none⟩ v).cell? ⟨B, j, none⟩ = some v := fun h => World.cell?_setCell_same _ _ _ h
  have sk : ∀ {j k : Nat} {x : Option Value} {v : Value} {w' : World}, j ≠ k → w'.cell? ⟨B, j, none⟩ = x → (w'.setCell ⟨B, k, none⟩ v).cell? ⟨B, j, none⟩ = x := fun hn h => (cell_set_ne (ne hn)).trans h
  refine ⟨?_, ?_, ?_, ?_, ?_, ?_, ?_, fun j => by simp only [World.frozen?_setCell]; exact h.fr j⟩
  · exact sk (by decide) (sk (by decide) (sk (by decide) (sk (by decide) (sk (by decide) (sk (by decide) (lt h.c0))))))
  · exact sk (by decide) (sk (by decide) (sk (by decide) (sk (by decide) (sk (by decide) (lt (sk (by decide) h.c1))))))
  · exact sk (by decide) (sk (by decide) (sk (by decide) (sk (by decide) (lt (sk (by decide) (sk (by decide) h.c2))))))
  · exact sk (by decide) (sk (by decide) (sk (by decide) (lt (sk (by decide) (sk (by decide) (sk (by decide) h.c3))))))
  · exact sk (by decide) (sk (by decide) (lt (sk (by decide) (sk (by decide) (sk (by decide) (sk (by decide) h.c4))))))
  · exact sk (by decide) (lt (sk (by decide) (sk (by decide) (sk (by decide) (sk (by decide) (sk (by decide) h.c5))))))
  · exact lt (sk (by decide) (sk (by decide) (sk (by decide) (sk (by decide) (sk (by decide) (sk (by decide) h.c6))))))

theorem below_setAll {w w' : World} {A B : Nat} (h : Below A w w') (hB : A ≤ B) (v0 v1 v2 v3 v4 v5 v6 : Value) :
    Below A w (((((((w'.setCell ⟨B, 0, none⟩ v0).setCell ⟨B, 1, none⟩ v1).setCell ⟨B, 2, none⟩ v2).setCell ⟨B, 3, none⟩ v3).setCell ⟨B, 4, none⟩ v4).setCell ⟨B, 5, none⟩ v5).setCell ⟨B, 6, none⟩ v6) :=
  ((((((h.setCell (p := ⟨B, 0, none⟩) hB v0).setCell (p := ⟨B, 1, none⟩) hB v1).setCell (p := ⟨B, 2, none⟩) hB v2).setCell (p := ⟨B, 3, none⟩) hB v3).setCell (p := ⟨B, 4, none⟩) hB v4).setCell (p := ⟨B, 5, none⟩) hB v5).setCell (p := ⟨B, 6, none⟩) hB v6

theorem CellP.again {w : World} {L L' : Nat} {K : Int} {N : NumF} {C : Int} {k : Nat} {R : Nat → Value → Value → Value → Prop} {e : Nat → Value} (h : CellP w L K N C k R e) (hl : IsL L') : CellP w L' K N C k R (fun i => if i = 0 then .int .u64 (L' : Nat) else e i) := by
  obtain ⟨_, _, h⟩ := h
  exact ⟨rfl, hl, h⟩

theorem Box7.aside {w : World} {B D : Nat} {v0 v1 v2 v3 v4 v5 v6 : Value} (h : Box7 w B v0 v1 v2 v3 v4 v5 v6) (hne : B ≠ D) (t : Nat) (u : Value) : Box7 (w.setCell ⟨D, t, none⟩ u) B v0 v1 v2 v3 v4 v5 v6 := by
  have ne : ∀ j, (⟨B, j, none⟩ : Addr) ≠ ⟨D, t, none⟩ := fun j e => hne (by injection e)
  exact ⟨(cell_set_ne (ne _)).trans h.c0, (cell_set_ne (ne _)).trans h.c1, (cell_set_ne (ne _)).trans h.c2, (cell_set_ne (ne _)).trans h.c3, (cell_set_ne (ne _)).trans h.c4, (cell_set_ne (ne _)).trans h.c5, (cell_set_ne (ne _)).trans h.c6, fun j => by rw [World.frozen?_setCell]; exact h.fr j⟩

theorem made7 {w w2 : World} {A : Tree} {c0 c1 c2 : Value} {S : Nat} {z0 z1 z2 z3 z4 z5 z6 : Value} (t : TypeId) (h : ArrP w A c0 c1 c2) (hS : IsL S) (b2 : Below w.heap.size w w2) (y2 : Box7 w2 (w.heap.size + 1) z0 z1 z2 z3 z4 z5 z6) (W : World)
    (hW : W = (((((((w2.setCell ⟨w.heap.size + 1, 0, none⟩ (.int .u64 S)).setCell ⟨w.heap.size + 1, 1, none⟩ (.int .i64 2)).setCell ⟨w.heap.size + 1, 2, none⟩ (.bool false)).setCell ⟨w.heap.size + 1, 3, none⟩ (.slice none 0 0)).setCell ⟨w.heap.size + 1, 4, none⟩ (.slice none 0 0)).setCell ⟨w.heap.size + 1, 5, none⟩ (.int .i64 0)).setCell ⟨w.heap.size + 1, 6, none⟩ (.slice (some ⟨w2.heap.size, 0, none⟩) 1 1)).alloc (.cells #[c0, c1, c2] t)) :
    Box7 W (w.heap.size + 1) (.int .u64 S) (.int .i64 2) (.bool false) (.slice none 0 0) (.slice none 0 0) (.int .i64 0) (.slice (some ⟨w2.heap.size, 0, none⟩) 1 1) ∧ Below w.heap.size w W ∧
    CellP W S 2 zeroN 0 1 (fun _ d0 d1 d2 => ArrP W A d0 d1 d2) (fun i => (#[.int .u64 S, .int .i64 2, .bool false, .slice none 0 0, .slice none 0 0, .int .i64 0, .slice (some ⟨w2.heap.size, 0, none⟩) 1 1] : Array Value).getD i (.bool false)) := by
  have z := y2.setAll (.int .u64 S) (.int .i64 2) (.bool false) (.slice none 0 0) (.slice none 0 0) (.int .i64 0) (.slice (some ⟨w2.heap.size, 0, none⟩) 1 1)
  have bz := below_setAll b2 (B := w.heap.size + 1) (by omega) (.int .u64 S) (.int .i64 2) (.bool false) (.slice none 0 0) (.slice none 0 0) (.int .i64 0) (.slice (some ⟨w2.heap.size, 0, none⟩) 1 1)
  have zA := z.alloc (.cells #[c0, c1, c2] t)
  have bA := bz.alloc bz.size (.cells #[c0, c1, c2] t)
  have n3 := Box3.new (w := (((((((w2.setCell ⟨w.heap.size + 1, 0, none⟩ (.int .u64 S)).setCell ⟨w.heap.size + 1, 1, none⟩ (.int .i64 2)).setCell ⟨w.heap.size + 1, 2, none⟩ (.bool false)).setCell ⟨w.heap.size + 1, 3, none⟩ (.slice none 0 0)).setCell ⟨w.heap.size + 1, 4, none⟩ (.slice none 0 0)).setCell ⟨w.heap.size + 1, 5, none⟩ (.int .i64 0)).setCell ⟨w.heap.size + 1, 6, none⟩ (.slice (some ⟨w2.heap.size, 0, none⟩) 1 1))) (B := w2.heap.size) c0 c1 c2 t (by simp)
  rw [← hW] at zA bA n3
  refine ⟨zA, bA, rfl, hS, rfl, ⟨by decide, by decide⟩, ⟨rfl, ⟨none, 0, rfl, ⟨Nat.le_refl _, by decide, by decide⟩, .inl rfl, fun j hj => absurd hj (Nat.not_lt_zero _)⟩, ⟨none, 0, rfl, ⟨Nat.le_refl _, by decide, by decide⟩, .inl rfl, fun j hj => absurd hj (Nat.not_lt_zero _)⟩⟩, rfl, ⟨by decide, by decide⟩, _, _, rfl, ⟨Nat.le_refl _, by decide, by decide⟩, .inr ⟨_, _, rfl, fun j hj => ?_⟩⟩
  obtain rfl : j = 0 := by omega
  exact ⟨c0, c1, c2, n3.c0, n3.c1, n3.c2, ArrP.below _ _ _ _ h bA⟩

set_option maxRecDepth 20000 in
set_option maxHeartbeats 4000000 in
theorem pack8_any (A : Tree) (c0 c1 c2 : Value) (w : World) (h : ArrP w A c0 c1 c2) :
    Calls Tryz.prog 9 #[.agg #[c0, c1, c2]] w (CellPost (packT A) w) := by
  obtain _ | ⟨S, n, sh, m, L, K, C, N, k, sub⟩ := A
  · exact (ArrP.leaf h).elim
  have h' := Lib.hid h
  obtain ⟨rfl, hS, ⟨ao, nc, rfl, hn, _, _⟩, co, mc, rfl, hm, hc⟩ := h
  have n1 := hn.1; have n2 := hn.2.1; have m1 := hm.1; have m2 := hm.2.1
  have hbel := (((Below.refl w.heap.size w).alloc (Nat.le_refl _) (.cells #[.int .u64 S, .slice ao n nc, .slice co m mc] 26)).alloc (by simp) (.cells #[.int .u64 0, .int .i64 0, .bool false, .slice none 0 0, .slice none 0 0, .int .i64 0, .slice none 0 0] 32))
  have hx := (Box3.new (w := w) (B := w.heap.size) (.int .u64 S) (.slice ao n nc) (.slice co m mc) 26 rfl).alloc (.cells #[.int .u64 0, .int .i64 0, .bool false, .slice none 0 0, .slice none 0 0, .int .i64 0, .slice none 0 0] 32)
  have hy := Box7.new (w := w.alloc (.cells #[.int .u64 S, .slice ao n nc, .slice co m mc] 26)) (B := w.heap.size + 1) (.int .u64 0) (.int .i64 0) (.bool false) (.slice none 0 0) (.slice none 0 0) (.int .i64 0) (.slice none 0 0) 32 (by simp)
  go_enter Tryz.func9, Tryz.ntmps9
  go_upto_region 1 with fail
  refine told_wp (fun w' => Below w.heap.size w w' ∧ Box3 w' w.heap.size (.int .u64 S) (.slice ao n nc) (.slice co m mc) ∧ Box7 w' (w.heap.size + 1) (.int .u64 0) (.int .i64 0) (.bool false) (.slice none 0 0) (.slice none 0 0) (.int .i64 0) (.slice none 0 0)) ⟨hbel, hx, hy⟩ ?_
  clear hbel hx hy
  rintro w2 ⟨b2, x2, y2⟩
  have q0 := x2.c0; have q1 := x2.c1; have q2 := x2.c2
  by_cases hnm : n = 0 ∧ m = 1
  · obtain ⟨rfl, rfl⟩ := hnm
    rcases hc with h0 | ⟨b, o, rfl, hcells⟩
    · omega
    obtain ⟨e, he, hcell⟩ := hcells 0 (by decide)
    have m0 := cell_below (he 0 (by decide)) b2
    simp only [Nat.zero_mul, Nat.add_zero] at m0
    have m1 := cell_below (he 1 (by decide)) b2
    have m2 := cell_below (he 2 (by decide)) b2
    have m3 := cell_below (he 3 (by decide)) b2
    have m4 := cell_below (he 4 (by decide)) b2
    have m5 := cell_below (he 5 (by decide)) b2
    have m6 := cell_below (he 6 (by decide)) b2
    rw [Nat.zero_mul, Nat.add_zero] at m1 m2 m3 m4 m5 m6
    have hce := Lib.hid hcell
    obtain ⟨p0, pL, p1, pK, ⟨p2, ⟨a3, c3, p3, ha, _⟩, ⟨a4, c4, p4, hb, _⟩⟩, p5, pC, io, kc, p6, hk, _⟩ := hcell
    have hv := Lib.hid (show (Value.agg #[.int .u64 (orL S (L 0) : Nat), .int .i64 (K 0), .bool (N 0).neg, .slice a3 (N 0).an c3, .slice a4 (N 0).am c4, .int .i64 (C 0), .slice io (k 0) kc]) = .agg #[.int .u64 (orL S (L 0) : Nat), e 1, e 2, e 3, e 4, e 5, e 6] from by rw [p1, p2, p3, p4, p5, p6])
    rw [p0] at m0; rw [p1] at m1; rw [p2] at m2; rw [p3] at m3; rw [p4] at m4; rw [p5] at m5; rw [p6] at m6
    clear hcells he p0 p1 p2 p3 p4 p5 p6 ha hb
    have hk1 := hk.1; have hk2 := hk.2.1
    have hb3 := b2.alloc b2.size (.cells #[.int .u64 (L 0 : Nat), .int .i64 (K 0), .bool (N 0).neg, .slice a3 (N 0).an c3, .slice a4 (N 0).am c4, .int .i64 (C 0), .slice io (k 0) kc] 32)
    have hx3 := x2.alloc (.cells #[.int .u64 (L 0 : Nat), .int .i64 (K 0), .bool (N 0).neg, .slice a3 (N 0).an c3, .slice a4 (N 0).am c4, .int .i64 (C 0), .slice io (k 0) kc] 32)
    have hy3 := y2.alloc (.cells #[.int .u64 (L 0 : Nat), .int .i64 (K 0), .bool (N 0).neg, .slice a3 (N 0).an c3, .slice a4 (N 0).am c4, .int .i64 (C 0), .slice io (k 0) kc] 32)
    have hz3 := Box7.new (w := w2) (B := w2.heap.size) (.int .u64 (L 0 : Nat)) (.int .i64 (K 0)) (.bool (N 0).neg) (.slice a3 (N 0).an c3) (.slice a4 (N 0).am c4) (.int .i64 (C 0)) (.slice io (k 0) kc) 32 rfl
    have hD := Lib.hid y2.lt
    have hL0 := Lib.hid pL
    clear b2 x2 y2 pL hk pK pC
    have H := Lib.hid (And.intro hb3 (And.intro hx3 (And.intro hy3 hz3)))
    clear hb3 hx3 hy3 hz3
    go_upto_region 3 with fail
    refine told_wp (fun w' => Below w.heap.size w w' ∧ Box3 w' w.heap.size (.int .u64 S) (.slice ao 0 nc) (.slice (some ⟨b, o, none⟩) 1 mc) ∧ Box7 w' (w.heap.size + 1) (.int .u64 0) (.int .i64 0) (.bool false) (.slice none 0 0) (.slice none 0 0) (.int .i64 0) (.slice none 0 0) ∧ Box7 w' w2.heap.size (.int .u64 (L 0 : Nat)) (.int .i64 (K 0)) (.bool (N 0).neg) (.slice a3 (N 0).an c3) (.slice a4 (N 0).am c4) (.int .i64 (C 0)) (.slice io (k 0) kc)) H.out ?_
    clear H m0 m1 m2 m3 m4 m5 m6 q0 q1 q2
    obtain ⟨D, hDe⟩ : ∃ D, D = w2.heap.size := ⟨_, rfl⟩
    rw [← hDe] at hD
    rw [← hDe]
    clear hDe
    rintro w3 ⟨b3, x3, y3, z3⟩
    have q0 := x3.c0
    have m0 := z3.c0; have fz := z3.fr 0
    have b4 := b3.setCell (p := ⟨D, 0, none⟩) (show w.heap.size ≤ D by have := hD.out; omega) (.int .u64 (orL S (L 0) : Nat))
    have y4 : Box7 (w3.setCell ⟨D, 0, none⟩ (.int .u64 (orL S (L 0) : Nat))) (w.heap.size + 1) (.int .u64 0) (.int .i64 0) (.bool false) (.slice none 0 0) (.slice none 0 0) (.int .i64 0) (.slice none 0 0) := y3.aside (by have := hD.out; omega) 0 _
    have z4 := z3.set0 (.int .u64 (orL S (L 0) : Nat))
    have H := Lib.hid (And.intro b4 (And.intro y4 z4))
    clear b3 x3 y3 z3 b4 y4 z4
    go_wp2_with fail
    refine (join01_any S (L 0) hS hL0.out w3).mono ?_
    rintro e' w1 ⟨rfl, rfl⟩
    go_upto_region 4 with fail
    refine told_wp (fun w' => Below w.heap.size w w' ∧ Box7 w' (w.heap.size + 1) (.int .u64 0) (.int .i64 0) (.bool false) (.slice none 0 0) (.slice none 0 0) (.int .i64 0) (.slice none 0 0) ∧ Box7 w' D (.int .u64 (orL S (L 0) : Nat)) (.int .i64 (K 0)) (.bool (N 0).neg) (.slice a3 (N 0).an c3) (.slice a4 (N 0).am c4) (.int .i64 (C 0)) (.slice io (k 0) kc)) H.out ?_
    clear H q0 m0 fz
    rintro w4 ⟨b4, y4, z4⟩
    have m0 := z4.c0; have m1 := z4.c1; have m2 := z4.c2; have m3 := z4.c3; have m4 := z4.c4; have m5 := z4.c5; have m6 := z4.c6
    have f0 := y4.fr 0; have f1 := y4.fr 1; have f2 := y4.fr 2; have f3 := y4.fr 3; have f4 := y4.fr 4; have f5 := y4.fr 5; have f6 := y4.fr 6
    have d0 := y4.c0; have d1 := y4.c1; have d2 := y4.c2; have d3 := y4.c3; have d4 := y4.c4; have d5 := y4.c5; have d6 := y4.c6
    have z5 := y4.setAll (.int .u64 (orL S (L 0) : Nat)) (.int .i64 (K 0)) (.bool (N 0).neg) (.slice a3 (N 0).an c3) (.slice a4 (N 0).am c4) (.int .i64 (C 0)) (.slice io (k 0) kc)
    have b5 := Lib.hid (below_setAll b4 (B := w.heap.size + 1) (by omega) (.int .u64 (orL S (L 0) : Nat)) (.int .i64 (K 0)) (.bool (N 0).neg) (.slice a3 (N 0).an c3) (.slice a4 (N 0).am c4) (.int .i64 (C 0)) (.slice io (k 0) kc))
    have g0 := z5.c0; have g1 := z5.c1; have g2 := z5.c2; have g3 := z5.c3; have g4 := z5.c4; have g5 := z5.c5; have g6 := z5.c6
    clear b4 y4 z4 z5
    go_wp2_with fail
    refine bodyPost_ret (v := .agg #[.int .u64 (orL S (L 0) : Nat), .int .i64 (K 0), .bool (N 0).neg, .slice a3 (N 0).an c3, .slice a4 (N 0).am c4, .int .i64 (C 0), .slice io (k 0) kc]) (by simp [results, Tryz.results9, go_sem, g0, g1, g2, g3, g4, g5, g6]) rfl ?_
    refine ⟨fun i => if i = 0 then .int .u64 (orL S (L 0) : Nat) else e i, by rw [hv.out]; rfl, ?_, b5.out⟩
    have hc2 := (hce.out.below b5.out (Q := fun j d0 d1 d2 => ArrP _ (sub 0 j) d0 d1 d2) fun j d0 d1 d2 _ hd => ArrP.below _ _ _ _ hd b5.out)
    have hpk : packT (.arr S 0 sh 1 L K C N k sub) = ⟨orL S (L 0), K 0, N 0, C 0, k 0, sub 0⟩ := by simp [packT]
    rw [hpk]
    exact hc2.again (orL_is hS hL0.out)
  · have hmade := Lib.hid (made7 26 h'.out hS b2 y2 _ rfl)
    have hpk : packT (.arr S n sh m L K C N k sub) = ⟨S, 2, zeroN, 0, 1, fun _ => .arr S n sh m L K C N k sub⟩ := if_neg hnm
    have f0 := y2.fr 0; have f1 := y2.fr 1; have f2 := y2.fr 2; have f3 := y2.fr 3; have f4 := y2.fr 4; have f5 := y2.fr 5; have f6 := y2.fr 6
    have d0 := y2.c0; have d1 := y2.c1; have d2 := y2.c2; have d3 := y2.c3; have d4 := y2.c4; have d5 := y2.c5; have d6 := y2.c6
    have hsz : w.heap.size + 1 < w2.heap.size := y2.lt
    have g0 := hmade.out.1.c0; have g1 := hmade.out.1.c1; have g2 := hmade.out.1.c2; have g3 := hmade.out.1.c3; have g4 := hmade.out.1.c4; have g5 := hmade.out.1.c5; have g6 := hmade.out.1.c6
    clear b2 x2 y2
    by_cases hn0 : n = 0
    · subst hn0
      have hm1 : ((m : Int) == 1) = false := by rw [beq_eq_false_iff_ne]; intro e; exact hnm ⟨rfl, by omega⟩
      clear hnm
      go_wp2_with fail
      refine bodyPost_ret (v := .agg #[.int .u64 S, .int .i64 2, .bool false, .slice none 0 0, .slice none 0 0, .int .i64 0, .slice (some ⟨w2.heap.size, 0, none⟩) 1 1]) (by simp [results, Tryz.results9, go_sem, g0, g1, g2, g3, g4, g5, g6]) rfl ?_
      rw [hpk]
      exact ⟨_, rfl, hmade.out.2.2, hmade.out.2.1⟩
    · have hn1 : ((n : Int) == 0) = false := by rw [beq_eq_false_iff_ne]; omega
      clear hnm hn0
      go_wp2_with fail
      refine bodyPost_ret (v := .agg #[.int .u64 S, .int .i64 2, .bool false, .slice none 0 0, .slice none 0 0, .int .i64 0, .slice (some ⟨w2.heap.size, 0, none⟩) 1 1]) (by simp [results, Tryz.results9, go_sem, g0, g1, g2, g3, g4, g5, g6]) rfl ?_
      rw [hpk]
      exact ⟨_, rfl, hmade.out.2.2, hmade.out.2.1⟩

theorem madeU {w w2 : World} {L : Nat} {K : Int} {N : NumF} {C : Int} {k : Nat} {sub : Nat → Tree} {e : Nat → Value} {z0 z1 z2 : Value} (t : TypeId) (h : CellR w ⟨L, K, N, C, k, sub⟩ e) (hL : IsL L) (b2 : Below w.heap.size w w2) (y2 : Box3 w2 (w.heap.size + 1) z0 z1 z2)
    (v0 v1 v2 v3 v4 v5 v6 : Value) (hv : (Value.agg #[v0, v1, v2, v3, v4, v5, v6]) = .agg #[e 0, e 1, e 2, e 3, e 4, e 5, e 6]) (W : World)
    (hW : W = (((w2.setCell ⟨w.heap.size + 1, 0, none⟩ (.int .u64 L)).setCell ⟨w.heap.size + 1, 1, none⟩ (.slice none 0 0)).setCell ⟨w.heap.size + 1, 2, none⟩ (.slice (some ⟨w2.heap.size, 0, none⟩) 1 1)).alloc (.cells #[v0, v1, v2, v3, v4, v5, v6] t)) :
    Box3 W (w.heap.size + 1) (.int .u64 L) (.slice none 0 0) (.slice (some ⟨w2.heap.size, 0, none⟩) 1 1) ∧ Below w.heap.size w W ∧
    ArrP W (.arr L 0 (fun _ => 0) 1 (fun _ => L) (fun _ => K) (fun _ => C) (fun _ => N) (fun _ => k) (fun _ => sub)) (.int .u64 L) (.slice none 0 0) (.slice (some ⟨w2.heap.size, 0, none⟩) 1 1) := by
  have z := y2.set (.int .u64 L) (.slice none 0 0) (.slice (some ⟨w2.heap.size, 0, none⟩) 1 1)
  have bz := below_set3 b2 (B := w.heap.size + 1) (by omega) (.int .u64 L) (.slice none 0 0) (.slice (some ⟨w2.heap.size, 0, none⟩) 1 1)
  have zA := z.alloc (.cells #[v0, v1, v2, v3, v4, v5, v6] t)
  have bA := bz.alloc bz.size (.cells #[v0, v1, v2, v3, v4, v5, v6] t)
  have n7 := Box7.new (w := (((w2.setCell ⟨w.heap.size + 1, 0, none⟩ (.int .u64 L)).setCell ⟨w.heap.size + 1, 1, none⟩ (.slice none 0 0)).setCell ⟨w.heap.size + 1, 2, none⟩ (.slice (some ⟨w2.heap.size, 0, none⟩) 1 1))) (B := w2.heap.size) v0 v1 v2 v3 v4 v5 v6 t (by simp)
  rw [← hW] at zA bA n7
  simp only [Value.agg.injEq, Array.mk.injEq, List.cons.injEq, and_true] at hv
  obtain ⟨rfl, rfl, rfl, rfl, rfl, rfl, rfl⟩ := hv
  refine ⟨zA, bA, rfl, hL, ⟨none, 0, rfl, ⟨Nat.le_refl _, by decide, by decide⟩, .inl rfl, fun j hj => absurd hj (Nat.not_lt_zero _)⟩, _, _, rfl, ⟨Nat.le_refl _, by decide, by decide⟩, .inr ⟨_, _, rfl, fun i hi => ?_⟩⟩
  obtain rfl : i = 0 := by omega
  refine ⟨e, fun t ht => ?_, h.below bA fun j d0 d1 d2 _ hd => ArrP.below _ _ _ _ hd bA⟩
  rcases t with _ | _ | _ | _ | _ | _ | _ | t
  · exact n7.c0
  · exact n7.c1
  · exact n7.c2
  · exact n7.c3
  · exact n7.c4
  · exact n7.c5
  · exact n7.c6
  · omega

set_option maxRecDepth 20000 in
set_option maxHeartbeats 4000000 in
theorem unpack8_any (c : CellD) (e : Nat → Value) (w : World) (h : CellR w c e) :
    Calls Tryz.prog 11 #[.agg #[e 0, e 1, e 2, e 3, e 4, e 5, e 6]] w (TreePost (unpackT c) w) := by
  obtain ⟨L, K, N, C, k, sub⟩ := c
  have h' := Lib.hid h
  obtain ⟨p0, pL, p1, pK, ⟨p2, ⟨a3, c3, p3, ha, _⟩, ⟨a4, c4, p4, hb, _⟩⟩, p5, pC, io, kc, p6, hk, hrow⟩ := h
  have hk1 := hk.1; have hk2 := hk.2.1; have hrow' : Hid (RowP w io k fun j d0 d1 d2 => ArrP w (sub j) d0 d1 d2) := Lib.hid hrow
  have hv := Lib.hid (show (Value.agg #[.int .u64 L, .int .i64 K, .bool N.neg, .slice a3 N.an c3, .slice a4 N.am c4, .int .i64 C, .slice io k kc]) = .agg #[e 0, e 1, e 2, e 3, e 4, e 5, e 6] from by rw [p0, p1, p2, p3, p4, p5, p6])
  have hp := Lib.hid (And.intro p0 (And.intro p1 (And.intro p2 (And.intro p3 (And.intro p4 (And.intro p5 p6))))))
  rw [p0, p1, p2, p3, p4, p5, p6]
  clear p0 p1 p2 p3 p4 p5 p6 ha hb pK pC hk hrow
  have hbel := (((Below.refl w.heap.size w).alloc (Nat.le_refl _) (.cells #[.int .u64 L, .int .i64 K, .bool N.neg, .slice a3 N.an c3, .slice a4 N.am c4, .int .i64 C, .slice io k kc] 32)).alloc (by simp) (.cells #[.int .u64 0, .slice none 0 0, .slice none 0 0] 26))
  have hx := (Box7.new (w := w) (B := w.heap.size) (.int .u64 L) (.int .i64 K) (.bool N.neg) (.slice a3 N.an c3) (.slice a4 N.am c4) (.int .i64 C) (.slice io k kc) 32 rfl).alloc (.cells #[.int .u64 0, .slice none 0 0, .slice none 0 0] 26)
  have hy := Box3.new (w := w.alloc (.cells #[.int .u64 L, .int .i64 K, .bool N.neg, .slice a3 N.an c3, .slice a4 N.am c4, .int .i64 C, .slice io k kc] 32)) (B := w.heap.size + 1) (.int .u64 0) (.slice none 0 0) (.slice none 0 0) 26 (by simp)
  go_enter Tryz.func11, Tryz.ntmps11
  go_upto_region 1 with fail
  refine told_wp (fun w' => Below w.heap.size w w' ∧ Box7 w' w.heap.size (.int .u64 L) (.int .i64 K) (.bool N.neg) (.slice a3 N.an c3) (.slice a4 N.am c4) (.int .i64 C) (.slice io k kc) ∧ Box3 w' (w.heap.size + 1) (.int .u64 0) (.slice none 0 0) (.slice none 0 0)) ⟨hbel, hx, hy⟩ ?_
  clear hbel hx hy
  rintro w2 ⟨b2, x2, y2⟩
  have q1 := x2.c1; have q6 := x2.c6
  by_cases hKk : K = 2 ∧ k = 1
  · obtain ⟨rfl, rfl⟩ := hKk
    rcases hrow'.out with h0 | ⟨b, o, rfl, hrows⟩
    · omega
    obtain ⟨u0, u1, u2, r0, r1, r2, r3⟩ := hrows 0 (by decide)
    obtain ⟨S, u0e, hS, hA⟩ := r3.raise pL
    obtain ⟨S', n, nc, m, mc, ao, co, e0, e1, e2⟩ := (ArrP.within _ _ _ _ r3).form
    subst e0; subst e1; subst e2
    obtain rfl : S' = S := by injection u0e with _ e; omega
    rw [Nat.zero_mul, Nat.add_zero] at r0 r1 r2
    have s0 := cell_below r0 b2; have s1 := cell_below r1 b2; have s2 := cell_below r2 b2
    have hA' := Lib.hid hA
    clear r0 r1 r2 r3 hrows u0e hA
    have q0 := x2.c0
    have H := Lib.hid (And.intro b2 (And.intro x2 y2))
    have hup := Lib.hid (show unpackT ⟨L, 2, N, C, 1, sub⟩ = raiseT (sub 0) L from by simp [unpackT])
    go_upto_region 2 with fail
    clear q1 b2 x2 y2
    have yd : Box3 w2.drew (w.heap.size + 1) (.int .u64 0) (.slice none 0 0) (.slice none 0 0) := H.out.2.2.drew
    go_region_with (go_at_call 34; refine (raise8_any S' L ao co n nc m mc _ hS pL).mono ?_; rintro e' w3 ⟨rfl, hb3⟩; have y3 := yd.later hb3; have f0 := y3.fr 0; have f1 := y3.fr 1; have f2 := y3.fr 2; have d0 := y3.c0; have d1 := y3.c1; have d2 := y3.c2)
    all_goals
      have z := y3.set (.int .u64 (orL S' L : Nat)) (.slice ao n nc) (.slice co m mc)
      have g0 := z.c0; have g1 := z.c1; have g2 := z.c2
      have bd := H.out.1.drew
      have bw := Lib.hid (below_set3 (bd.trans (hb3.mono bd.size)) (B := w.heap.size + 1) (by omega) (.int .u64 (orL S' L : Nat)) (.slice ao n nc) (.slice co m mc))
      clear z y3 yd hb3 bd f0 f1 f2 d0 d1 d2 s0 s1 s2 q0 q6
      go_wp2_with fail
      refine bodyPost_ret (v := .agg #[.int .u64 (orL S' L : Nat), .slice ao n nc, .slice co m mc]) (by simp [results, Tryz.results11, go_sem, g0, g1, g2]) rfl ?_
      rw [hup.out]
      exact ⟨_, _, _, rfl, ArrP.below _ _ _ _ hA'.out bw.out, bw.out⟩
  · have q0 := x2.c0; have q2 := x2.c2; have q3 := x2.c3; have q4 := x2.c4; have q5 := x2.c5
    have hup := Lib.hid (show unpackT ⟨L, K, N, C, k, sub⟩ = .arr L 0 (fun _ => 0) 1 (fun _ => L) (fun _ => K) (fun _ => C) (fun _ => N) (fun _ => k) (fun _ => sub) from if_neg hKk)
    have hmade := Lib.hid (madeU 32 h'.out pL b2 y2 (.int .u64 L) (.int .i64 K) (.bool N.neg) (.slice a3 N.an c3) (.slice a4 N.am c4) (.int .i64 C) (.slice io k kc) hv.out _ rfl)
    have f0 := y2.fr 0; have f1 := y2.fr 1; have f2 := y2.fr 2
    have d0 := y2.c0; have d1 := y2.c1; have d2 := y2.c2
    have hsz : w.heap.size + 1 < w2.heap.size := y2.lt
    have g0 := hmade.out.1.c0; have g1 := hmade.out.1.c1; have g2 := hmade.out.1.c2
    clear b2 x2 y2
    by_cases hK : K = 2
    · subst hK
      have hk1 : ((k : Int) == 1) = false := by rw [beq_eq_false_iff_ne]; intro e; exact hKk ⟨rfl, by omega⟩
      clear hKk
      go_wp2_with fail
      refine bodyPost_ret (v := .agg #[.int .u64 L, .slice none 0 0, .slice (some ⟨w2.heap.size, 0, none⟩) 1 1]) (by simp [results, Tryz.results11, go_sem, g0, g1, g2]) rfl ?_
      rw [hup.out]
      exact ⟨_, _, _, rfl, hmade.out.2.2, hmade.out.2.1⟩
    · have hK1 : (K == 2) = false := by rw [beq_eq_false_iff_ne]; exact hK
      clear hKk hK
      go_wp2_with fail
      refine bodyPost_ret (v := .agg #[.int .u64 L, .slice none 0 0, .slice (some ⟨w2.heap.size, 0, none⟩) 1 1]) (by simp [results, Tryz.results11, go_sem, g0, g1, g2]) rfl ?_
      rw [hup.out]
      exact ⟨_, _, _, rfl, hmade.out.2.2, hmade.out.2.1⟩

end Go.Proofs.YtmkjebembicljaaGreat

namespace Go.Proofs.YtmkjebembicljaaGreat
open Go.RowKit Num Go.ChangeShapes

section
variable {H : Type} {enc : TypeId × Value → H} {P : Program} {W : World}

theorem weights_all {e : TypeId} {y : DataW H} : ∀ {ds : List (DataW H)}, y ∈ ds → ∀ k ∈ y.weights P e, k ∈ DataW.weightsAll P e ds
  | d :: r, h, k, hk => by
    simp only [DataW.weightsAll, List.mem_append]
    rcases List.mem_cons.1 h with rfl | h
    · exact .inl hk
    · exact .inr (weights_all h k hk)

/-- What a slice that came in is: its elements, each read in its turn. -/
theorem row_open {t e : TypeId} {sz fuel : Nat} {c : Value} {x : DataW H × List MemPlace} (ht : P.underlying t = some (.slice e)) (hc : P.cellsOf e = sz) (hs : 0 < sz) (hb : 0 < P.bytesOf e)
    (h : DataW.trod enc P W 0 (fun _ => true) true fuel t [c] = some x) (hw : ∀ k ∈ x.1.weights P t, k ≤ reachBytes) :
    ∃ ao n nc, c = .slice ao n nc ∧ IsN n nc ∧ (n = 0 ∨ ∃ b o, ao = some ⟨b, o, none⟩ ∧ ∀ i, i < n → ∃ m cs y, m < fuel ∧ cs.length = sz ∧ (∀ j, j < sz → W.cell? ⟨b, o + i * sz + j, none⟩ = cs[j]?) ∧
      DataW.trod enc P W 0 (fun _ => true) true m e cs = some y ∧ ∀ k ∈ y.1.weights P e, k ≤ reachBytes) := by
  rcases DataW.trod_slice ht h with ⟨h0, _⟩ | ⟨a, len, cap, elems, rest, n, hf, h1, rfl, _, hl, hm, hlen, hel, hsp, _⟩
  · obtain rfl : c = .slice none 0 0 := by simpa using h0
    exact ⟨none, 0, 0, rfl, ⟨Nat.le_refl _, by decide, by decide⟩, .inl rfl⟩
  · obtain rfl : c = .slice (some a) len cap := by simpa using h1
    obtain ⟨hrl, _⟩ := hsp rfl
    have hwt : (elems.length + rest.length) * P.bytesOf e ≤ reachBytes := hw _ (by simp [DataW.weights, ht])
    have hcap : cap ≤ reachBytes := by
      rw [hlen, hrl, show len + (cap - len) = cap by omega] at hwt
      exact Nat.le_trans (Nat.le_mul_of_pos_right _ hb) hwt
    have hr : reachBytes < 140737488355328 := reachBytes_lt
    refine ⟨some a, len, cap, rfl, ⟨hl, by unfold maxLen at hm; omega, by omega⟩, ?_⟩
    by_cases h0 : len = 0
    · exact .inl h0
    have each : ∀ i, i < len → ∃ cs y, y ∈ elems ∧ cs.length = sz ∧ (∀ j, j < sz → W.cell? ((a.add (i * sz)).add j) = cs[j]?) ∧ DataW.trod enc P W 0 (fun _ => true) true n e cs = some y := by
      intro i hi
      have h2 := hel i hi
      have hi' : i < elems.length := by omega
      rw [List.getElem?_eq_getElem hi', hc, Option.bind_eq_some_iff] at h2
      obtain ⟨cs, hcs, hy⟩ := h2
      obtain ⟨_, q1, q2⟩ := World.cells?_some hcs
      exact ⟨cs, _, List.getElem_mem hi', q1, q2, hy⟩
    obtain ⟨b, o, spot⟩ := a
    have hspot : spot = none := by
      obtain ⟨cs, y, _, q1, q2, _⟩ := each 0 (by omega)
      have q3 := q2 0 hs
      rw [List.getElem?_eq_getElem (by omega)] at q3
      simpa [Addr.add] using World.cell?_spot q3
    subst hspot
    refine .inr ⟨b, o, rfl, fun i hi => ?_⟩
    obtain ⟨cs, y, hm, q1, q2, q3⟩ := each i hi
    refine ⟨n, cs, y, by omega, q1, fun j hj => by rw [← q2 j hj, Go.WideShapes.add_plain, Go.WideShapes.add_plain], q3, fun k hk => hw k ?_⟩
    simp only [DataW.weights, ht, List.mem_cons, List.mem_append]
    exact .inr (.inl (weights_all (List.mem_map_of_mem hm) k hk))

/-- Of each below n there is one: all at once. -/
theorem pick {α : Type} (d : α) {n : Nat} {p : Nat → α → Prop} (h : ∀ i, i < n → ∃ a, p i a) : ∃ f : Nat → α, ∀ i, i < n → p i (f i) := by
  refine ⟨fun i => if hi : i < n then Classical.choose (h i hi) else d, fun i hi => ?_⟩
  show p i (if hi : i < n then Classical.choose (h i hi) else d)
  rw [dif_pos hi]
  exact Classical.choose_spec (h i hi)

theorem weights_agg {t : TypeId} {fs : Array Field} {parts : List (DataW H)} (ht : P.underlying t = some (.struct fs)) (hw : ∀ k ∈ (DataW.agg parts).weights P t, k ≤ reachBytes) {j : Nat} {f : Field} {d : DataW H} (hf : fs[j]? = some f) (hd : parts[j]? = some d) : ∀ k ∈ d.weights P f.type, k ≤ reachBytes := by
  intro k hk
  refine hw k ?_
  simp only [DataW.weights, ht]
  exact DataW.weights_mem_each (j := j) (by simp [hf]) hd k hk

theorem struct_open {t : TypeId} {fs : Array Field} {fuel : Nat} {cs : List Value} {x : DataW H × List MemPlace} (ht : P.underlying t = some (.struct fs)) (h : DataW.trod enc P W 0 (fun _ => true) true fuel t cs = some x) (hw : ∀ k ∈ x.1.weights P t, k ≤ reachBytes) :
    ∃ n, n < fuel ∧ cs.length = P.cellsOf t ∧ ∀ (i : Nat) (f : Field), fs[i]? = some f → ∃ y, DataW.trod enc P W 0 (fun _ => true) true n f.type ((cs.drop f.offset).take (P.cellsOf f.type)) = some y ∧ ∀ k ∈ y.1.weights P f.type, k ≤ reachBytes := by
  obtain ⟨xs, n, hf, rfl, hl, hlen, hx⟩ := DataW.trod_struct ht h
  refine ⟨n, by omega, hl, fun i f hi => ?_⟩
  have hi' : i < xs.length := by rw [hlen]; exact (Array.getElem?_eq_some_iff.1 hi).1
  have h1 := hx i f hi
  rw [List.getElem?_eq_getElem hi'] at h1
  exact ⟨_, h1, weights_agg ht hw hi (by rw [List.getElem?_map, List.getElem?_eq_getElem hi']; rfl)⟩
end

variable {H : Type} {enc : TypeId × Value → H} {W : World}

theorem ints_in {fuel : Nat} {c : Value} {x : DataW H × List MemPlace} (h : DataW.trod enc Tryz.prog W 0 (fun _ => true) true fuel 23 [c] = some x) (hw : ∀ k ∈ x.1.weights Tryz.prog 23, k ≤ reachBytes) :
    ∃ ao n nc, c = .slice ao n nc ∧ IsN n nc ∧ ∃ f : Nat → Int, SlZ W ao n f ∧ ∀ j, j < n → IsZ (f j) := by
  obtain ⟨ao, n, nc, rfl, hn, hr⟩ := row_open Tryz.underlying23 (show Tryz.prog.cellsOf 3 = 1 by kernel_rfl) (by decide) (show 0 < Tryz.prog.bytesOf 3 from of_decide_eq_true (by kernel_rfl)) h hw
  refine ⟨ao, n, nc, rfl, hn, ?_⟩
  rcases hr with h0 | ⟨b, o, rfl, hr⟩
  · exact ⟨fun _ => 0, .inl h0, fun j hj => by omega⟩
  · obtain ⟨f, hf⟩ := pick (0 : Int) (p := fun i v => W.cell? ⟨b, o + i, none⟩ = some (.int .i64 v) ∧ IsZ v) fun i hi => by
      obtain ⟨m, cs, y, _, _, q2, q3, _⟩ := hr i hi
      obtain ⟨v, rfl, rfl, hv⟩ := DataW.trod_int Tryz.underlying3 q3
      have q4 := q2 0 (by decide)
      exact ⟨v, by simpa using q4, bounds_i64 hv⟩
    exact ⟨f, .inr ⟨b, o, rfl, fun j hj => (hf j hj).1⟩, fun j hj => (hf j hj).2⟩

theorem limbs_in {fuel : Nat} {c : Value} {x : DataW H × List MemPlace} (h : DataW.trod enc Tryz.prog W 0 (fun _ => true) true fuel 27 [c] = some x) (hw : ∀ k ∈ x.1.weights Tryz.prog 27, k ≤ reachBytes) :
    ∃ n f ao ac, c = .slice ao n ac ∧ IsN n ac ∧ Sl W ao n f ∧ Lim f n := by
  obtain ⟨ao, n, nc, rfl, hn, hr⟩ := row_open Tryz.underlying27 (show Tryz.prog.cellsOf 79 = 1 by kernel_rfl) (by decide) (show 0 < Tryz.prog.bytesOf 79 from of_decide_eq_true (by kernel_rfl)) h hw
  rcases hr with h0 | ⟨b, o, rfl, hr⟩
  · exact ⟨n, fun _ => 0, ao, nc, rfl, hn, .inl h0, fun j hj => by omega⟩
  · obtain ⟨f, hf⟩ := pick (0 : Nat) (p := fun i v => W.cell? ⟨b, o + i, none⟩ = some (.int .u32 (v : Nat)) ∧ v < 4294967296) fun i hi => by
      obtain ⟨m, cs, y, _, _, q2, q3, _⟩ := hr i hi
      obtain ⟨v, rfl, rfl, hv⟩ := DataW.trod_int Tryz.underlying79 q3
      have q4 := q2 0 (by decide)
      have q5 := bounds_u32 hv
      exact ⟨v.toNat, by rw [Int.toNat_of_nonneg q5.1]; simpa using q4, by omega⟩
    exact ⟨n, f, _, nc, rfl, hn, .inr ⟨b, o, rfl, fun j hj => (hf j hj).1⟩, fun j hj => (hf j hj).2⟩

theorem three_of {cs : List Value} (h : cs.length = 3) : ∃ c0 c1 c2, cs = [c0, c1, c2] := by
  match cs, h with
  | [c0, c1, c2], _ => exact ⟨c0, c1, c2, rfl⟩

theorem seven_of {cs : List Value} (h : cs.length = 7) : ∃ e : Nat → Value, cs = [e 0, e 1, e 2, e 3, e 4, e 5, e 6] := by
  match cs, h with
  | [c0, c1, c2, c3, c4, c5, c6], _ => exact ⟨fun i => [c0, c1, c2, c3, c4, c5, c6].getD i c0, rfl⟩

theorem num_in {fuel : Nat} {c0 c1 c2 : Value} {x : DataW H × List MemPlace} (h : DataW.trod enc Tryz.prog W 0 (fun _ => true) true fuel 29 [c0, c1, c2] = some x) (hw : ∀ k ∈ x.1.weights Tryz.prog 29, k ≤ reachBytes) : ∃ N, NumP W N c0 c1 c2 := by
  obtain ⟨n, _, _, hf⟩ := struct_open Tryz.underlying29 h hw
  obtain ⟨y0, h0, _⟩ := hf 0 _ rfl
  obtain ⟨y1, h1, w1⟩ := hf 1 _ rfl
  obtain ⟨y2, h2, w2⟩ := hf 2 _ rfl
  have kb : Tryz.prog.cellsOf 4 = 1 := by kernel_rfl
  have ks : Tryz.prog.cellsOf 27 = 1 := by kernel_rfl
  have h0' : DataW.trod enc Tryz.prog W 0 (fun _ => true) true n 4 [c0] = some y0 := by simpa [kb] using h0
  have h1' : DataW.trod enc Tryz.prog W 0 (fun _ => true) true n 27 [c1] = some y1 := by simpa [ks] using h1
  have h2' : DataW.trod enc Tryz.prog W 0 (fun _ => true) true n 27 [c2] = some y2 := by simpa [ks] using h2
  obtain ⟨b, e0, _⟩ := DataW.trod_bool Tryz.underlying4 h0'
  obtain rfl : c0 = .bool b := by simpa using e0
  obtain ⟨an, fa, ao, ac, rfl, q1⟩ := limbs_in h1' w1
  obtain ⟨am, ga, bo, bc, rfl, q2⟩ := limbs_in h2' w2
  exact ⟨⟨b, an, fa, am, ga⟩, rfl, ⟨ao, ac, rfl, q1⟩, ⟨bo, bc, rfl, q2⟩⟩

/-- An array that came in, of a reading of this much fuel. -/
def ArrIn (enc : TypeId × Value → H) (W : World) (fuel : Nat) : Prop := ∀ (cs : List Value) (x : DataW H × List MemPlace), DataW.trod enc Tryz.prog W 0 (fun _ => true) true fuel 26 cs = some x → (∀ k ∈ x.1.weights Tryz.prog 26, k ≤ reachBytes) → ∃ (A : Tree) (c0 c1 c2 : Value), cs = [c0, c1, c2] ∧ ArrP W A c0 c1 c2

theorem cell_in {fuel : Nat} (ih : ∀ m, m < fuel → ArrIn enc W m) {cs : List Value} {x : DataW H × List MemPlace} (h : DataW.trod enc Tryz.prog W 0 (fun _ => true) true fuel 32 cs = some x) (hw : ∀ k ∈ x.1.weights Tryz.prog 32, k ≤ reachBytes) :
    ∃ (c : CellD) (e : Nat → Value), cs = [e 0, e 1, e 2, e 3, e 4, e 5, e 6] ∧ CellR W c e := by
  obtain ⟨n, hn, hl, hf⟩ := struct_open Tryz.underlying32 h hw
  have kC : Tryz.prog.cellsOf 32 = 7 := by kernel_rfl
  obtain ⟨e, rfl⟩ := seven_of (hl.trans kC)
  obtain ⟨y0, h0, _⟩ := hf 0 _ rfl
  obtain ⟨y1, h1, _⟩ := hf 1 _ rfl
  obtain ⟨y2, h2, w2⟩ := hf 2 _ rfl
  obtain ⟨y3, h3, _⟩ := hf 3 _ rfl
  obtain ⟨y4, h4, w4⟩ := hf 4 _ rfl
  have ku : Tryz.prog.cellsOf 22 = 1 := by kernel_rfl
  have ki : Tryz.prog.cellsOf 3 = 1 := by kernel_rfl
  have kN : Tryz.prog.cellsOf 29 = 3 := by kernel_rfl
  have kS : Tryz.prog.cellsOf 30 = 1 := by kernel_rfl
  have h0' : DataW.trod enc Tryz.prog W 0 (fun _ => true) true n 22 [e 0] = some y0 := by simpa [ku] using h0
  have h1' : DataW.trod enc Tryz.prog W 0 (fun _ => true) true n 3 [e 1] = some y1 := by simpa [ki] using h1
  have h2' : DataW.trod enc Tryz.prog W 0 (fun _ => true) true n 29 [e 2, e 3, e 4] = some y2 := by simpa [kN] using h2
  have h3' : DataW.trod enc Tryz.prog W 0 (fun _ => true) true n 3 [e 5] = some y3 := by simpa [ki] using h3
  have h4' : DataW.trod enc Tryz.prog W 0 (fun _ => true) true n 30 [e 6] = some y4 := by simpa [kS] using h4
  obtain ⟨v0, q0, _, r0⟩ := DataW.trod_int Tryz.underlying22 h0'
  obtain ⟨v1, q1, _, r1⟩ := DataW.trod_int Tryz.underlying3 h1'
  obtain ⟨v3, q3, _, r3⟩ := DataW.trod_int Tryz.underlying3 h3'
  obtain ⟨N, hN⟩ := num_in h2' w2
  obtain ⟨ao, k, kc, q6, hk, hr⟩ := row_open Tryz.underlying30 (show Tryz.prog.cellsOf 26 = 3 by kernel_rfl) (by decide) (show 0 < Tryz.prog.bytesOf 26 from of_decide_eq_true (by kernel_rfl)) h4' w4
  have b0 := bounds_u64 r0
  have e0 : e 0 = .int .u64 (v0.toNat : Nat) := by rw [Int.toNat_of_nonneg b0.1]; simpa using q0
  have e1 : e 1 = .int .i64 v1 := by simpa using q1
  have e5 : e 5 = .int .i64 v3 := by simpa using q3
  have hL : IsL v0.toNat := by show v0.toNat < 18446744073709551616; omega
  rcases hr with hk0 | ⟨b, o, rfl, hr⟩
  · exact ⟨⟨v0.toNat, v1, N, v3, k, fun _ => .leaf⟩, e, rfl, e0, hL, e1, bounds_i64 r1, hN, e5, bounds_i64 r3, ao, kc, q6, hk, .inl hk0⟩
  · obtain ⟨sub, hsub⟩ := pick Tree.leaf (p := fun j A => ∃ d0 d1 d2, W.cell? ⟨b, o + j * 3, none⟩ = some d0 ∧ W.cell? ⟨b, o + j * 3 + 1, none⟩ = some d1 ∧ W.cell? ⟨b, o + j * 3 + 2, none⟩ = some d2 ∧ ArrP W A d0 d1 d2) fun j hj => by
      obtain ⟨m, cs, y, hm, _, p2, p3, p4⟩ := hr j hj
      obtain ⟨A, d0, d1, d2, rfl, hA⟩ := ih m (by omega) cs y p3 p4
      exact ⟨A, d0, d1, d2, by simpa using p2 0 (by decide), by simpa using p2 1 (by decide), by simpa using p2 2 (by decide), hA⟩
    exact ⟨⟨v0.toNat, v1, N, v3, k, sub⟩, e, rfl, e0, hL, e1, bounds_i64 r1, hN, e5, bounds_i64 r3, _, kc, q6, hk, .inr ⟨b, o, rfl, hsub⟩⟩

theorem arr_in : ∀ fuel, ArrIn enc W fuel := by
  intro fuel
  induction fuel using Nat.strongRecOn with
  | ind fuel ih =>
    intro cs x h hw
    obtain ⟨n, hn, hl, hf⟩ := struct_open Tryz.underlying26 h hw
    have kA : Tryz.prog.cellsOf 26 = 3 := by kernel_rfl
    obtain ⟨c0, c1, c2, rfl⟩ := three_of (hl.trans kA)
    obtain ⟨y0, h0, _⟩ := hf 0 _ rfl
    obtain ⟨y1, h1, w1⟩ := hf 1 _ rfl
    obtain ⟨y2, h2, w2⟩ := hf 2 _ rfl
    have ku : Tryz.prog.cellsOf 22 = 1 := by kernel_rfl
    have ks : Tryz.prog.cellsOf 23 = 1 := by kernel_rfl
    have kS : Tryz.prog.cellsOf 24 = 1 := by kernel_rfl
    have h0' : DataW.trod enc Tryz.prog W 0 (fun _ => true) true n 22 [c0] = some y0 := by simpa [ku] using h0
    have h1' : DataW.trod enc Tryz.prog W 0 (fun _ => true) true n 23 [c1] = some y1 := by simpa [ks] using h1
    have h2' : DataW.trod enc Tryz.prog W 0 (fun _ => true) true n 24 [c2] = some y2 := by simpa [kS] using h2
    obtain ⟨v0, q0, _, r0⟩ := DataW.trod_int Tryz.underlying22 h0'
    obtain ⟨ao, p, nc, rfl, hp, sh, hsh, hz⟩ := ints_in h1' w1
    obtain ⟨co, m, mc, rfl, hm, hr⟩ := row_open Tryz.underlying24 (show Tryz.prog.cellsOf 32 = 7 by kernel_rfl) (by decide) (show 0 < Tryz.prog.bytesOf 32 from of_decide_eq_true (by kernel_rfl)) h2' w2
    have b0 := bounds_u64 r0
    have e0 : c0 = .int .u64 (v0.toNat : Nat) := by rw [Int.toNat_of_nonneg b0.1]; simpa using q0
    have hL : IsL v0.toNat := by show v0.toNat < 18446744073709551616; omega
    rcases hr with hm0 | ⟨b, o, rfl, hr⟩
    · exact ⟨.arr v0.toNat p sh m (fun _ => 0) (fun _ => 0) (fun _ => 0) (fun _ => zeroN) (fun _ => 0) (fun _ _ => .leaf), _, _, _, rfl, e0, hL, ⟨ao, nc, rfl, hp, hsh, hz⟩, co, mc, rfl, hm, .inl hm0⟩
    · obtain ⟨cd, hcd⟩ := pick (⟨0, 0, zeroN, 0, 0, fun _ => .leaf⟩ : CellD) (p := fun i c => ∃ e : Nat → Value, (∀ t, t < 7 → W.cell? ⟨b, o + i * 7 + t, none⟩ = some (e t)) ∧ CellR W c e) fun i hi => by
        obtain ⟨m', cs, y, hm', _, p2, p3, p4⟩ := hr i hi
        obtain ⟨c, e, rfl, hc⟩ := cell_in (fun q hq => ih q (by omega)) p3 p4
        refine ⟨c, e, fun t ht => ?_, hc⟩
        rw [p2 t ht]
        rcases t with _ | _ | _ | _ | _ | _ | _ | t
        all_goals first | rfl | omega
      exact ⟨.arr v0.toNat p sh m (fun i => (cd i).L) (fun i => (cd i).K) (fun i => (cd i).C) (fun i => (cd i).N) (fun i => (cd i).k) (fun i => (cd i).sub), _, _, _, rfl, e0, hL, ⟨ao, nc, rfl, hp, hsh, hz⟩, _, mc, rfl, hm, .inr ⟨b, o, rfl, hcd⟩⟩

end Go.Proofs.YtmkjebembicljaaGreat

namespace Go.Proofs.YtmkjebembicljaaGreat
open Go.RowKit Num

theorem flows_refl (a : Nat) : FlowsL a a := fun _ _ h => h

theorem FlowsL.trans {a b c : Nat} (h : FlowsL a b) (k : FlowsL b c) : FlowsL a c := fun i hi ha => k i hi (h i hi ha)

theorem flows_left (a b : Nat) : FlowsL a (orL a b) := fun i _ h => by rw [hasL_or, h]; rfl

theorem flows_right (a b : Nat) : FlowsL b (orL a b) := fun i _ h => by rw [hasL_or, h, Bool.or_true]

theorem flows_or {a b c : Nat} (h : FlowsL a c) (k : FlowsL b c) : FlowsL (orL a b) c := fun i hi ha => by
  rw [hasL_or, Bool.or_eq_true] at ha
  exact ha.elim (h i hi) (k i hi)

theorem orL_of_flows {a b : Nat} (ha : IsL a) (hb : IsL b) (h : FlowsL b a) : orL a b = a := by
  refine Nat.eq_of_testBit_eq fun i => ?_
  rw [← hasL_bit, ← hasL_bit, hasL_or]
  by_cases hi : i < 64
  · cases hbi : hasL b i with
    | false => rw [Bool.or_false]
    | true => rw [h i hi hbi]; rfl
  · have big : ∀ x, IsL x → hasL x i = false := fun x hx => by
      rw [hasL_bit]
      exact Nat.testBit_lt_two_pow (Nat.lt_of_lt_of_le hx (Nat.pow_le_pow_right (n := 2) (by decide) (show 64 ≤ i by omega)))
    rw [big a ha, big b hb]; rfl

theorem foldN_up {g : Nat → Nat → Nat} {s : Nat} : ∀ n, (∀ i x, i < n → FlowsL x (g i x)) → FlowsL s (foldN g s n)
  | 0, _ => flows_refl s
  | n + 1, h => (foldN_up n fun i x hi => h i x (by omega)).trans (h n _ (by omega))

theorem foldN_least {g : Nat → Nat → Nat} {s c : Nat} (hs : FlowsL s c) : ∀ n, (∀ i x, i < n → FlowsL x c → FlowsL (g i x) c) → FlowsL (foldN g s n) c
  | 0, _ => hs
  | n + 1, h => h n _ (by omega) (foldN_least hs n fun i x hi => h i x (by omega))

theorem foldN_at {g : Nat → Nat → Nat} {s : Nat} : ∀ n, (∀ i x, i < n → FlowsL x (g i x)) → ∀ i, i < n → ∃ x, FlowsL (g i x) (foldN g s n)
  | 0, _, i, hi => by omega
  | n + 1, h, i, hi => by
    by_cases e : i = n
    · subst e; exact ⟨_, flows_refl _⟩
    · obtain ⟨x, hx⟩ := foldN_at (s := s) n (fun i x hi => h i x (by omega)) i (by omega)
      exact ⟨x, hx.trans (h n _ (by omega))⟩

/-- The join of all labels is the least that all flow to. -/
theorem total_flows {S n m : Nat} {sh : Nat → Int} {L : Nat → Nat} {K C : Nat → Int} {N : Nat → NumF} {k : Nat → Nat} {sub : Nat → Nat → Tree} (c : Nat) :
    FlowsL (totalT (.arr S n sh m L K C N k sub)) c ↔ FlowsL S c ∧ ∀ i, i < m → FlowsL (L i) c ∧ ∀ j, j < k i → FlowsL (totalT (sub i j)) c := by
  have inner : ∀ i x, FlowsL (orL x (L i)) (foldN (fun j s => orL s (totalT (sub i j))) (orL x (L i)) (k i)) := fun i x => foldN_up _ fun j y _ => flows_left _ _
  have step : ∀ i x, FlowsL x (foldN (fun j s => orL s (totalT (sub i j))) (orL x (L i)) (k i)) := fun i x => (flows_left _ _).trans (inner i x)
  constructor
  · intro h
    refine ⟨(foldN_up m fun i x _ => step i x).trans h, fun i hi => ?_⟩
    obtain ⟨x, hx⟩ := foldN_at (s := S) m (fun i x _ => step i x) i hi
    refine ⟨(flows_right x (L i)).trans ((inner i x).trans (hx.trans h)), fun j hj => ?_⟩
    obtain ⟨y, hy⟩ := foldN_at (g := fun j s => orL s (totalT (sub i j))) (s := orL x (L i)) (k i) (fun j y _ => flows_left _ _) j hj
    exact (flows_right y (totalT (sub i j))).trans (hy.trans (hx.trans h))
  · rintro ⟨h1, h2⟩
    refine foldN_least h1 m fun i x hi hx => foldN_least (flows_or hx (h2 i hi).1) (k i) fun j y hj hy => flows_or hy ((h2 i hi).2 j hj)

theorem foldN_zero {g : Nat → Nat → Nat} : ∀ n, (∀ i, i < n → g i 0 = 0) → foldN g 0 n = 0
  | 0, _ => rfl
  | n + 1, h => by
    show g n (foldN g 0 n) = 0
    rw [foldN_zero n fun i hi => h i (by omega), h n (by omega)]

theorem orL_zero : orL 0 0 = 0 := rfl

theorem total_erased : ∀ A, totalT (coverT A 0 true) = 0 := by
  intro A
  induction A with
  | leaf => rfl
  | arr S n sh m L K C N k sub ih =>
    show foldN (fun i s => foldN (fun j s => orL s (totalT (coverT (sub i j) 0 true))) (orL s 0) (k i)) 0 m = 0
    refine foldN_zero m fun i _ => ?_
    rw [orL_zero]
    refine foldN_zero (k i) fun j _ => ?_
    rw [ih i j]; rfl

theorem total_covered {w : World} {A : Tree} {l : Nat} {c0 c1 c2 : Value} (h : ArrP w (coverT A l false) c0 c1 c2) (hl : IsL l) : orL (totalT (coverT A l false)) l = totalT (coverT A l false) := by
  refine orL_of_flows (total_is _ _ _ _ h) hl ?_
  obtain _ | ⟨S, n, sh, m, L, K, C, N, k, sub⟩ := A
  · exact (ArrP.leaf h).elim
  · exact (flows_right S l).trans ((total_flows (S := orL S l) (n := n) (sh := sh) (m := m) (L := fun i => labB false (L i) l) (K := K) (C := C) (N := N) (k := k) (sub := fun i j => coverT (sub i j) l false) _).1 (flows_refl _)).1

/-- No leaf in it. -/
def FullT : Tree → Prop
  | .leaf => False
  | .arr _ _ _ m _ _ _ _ k sub => ∀ i, i < m → ∀ j, j < k i → FullT (sub i j)

theorem ArrP.full {w : World} : ∀ (A : Tree) (c0 c1 c2 : Value), ArrP w A c0 c1 c2 → FullT A := by
  intro A
  induction A with
  | leaf => intro c0 c1 c2 h; exact (ArrP.leaf h).elim
  | arr S n sh m L K C N k sub ih =>
    intro c0 c1 c2 h i hi j hj
    obtain ⟨_, _, h3⟩ := arr_labels h
    obtain ⟨d0, d1, d2, r⟩ := h3 i hi j hj
    exact ih i j d0 d1 d2 r

theorem same_refl : ∀ A, FullT A → SameT A A := by
  intro A
  induction A with
  | leaf => intro h; exact h.elim
  | arr S n sh m L K C N k sub ih =>
    intro h
    exact ⟨rfl, ⟨rfl, fun _ _ => rfl⟩, rfl, fun i hi => ⟨rfl, rfl, rfl, ⟨rfl, ⟨rfl, fun _ _ => rfl⟩, rfl, fun _ _ => rfl⟩, rfl, fun j hj => ih i j (h i hi j hj)⟩⟩

theorem cover_full (l : Nat) (er : Bool) : ∀ A, FullT A → FullT (coverT A l er) := by
  intro A
  induction A with
  | leaf => intro h; exact h.elim
  | arr S n sh m L K C N k sub ih => intro h i hi j hj; exact ih i j (h i hi j hj)

/-- Unpacked, what was packed matches the array (unless it is a box alone). -/
theorem packed_match {A : Tree} (h : FullT A) (hb : ∀ S n sh m L K C N k sub, A = .arr S n sh m L K C N k sub → n = 0 → m = 1 → K 0 ≠ 2) : MatchT (unpackT (packT A)) A := by
  obtain _ | ⟨S, n, sh, m, L, K, C, N, k, sub⟩ := A
  · exact h.elim
  · by_cases hnm : n = 0 ∧ m = 1
    · obtain ⟨rfl, rfl⟩ := hnm
      have hK := hb S 0 sh 1 L K C N k sub rfl rfl rfl
      have e1 : packT (.arr S 0 sh 1 L K C N k sub) = ⟨orL S (L 0), K 0, N 0, C 0, k 0, sub 0⟩ := by simp [packT]
      have e2 : unpackT ⟨orL S (L 0), K 0, N 0, C 0, k 0, sub 0⟩ = .arr (orL S (L 0)) 0 (fun _ => 0) 1 (fun _ => orL S (L 0)) (fun _ => K 0) (fun _ => C 0) (fun _ => N 0) (fun _ => k 0) (fun _ => sub 0) := if_neg fun e => hK e.1
      rw [e1, e2]
      refine ⟨rfl, ⟨rfl, fun j hj => absurd hj (Nat.not_lt_zero j)⟩, rfl, fun i hi => ?_⟩
      obtain rfl : i = 0 := by omega
      exact ⟨rfl, rfl, rfl, ⟨rfl, ⟨rfl, fun _ _ => rfl⟩, rfl, fun _ _ => rfl⟩, rfl, fun j hj => same_refl _ (cover_full 0 true _ (h 0 hi j hj))⟩
    · have e1 : packT (.arr S n sh m L K C N k sub) = ⟨S, 2, zeroN, 0, 1, fun _ => .arr S n sh m L K C N k sub⟩ := if_neg hnm
      have e2 : unpackT ⟨S, 2, zeroN, 0, 1, fun _ => .arr S n sh m L K C N k sub⟩ = raiseT (.arr S n sh m L K C N k sub) S := if_pos ⟨rfl, rfl⟩
      rw [e1, e2]
      exact same_refl _ (cover_full 0 true (.arr S n sh m L K C N k sub) h)

/-- No label has got lower. -/
theorem packed_flows {A : Tree} (h : FullT A) (hb : ∀ S n sh m L K C N k sub, A = .arr S n sh m L K C N k sub → n = 0 → m = 1 → K 0 ≠ 2) : FlowsL (totalT A) (totalT (unpackT (packT A))) ∧ ∀ S n sh m L K C N k sub S' n' sh' m' L' K' C' N' k' sub', A = .arr S n sh m L K C N k sub → unpackT (packT A) = .arr S' n' sh' m' L' K' C' N' k' sub' → FlowsL S S' := by
  obtain _ | ⟨S, n, sh, m, L, K, C, N, k, sub⟩ := A
  · exact h.elim
  · by_cases hnm : n = 0 ∧ m = 1
    · obtain ⟨rfl, rfl⟩ := hnm
      have hK := hb S 0 sh 1 L K C N k sub rfl rfl rfl
      have e1 : packT (.arr S 0 sh 1 L K C N k sub) = ⟨orL S (L 0), K 0, N 0, C 0, k 0, sub 0⟩ := by simp [packT]
      have e2 : unpackT ⟨orL S (L 0), K 0, N 0, C 0, k 0, sub 0⟩ = .arr (orL S (L 0)) 0 (fun _ => 0) 1 (fun _ => orL S (L 0)) (fun _ => K 0) (fun _ => C 0) (fun _ => N 0) (fun _ => k 0) (fun _ => sub 0) := if_neg fun e => hK e.1
      rw [e1, e2]
      have g := (total_flows (S := orL S (L 0)) (n := 0) (sh := fun _ => 0) (m := 1) (L := fun _ => orL S (L 0)) (K := fun _ => K 0) (C := fun _ => C 0) (N := fun _ => N 0) (k := fun _ => k 0) (sub := fun _ => sub 0) _).1 (flows_refl _)
      refine ⟨(total_flows _).2 ⟨(flows_left S (L 0)).trans g.1, fun i hi => ?_⟩, ?_⟩
      · obtain rfl : i = 0 := by omega
        exact ⟨(flows_right S (L 0)).trans g.1, fun j hj => (g.2 0 hi).2 j hj⟩
      · rintro _ _ _ _ _ _ _ _ _ _ _ _ _ _ _ _ _ _ _ _ e f
        cases e; cases f
        exact flows_left S (L 0)
    · have e1 : packT (.arr S n sh m L K C N k sub) = ⟨S, 2, zeroN, 0, 1, fun _ => .arr S n sh m L K C N k sub⟩ := if_neg hnm
      have e2 : unpackT ⟨S, 2, zeroN, 0, 1, fun _ => .arr S n sh m L K C N k sub⟩ = raiseT (.arr S n sh m L K C N k sub) S := if_pos ⟨rfl, rfl⟩
      rw [e1, e2]
      have g := (total_flows (S := orL S S) (n := n) (sh := sh) (m := m) (L := L) (K := K) (C := C) (N := N) (k := k) (sub := sub) _).1 (flows_refl _)
      refine ⟨(total_flows _).2 ⟨(flows_left S S).trans g.1, g.2⟩, ?_⟩
      rintro _ _ _ _ _ _ _ _ _ _ _ _ _ _ _ _ _ _ _ _ e f
      cases e; cases f
      exact flows_left S S

/-- A cell alone, as an array. -/
def scalarT (c : CellD) : Tree := .arr 0 0 (fun _ => 0) 1 (fun _ => c.L) (fun _ => c.K) (fun _ => c.C) (fun _ => c.N) (fun _ => c.k) (fun _ => c.sub)

theorem scalar_flows {S n m : Nat} {sh : Nat → Int} {L : Nat → Nat} {K C : Nat → Int} {N : Nat → NumF} {k : Nat → Nat} {sub : Nat → Nat → Tree} (hn : n = 0) (hm : m = 1) : FlowsL (totalT (.arr S n sh m L K C N k sub)) (totalT (scalarT (packT (.arr S n sh m L K C N k sub)))) := by
  subst hn; subst hm
  have e1 : packT (.arr S 0 sh 1 L K C N k sub) = ⟨orL S (L 0), K 0, N 0, C 0, k 0, sub 0⟩ := by simp [packT]
  rw [e1]
  have g := (total_flows (S := 0) (n := 0) (sh := fun _ => 0) (m := 1) (L := fun _ => orL S (L 0)) (K := fun _ => K 0) (C := fun _ => C 0) (N := fun _ => N 0) (k := fun _ => k 0) (sub := fun _ => sub 0) _).1 (flows_refl _)
  refine (total_flows _).2 ⟨(flows_left S (L 0)).trans (g.2 0 (by decide)).1, fun i hi => ?_⟩
  obtain rfl : i = 0 := by omega
  exact ⟨(flows_right S (L 0)).trans (g.2 0 hi).1, fun j hj => (g.2 0 hi).2 j hj⟩

end Go.Proofs.YtmkjebembicljaaGreat

namespace Go.Proofs.YtmkjebembicljaaGreat
open Go.RowKit Num

theorem ArrP.later {w w' : World} {A : Tree} {c0 c1 c2 : Value} (h : ArrP w A c0 c1 c2) (hb : Below w.heap.size w w') : ArrP w' A c0 c1 c2 := ArrP.below _ _ _ _ h hb

theorem CellR.later {w w' : World} {c : CellD} {e : Nat → Value} (h : CellR w c e) (hb : Below w.heap.size w w') : CellR w' c e := CellP.below h hb fun _ _ _ _ _ hd => hd.later hb

/-- The number of a cell is n. -/
def OfZ (N : NumF) (n : Int) : Prop := N.neg = decide (n < 0) ∧ Canon n.natAbs N.an N.fa ∧ Canon 1 N.am N.ga

/-- A cell that is a number n: what of it is told. -/
def IntCell (n : Int) (w : World) (e : Ending) (w' : World) : Prop := ∃ N, OfZ N n ∧ CellPost ⟨0, 0, N, 0, 0, fun _ => .leaf⟩ w e w'

/-- Cells in a row. -/
def vecT (m : Nat) (cs : Nat → CellD) : Tree := .arr 0 1 (fun _ => m) m (fun i => (cs i).L) (fun i => (cs i).K) (fun i => (cs i).C) (fun i => (cs i).N) (fun i => (cs i).k) (fun i => (cs i).sub)

/-- Cells in a row, as they lie. -/
def CellsP (w : World) (co : Option Addr) (m : Nat) (cs : Nat → CellD) : Prop := m = 0 ∨ ∃ b o, co = some ⟨b, o, none⟩ ∧ ∀ i, i < m → ∃ e : Nat → Value, (∀ t, t < 7 → w.cell? ⟨b, o + i * 7 + t, none⟩ = some (e t)) ∧ CellR w (cs i) e

def RightC : Prop := ∀ (A : Tree) (c0 c1 c2 : Value) (w : World), ArrP w A c0 c1 c2 → FewT A → Calls Tryz.prog 23 #[.agg #[c0, c1, c2]] w (BoolPost (RightT A 8) w)

def SizeC : Prop := ∀ (A : Tree) (c0 c1 c2 : Value) (w : World), ArrP w A c0 c1 c2 → FewT A → Calls Tryz.prog 24 #[.agg #[c0, c1, c2]] w (Tell (.int .i64 (sizeT A : Nat)) w)

def DepthC : Prop := ∀ (A : Tree) (c0 c1 c2 : Value) (w : World), ArrP w A c0 c1 c2 → FewT A → Calls Tryz.prog 21 #[.agg #[c0, c1, c2]] w (Tell (.int .i64 (depthT A : Nat)) w)

def SimpleC : Prop := ∀ (A : Tree) (c0 c1 c2 : Value) (w : World), ArrP w A c0 c1 c2 → Calls Tryz.prog 42 #[.agg #[c0, c1, c2]] w (Tell (.bool (simpleT A)) w)

def TotalC : Prop := ∀ (A : Tree) (c0 c1 c2 : Value) (w : World), ArrP w A c0 c1 c2 → FewT A → Calls Tryz.prog 22 #[.agg #[c0, c1, c2]] w (Tell (.int .u64 (totalT A : Nat)) w)

def RaiseC : Prop := ∀ (A : Tree) (l : Nat) (c0 c1 c2 : Value) (w : World), ArrP w A c0 c1 c2 → partsT A ≤ 5000 → IsL l → Calls Tryz.prog 30 #[.agg #[c0, c1, c2], .int .u64 l] w (TreePost (raiseT A l) w)

def MatchC : Prop := ∀ (A B : Tree) (c0 c1 c2 d0 d1 d2 : Value) (w : World), ArrP w A c0 c1 c2 → ArrP w B d0 d1 d2 → FewT A → FewT B → Calls Tryz.prog 16 #[.agg #[c0, c1, c2], .agg #[d0, d1, d2]] w (BoolPost (MatchT A B) w)

def PackC : Prop := ∀ (A : Tree) (c0 c1 c2 : Value) (w : World), ArrP w A c0 c1 c2 → FewT A → Calls Tryz.prog 6 #[.agg #[c0, c1, c2]] w (CellPost (packT A) w)

def UnpackC : Prop := ∀ (c : CellD) (e : Nat → Value) (w : World), CellR w c e → partsT (scalarT c) ≤ 5000 → NestT (scalarT c) 14 → Calls Tryz.prog 7 #[.agg #[e 0, e 1, e 2, e 3, e 4, e 5, e 6]] w (TreePost (unpackT c) w)

def ScalarC : Prop := ∀ (c : CellD) (e : Nat → Value) (w : World), CellR w c e → partsT (scalarT c) ≤ 5000 → Calls Tryz.prog 15 #[.agg #[e 0, e 1, e 2, e 3, e 4, e 5, e 6]] w (TreePost (scalarT c) w)

def IntAC : Prop := ∀ (n : Int) (w : World), IsZ n → Calls Tryz.prog 18 #[.int .i64 n] w (IntCell n w)

def ChrC : Prop := ∀ (c : Int) (w : World), IsZ c → Calls Tryz.prog 20 #[.int .i64 c] w (CellPost ⟨0, 1, zeroN, c, 0, fun _ => .leaf⟩ w)

def VectorC : Prop := ∀ (cs : Nat → CellD) (co : Option Addr) (m mc : Nat) (w : World), IsN m mc → CellsP w co m cs → partsT (vecT m cs) ≤ 5000 → Calls Tryz.prog 19 #[.slice co m mc] w (TreePost (vecT m cs) w)

theorem BoolPost.tell {P : Prop} {b : Bool} {w w' : World} {e : Ending} (hb : b = true ↔ P) (h : BoolPost P w e w') : Tell (.bool b) w e w' := by
  obtain ⟨r, rfl, hr, hw⟩ := h
  obtain rfl : r = b := Bool.eq_iff_iff.2 (hr.trans hb.symm)
  exact ⟨rfl, hw⟩

/-- Covered, or without labels, an array has as many parts, and no more are within one another. -/
theorem parts_cover (l : Nat) (er : Bool) : ∀ A, partsT (coverT A l er) = partsT A := by
  intro A
  induction A with
  | leaf => rfl
  | arr S n sh m L K C N k sub ih =>
    show 1 + n + sumN (fun i => 1 + (N i).an + (N i).am + sumN (fun j => partsT (coverT (sub i j) l er)) (k i)) m = 1 + n + sumN (fun i => 1 + (N i).an + (N i).am + sumN (fun j => partsT (sub i j)) (k i)) m
    simp only [ih]

theorem nest_cover (l : Nat) (er : Bool) : ∀ A d, NestT A d → NestT (coverT A l er) d := by
  intro A
  induction A with
  | leaf => intro d h; exact h
  | arr S n sh m L K C N k sub ih =>
    intro d h
    cases d with
    | zero => exact h
    | succ d => exact fun i hi j hj => ih i j d (h i hi j hj)

theorem few_cover {A : Tree} (l : Nat) (er : Bool) (h : FewT A) : FewT (coverT A l er) := ⟨by rw [parts_cover]; exact h.1, nest_cover l er A 12 h.2⟩

theorem few_raise {A : Tree} (l : Nat) (h : FewT A) : FewT (raiseT A l) := by
  obtain _ | ⟨S, n, sh, m, L, K, C, N, k, sub⟩ := A
  · exact h
  · exact h

/-- A label that came in. -/
theorem label_in {n : Int} (h : (Lit.int .u64 n).wf = true) : ∃ l : Nat, IsL l ∧ n = (l : Int) := by
  have hb : 0 ≤ n ∧ n < 18446744073709551616 := by
    simp [Lit.wf, IntKind.min, IntKind.max, IntKind.signed, IntKind.bits] at h
    omega
  exact ⟨n.toNat, by unfold IsL; omega, by omega⟩

end Go.Proofs.YtmkjebembicljaaGreat

namespace Go.Proofs.YtmkjebembicljaaGreat
open Go.RowKit Num

theorem CellPost.form {c : CellD} {w w' : World} {e : Ending} (h : CellPost c w e w') : ∃ (bo co io : Option Addr) (bc cc kc : Nat),
    e = .returned (.agg #[.int .u64 c.L, .int .i64 c.K, .bool c.N.neg, .slice bo c.N.an bc, .slice co c.N.am cc, .int .i64 c.C, .slice io c.k kc]) ∧
    CellR w' c (fun t => (#[.int .u64 c.L, .int .i64 c.K, .bool c.N.neg, .slice bo c.N.an bc, .slice co c.N.am cc, .int .i64 c.C, .slice io c.k kc] : Array Value).getD t (.bool false)) ∧ Below w.heap.size w w' := by
  obtain ⟨v, rfl, hv, hb⟩ := h
  obtain ⟨h0, hL, h1, hK, ⟨h2, ⟨ao, ac, h3, ha⟩, ⟨bo, bc, h4, hb'⟩⟩, h5, hC, io, kc, h6, hk, hrow⟩ := hv
  rw [h0, h1, h2, h3, h4, h5, h6]
  exact ⟨ao, bo, io, ac, bc, kc, rfl, ⟨rfl, hL, rfl, hK, ⟨rfl, ⟨ao, ac, rfl, ha⟩, ⟨bo, bc, rfl, hb'⟩⟩, rfl, hC, io, kc, rfl, hk, hrow⟩, hb⟩

theorem TreePost.form {T : Tree} {w w' : World} {e : Ending} (h : TreePost T w e w') : ∃ (S n nc m mc : Nat) (ao co : Option Addr),
    e = .returned (.agg #[.int .u64 S, .slice ao n nc, .slice co m mc]) ∧ ArrP w' T (.int .u64 S) (.slice ao n nc) (.slice co m mc) ∧ Below w.heap.size w w' := by
  obtain ⟨d0, d1, d2, rfl, hA, hb⟩ := h
  obtain ⟨S, n, nc, m, mc, ao, co, rfl, rfl, rfl⟩ := (ArrP.within _ _ _ _ hA).form
  exact ⟨S, n, nc, m, mc, ao, co, rfl, hA, hb⟩

/-- The three cells of chapter 8's example. -/
def cs3 (M N : NumF) (i : Nat) : CellD := if i = 0 then ⟨0, 0, M, 0, 0, fun _ => .leaf⟩ else if i = 1 then ⟨4, 0, N, 0, 0, fun _ => .leaf⟩ else ⟨0, 1, zeroN, 65, 0, fun _ => .leaf⟩

theorem three_cells {R : Nat → Prop} (h0 : R 0) (h1 : R 1) (h2 : R 2) : ∀ i, i < 3 → R i := fun i hi => by
  have : i = 0 ∨ i = 1 ∨ i = 2 := by omega
  rcases this with rfl | rfl | rfl
  · exact h0
  · exact h1
  · exact h2

theorem OfZ.right {N : NumF} {n : Int} (h : OfZ N n) (hz : IsZ n) : RightF N := ⟨n, 1, low_one (int_32 hz.1 hz.2), h.1, h.2.1, h.2.2⟩

theorem OfZ.few {N : NumF} {n : Int} (h : OfZ N n) (hz : n.natAbs < pw 1) : N.an ≤ 1 ∧ N.am ≤ 1 := ⟨h.2.1.len_le hz, h.2.2.len_le (by decide)⟩

def vec2 (S : Nat) (M N : NumF) : Tree := .arr S 1 (fun _ => (3 : Nat)) 3 (fun i => (cs3 M N i).L) (fun i => (cs3 M N i).K) (fun i => (cs3 M N i).C) (fun i => (cs3 M N i).N) (fun i => (cs3 M N i).k) (fun i => (cs3 M N i).sub)

theorem vec_few {M N : NumF} (hM : OfZ M 3) (hN : OfZ N 1) : FewT (vec2 2 M N) := by
  obtain ⟨a1, a2⟩ := hM.few (by decide)
  obtain ⟨b1, b2⟩ := hN.few (by decide)
  refine ⟨?_, fun i hi j hj => ?_⟩
  · show 1 + 1 + (0 + (1 + M.an + M.am + 0) + (1 + N.an + N.am + 0) + (1 + 0 + 0 + 0)) ≤ 4000
    omega
  · have : ∀ i, i < 3 → (cs3 M N i).k = 0 := three_cells rfl rfl rfl
    have hk : j < (cs3 M N i).k := hj
    rw [this i hi] at hk
    exact absurd hk (Nat.not_lt_zero _)

theorem vec_parts {M N : NumF} (hM : OfZ M 3) (hN : OfZ N 1) : partsT (vecT 3 (cs3 M N)) ≤ 5000 := by
  obtain ⟨a1, a2⟩ := hM.few (by decide)
  obtain ⟨b1, b2⟩ := hN.few (by decide)
  show 1 + 1 + (0 + (1 + M.an + M.am + 0) + (1 + N.an + N.am + 0) + (1 + 0 + 0 + 0)) ≤ 5000
  omega

theorem vec_size (M N : NumF) : sizeT (vec2 2 M N) = 3 := rfl

theorem vec_depth (M N : NumF) : depthT (vec2 2 M N) = 1 := rfl

theorem vec_total (M N : NumF) : totalT (vec2 2 M N) = 6 := by show orL (orL (orL 2 0) 4) 0 = 6; decide

theorem vec_right {M N : NumF} (hM : OfZ M 3) (hN : OfZ N 1) : RightT (vec2 2 M N) 8 := by
  refine ⟨⟨by decide, fun _ _ => by decide, fun _ _ => by decide, by decide, by decide⟩, three_cells ?_ ?_ ?_⟩
  · exact .inl ⟨rfl, rfl, rfl, hM.right ⟨by decide, by decide⟩⟩
  · exact .inl ⟨rfl, rfl, rfl, hN.right ⟨by decide, by decide⟩⟩
  · exact .inr (.inl ⟨rfl, rfl, rfl, rfl⟩)

theorem flat3 {M N : NumF} : ∀ i, i < 3 → (fun i => (cs3 M N i).k) i = 0 := three_cells rfl rfl rfl

/-- Twenty-one cells of memory, told by their cells. -/
def row21 (e0 e1 e2 : Nat → Value) : Array Value := #[e0 0, e0 1, e0 2, e0 3, e0 4, e0 5, e0 6, e1 0, e1 1, e1 2, e1 3, e1 4, e1 5, e1 6, e2 0, e2 1, e2 2, e2 3, e2 4, e2 5, e2 6]

theorem cells_three {w' : World} {B : Nat} {M N : NumF} {e0 e1 e2 : Nat → Value} (hc : ∀ j u, (row21 e0 e1 e2)[j]? = some u → w'.cell? ⟨B, j, none⟩ = some u) (h0 : CellR w' (cs3 M N 0) e0) (h1 : CellR w' (cs3 M N 1) e1) (h2 : CellR w' (cs3 M N 2) e2) :
    CellsP w' (some ⟨B, 0, none⟩) 3 (cs3 M N) := by
  refine .inr ⟨B, 0, rfl, three_cells ⟨e0, fun t ht => ?_, h0⟩ ⟨e1, fun t ht => ?_, h1⟩ ⟨e2, fun t ht => ?_, h2⟩⟩
  all_goals
    have : t = 0 ∨ t = 1 ∨ t = 2 ∨ t = 3 ∨ t = 4 ∨ t = 5 ∨ t = 6 := by omega
    rcases this with rfl | rfl | rfl | rfl | rfl | rfl | rfl <;> exact hc _ _ rfl

theorem CellsP.later {w w' : World} {co : Option Addr} {m : Nat} {cs : Nat → CellD} (h : CellsP w co m cs) (hb : Below w.heap.size w w') : CellsP w' co m cs := by
  rcases h with h | ⟨b, o, rfl, h⟩
  · exact .inl h
  · refine .inr ⟨b, o, rfl, fun i hi => ?_⟩
    obtain ⟨e, h1, h2⟩ := h i hi
    exact ⟨e, fun t ht => cell_below (h1 t ht) hb, h2.later hb⟩

theorem cells_new {w : World} {B : Nat} {M N : NumF} {e0 e1 e2 : Nat → Value} (t : TypeId) (hB : B = w.heap.size) (h0 : CellR w (cs3 M N 0) e0) (h1 : CellR w (cs3 M N 1) e1) (h2 : CellR w (cs3 M N 2) e2) :
    CellsP (w.alloc (.cells (row21 e0 e1 e2) t)) (some ⟨B, 0, none⟩) 3 (cs3 M N) := by
  subst hB
  have hb : Below w.heap.size w (w.alloc (.cells (row21 e0 e1 e2) t)) := (Below.refl _ _).alloc (Nat.le_refl _) _
  exact cells_three (fun j u hj => by rw [World.cell?_alloc_new]; exact hj) (h0.later hb) (h1.later hb) (h2.later hb)

/-- Cells that cannot be an array's three are as they were when these are stored into. -/
theorem cell_aside {w : World} {B b t : Nat} {x : Int} {p q : Option Addr} {np cp nq cq : Nat} {v : Value} (z : Box3 w B (.int .u64 x) (.slice p np cp) (.slice q nq cq)) (u0 u1 u2 : Value) (h : w.cell? ⟨b, t, none⟩ = some v)
    (hv : t = 0 → b = B → v ≠ .int .u64 x) (hs : t = 1 ∨ t = 2 → ∀ a n c, v ≠ .slice a n c) : (((w.setCell ⟨B, 0, none⟩ u0).setCell ⟨B, 1, none⟩ u1).setCell ⟨B, 2, none⟩ u2).cell? ⟨b, t, none⟩ = some v := by
  have ne : ∀ j, ¬ (b = B ∧ t = j) → (⟨b, t, none⟩ : Addr) ≠ ⟨B, j, none⟩ := fun j hn e => hn (by injection e with e1 e2; exact ⟨e1, e2⟩)
  have n0 : ¬ (b = B ∧ t = 0) := fun ⟨e1, e2⟩ => by
    subst e1; subst e2
    have := h.symm.trans z.c0
    injection this with e
    exact hv rfl rfl e
  have n1 : ¬ (b = B ∧ t = 1) := fun ⟨e1, e2⟩ => by
    subst e1; subst e2
    have := h.symm.trans z.c1
    injection this with e
    exact hs (.inl rfl) _ _ _ e
  have n2 : ¬ (b = B ∧ t = 2) := fun ⟨e1, e2⟩ => by
    subst e1; subst e2
    have := h.symm.trans z.c2
    injection this with e
    exact hs (.inr rfl) _ _ _ e
  rw [cell_set_ne (ne 2 n2), cell_set_ne (ne 1 n1), cell_set_ne (ne 0 n0)]
  exact h

/-- Of a block's first cell and the next two alone something may have turned. -/
def AsideP (w w' : World) (B : Nat) (x : Int) : Prop := ∀ (b t : Nat) (v : Value), w.cell? ⟨b, t, none⟩ = some v → (t = 0 → b = B → v ≠ .int .u64 x) → (t = 1 ∨ t = 2 → ∀ a n c, v ≠ .slice a n c) → w'.cell? ⟨b, t, none⟩ = some v

theorem aside_three {w : World} {B : Nat} {x : Int} {p q : Option Addr} {np cp nq cq : Nat} (z : Box3 w B (.int .u64 x) (.slice p np cp) (.slice q nq cq)) (u0 u1 u2 : Value) : AsideP w (((w.setCell ⟨B, 0, none⟩ u0).setCell ⟨B, 1, none⟩ u1).setCell ⟨B, 2, none⟩ u2) B x :=
  fun _ _ _ h hv hs => cell_aside z u0 u1 u2 h hv hs

theorem aside_one {w : World} {B : Nat} {x : Int} {p q : Option Addr} {np cp nq cq : Nat} (z : Box3 w B (.int .u64 x) (.slice p np cp) (.slice q nq cq)) (u0 : Value) : AsideP w (w.setCell ⟨B, 0, none⟩ u0) B x := by
  intro b t v h hv _
  have n0 : ¬ (b = B ∧ t = 0) := fun ⟨e1, e2⟩ => by
    subst e1; subst e2
    have := h.symm.trans z.c0
    injection this with e
    exact hv rfl rfl e
  rw [cell_set_ne fun e => n0 (by injection e with e1 e2; exact ⟨e1, e2⟩)]
  exact h

theorem ArrP.aside_flat {w w' : World} {B S n m : Nat} {sh : Nat → Int} {L : Nat → Nat} {K C : Nat → Int} {N : Nat → NumF} {k : Nat → Nat} {sub : Nat → Nat → Tree} {c0 c1 c2 : Value} (h : ArrP w (.arr S n sh m L K C N k sub) c0 c1 c2) (hk : ∀ i, i < m → k i = 0)
    {x : Int} {p q : Option Addr} {np cp nq cq : Nat} (z : Box3 w B (.int .u64 x) (.slice p np cp) (.slice q nq cq)) (H : AsideP w w' B x) : ArrP w' (.arr S n sh m L K C N k sub) c0 c1 c2 := by
  have hi : ∀ {b t : Nat} {i : Int}, w.cell? ⟨b, t, none⟩ = some (.int .i64 i) → w'.cell? ⟨b, t, none⟩ = some (.int .i64 i) := fun h => H _ _ _ h (fun _ _ e => by cases e) fun _ _ _ _ e => by cases e
  have hl : ∀ {b t : Nat} {i : Int}, w.cell? ⟨b, t, none⟩ = some (.int .u32 i) → w'.cell? ⟨b, t, none⟩ = some (.int .u32 i) := fun h => H _ _ _ h (fun _ _ e => by cases e) fun _ _ _ _ e => by cases e
  have hS : ∀ {ao : Option Addr} {n : Nat} {f : Nat → Nat}, Sl w ao n f → Sl w' ao n f := by
    rintro ao n f (h | ⟨b, off, rfl, h⟩)
    · exact .inl h
    · exact .inr ⟨b, off, rfl, fun j hj => hl (h j hj)⟩
  obtain ⟨h0, h1, ⟨ao, nc, h2, h3, h4, h5⟩, co, mc, h6, h7, h8⟩ := h
  refine ⟨h0, h1, ⟨ao, nc, h2, h3, ?_, h5⟩, co, mc, h6, h7, ?_⟩
  · rcases h4 with h4 | ⟨b, off, rfl, h4⟩
    · exact .inl h4
    · exact .inr ⟨b, off, rfl, fun j hj => hi (h4 j hj)⟩
  · rcases h8 with h8 | ⟨b, o, rfl, h8⟩
    · exact .inl h8
    · refine .inr ⟨b, o, rfl, fun i hm => ?_⟩
      obtain ⟨e, h9, h10, hL, h11, hK, ⟨h12, ⟨ao', ac, h13, ha, hsa, hla⟩, ⟨bo, bc, h14, hb, hsb, hlb⟩⟩, h15, hC, io, kc, h16, hkk, hrow⟩ := h8 i hm
      refine ⟨e, fun t ht => ?_, h10, hL, h11, hK, ⟨h12, ⟨ao', ac, h13, ha, hS hsa, hla⟩, ⟨bo, bc, h14, hb, hS hsb, hlb⟩⟩, h15, hC, io, kc, h16, hkk, .inl (hk i hm)⟩
      refine H _ _ _ (h9 t ht) (fun e0 eb => ?_) (fun e12 a n c ee => ?_)
      · subst eb
        have h1' := h9 1 (by decide)
        have : o + i * 7 = 0 ∧ t = 0 := by omega
        rw [this.1] at h1'
        have := h1'.symm.trans z.c1
        injection this with e
        rw [h11] at e
        cases e
      · have : t = 0 ∨ t = 1 ∨ t = 2 := by omega
        rcases this with rfl | rfl | rfl
        · rw [h10] at ee; cases ee
        · rw [h11] at ee; cases ee
        · rw [h12] at ee; cases ee

set_option maxRecDepth 20000 in
set_option maxHeartbeats 8000000 in
theorem awake8_any (hI : IntAC) (hH : ChrC) (hV : VectorC) (hD : DepthC) (hT : TotalC) (hR : RightC) (hS : SizeC) (w : World) : Calls Tryz.prog 5 #[] w (Tell (.bool true) w) := by
  replace hI := Lib.hid hI; replace hH := Lib.hid hH; replace hV := Lib.hid hV; replace hD := Lib.hid hD; replace hT := Lib.hid hT; replace hR := Lib.hid hR; replace hS := Lib.hid hS
  go_enter Tryz.func5, Tryz.ntmps5
  go_wp2_with fail
  refine (hI.out 1 w ⟨by decide, by decide⟩).mono ?_
  rintro e w1 ⟨N, hN, hp⟩
  obtain ⟨bo, co, io, bc, cc, kc, rfl, hc, hb⟩ := hp.form
  replace hc := Lib.hid hc; replace hN := Lib.hid hN; replace hb := Lib.hid hb
  clear hp
  go_upto_region 3 with fail
  refine told_wp (fun w' => Below w.heap.size w w' ∧ Box7 w' w1.heap.size (.int .u64 4) (.int .i64 0) (.bool N.neg) (.slice bo N.an bc) (.slice co N.am cc) (.int .i64 0) (.slice io 0 kc) ∧
      CellR w' (cs3 N N 1) (fun t => (#[.int .u64 4, .int .i64 0, .bool N.neg, .slice bo N.an bc, .slice co N.am cc, .int .i64 0, .slice io 0 kc] : Array Value).getD t (.bool false))) ⟨hb.out.alloc hb.out.size _, Box7.new _ _ _ _ _ _ _ _ rfl, ?_⟩ ?_
  · have h2 := hc.out.later ((Below.refl w1.heap.size w1).alloc (Nat.le_refl _) (.cells #[.int .u64 4, .int .i64 0, .bool N.neg, .slice bo N.an bc, .slice co N.am cc, .int .i64 0, .slice io 0 kc] 32))
    obtain ⟨_, _, h2⟩ := h2
    exact ⟨rfl, by show (4 : Nat) < 18446744073709551616; decide, h2⟩
  clear hc hb
  rintro u0 ⟨bb, x, c1⟩
  go_cut [2] from 5 to 9 (fun s wx => ∃ (B : Nat) (M : NumF) (n nc m mc : Nat) (ao co : Option Addr), s = .pointer (some ⟨B, 0, none⟩) ∧ OfZ M 3 ∧ Box3 wx B (.int .u64 0) (.slice ao n nc) (.slice co m mc) ∧ ArrP wx (vec2 0 M N) (.int .u64 0) (.slice ao n nc) (.slice co m mc) ∧ Below w.heap.size w wx ∧ w.heap.size ≤ B)
  case first =>
    have bs := bb.size; have lx := x.lt
    go_region_held3 (fun w' => w'.cell? ⟨w1.heap.size, 0, none⟩ = some (.int .u64 4) ∧ w'.cell? ⟨w1.heap.size, 1, none⟩ = some (.int .i64 0) ∧ w'.cell? ⟨w1.heap.size, 2, none⟩ = some (.bool N.neg) ∧ w'.cell? ⟨w1.heap.size, 3, none⟩ = some (.slice bo N.an bc) ∧ w'.cell? ⟨w1.heap.size, 4, none⟩ = some (.slice co N.am cc) ∧ w'.cell? ⟨w1.heap.size, 5, none⟩ = some (.int .i64 0) ∧ w'.cell? ⟨w1.heap.size, 6, none⟩ = some (.slice io 0 kc))
      (first | with_reducible exact ⟨x.drew.c0, x.drew.c1, x.drew.c2, x.drew.c3, x.drew.c4, x.drew.c5, x.drew.c6⟩ | with_reducible exact ⟨(x.alloc _).drew.c0, (x.alloc _).drew.c1, (x.alloc _).drew.c2, (x.alloc _).drew.c3, (x.alloc _).drew.c4, (x.alloc _).drew.c5, (x.alloc _).drew.c6⟩ | with_reducible exact ⟨x.c0, x.c1, x.c2, x.c3, x.c4, x.c5, x.c6⟩ | with_reducible exact ⟨(x.alloc _).c0, (x.alloc _).c1, (x.alloc _).c2, (x.alloc _).c3, (x.alloc _).c4, (x.alloc _).c5, (x.alloc _).c6⟩ | with_reducible exact ⟨((x.alloc _).alloc _).c0, ((x.alloc _).alloc _).c1, ((x.alloc _).alloc _).c2, ((x.alloc _).alloc _).c3, ((x.alloc _).alloc _).c4, ((x.alloc _).alloc _).c5, ((x.alloc _).alloc _).c6⟩ | with_reducible exact ⟨(((x.aside (by omega) 0 _).aside (by omega) 1 _).aside (by omega) 2 _).c0, (((x.aside (by omega) 0 _).aside (by omega) 1 _).aside (by omega) 2 _).c1, (((x.aside (by omega) 0 _).aside (by omega) 1 _).aside (by omega) 2 _).c2, (((x.aside (by omega) 0 _).aside (by omega) 1 _).aside (by omega) 2 _).c3, (((x.aside (by omega) 0 _).aside (by omega) 1 _).aside (by omega) 2 _).c4, (((x.aside (by omega) 0 _).aside (by omega) 1 _).aside (by omega) 2 _).c5, (((x.aside (by omega) 0 _).aside (by omega) 1 _).aside (by omega) 2 _).c6⟩ | go_keep)
      (first
      | (go_at_call 18; refine (hI.out 3 _ ⟨by decide, by decide⟩).mono ?_; rintro e u1 ⟨M, hM, hp⟩; obtain ⟨bo0, co0, io0, bc0, cc0, kc0, rfl, c0, hb⟩ := hp.form; have hc : Below u0.heap.size u0 u1 := (by first | exact (Below.refl _ _).drew.trans hb | exact ((Below.refl _ _).alloc (by first | exact Nat.le_refl _ | (simp; done) | (simp; omega)) _).drew.trans (hb.mono (by first | (simp; done) | (simp; omega)))); have x := x.later hc; have lx1 := x.lt; have c1 := c1.later hc; have bb := below_then bb (Nat.le_refl _) hc; have bs1 := bb.size; (try (with_reducible have m1 := made13' hb)); (try have l1 := m1.lt); clear hb hc hp)
      | (go_at_call 20; refine (hH.out 65 _ ⟨by decide, by decide⟩).mono ?_; rintro e u2 hp; obtain ⟨bo2, co2, io2, bc2, cc2, kc2, rfl, c2, hb⟩ := hp.form; have hc : Below u1.heap.size u1 u2 := (by first | with_reducible exact hb | exact ((Below.refl _ _).alloc (by first | exact Nat.le_refl _ | (simp; done) | (simp; omega)) _).trans (hb.mono (by first | (simp; done) | (simp; omega)))); have x := x.later hc; have lx2 := x.lt; have c0 := c0.later hc; have c1 := c1.later hc; have bb := below_then bb (Nat.le_refl _) hc; have bs2 := bb.size; (try have m1 := m1.later hc); (try (with_reducible have m2 := made13 hb)); (try have l1 := m1.lt); (try have l2 := m2.lt); clear hb hc hp)
      | (go_at_call 19; refine (hV.out (cs3 M N) _ 3 3 _ ⟨by decide, by decide, by decide⟩ ?_ (vec_parts hM hN.out)).mono ?_; (first | exact cells_new _ rfl c0 c1 c2 | exact cells_new _ (by simp) (c0.later ((Below.refl _ _).alloc (Nat.le_refl _) _)) (c1.later ((Below.refl _ _).alloc (Nat.le_refl _) _)) (c2.later ((Below.refl _ _).alloc (Nat.le_refl _) _)) | exact (cells_new _ rfl c0 c1 c2).later ((Below.refl _ _).alloc (Nat.le_refl _) _)); rintro e u3 hp; obtain ⟨S, n, nc, m, mc, ao, co3, rfl, hA, hb⟩ := hp.form; obtain rfl : S = 0 := (by have h := hA.1; injection h with _ h; omega); have hc : Below u2.heap.size u2 u3 := (by first | exact ((Below.refl _ _).alloc (by first | exact Nat.le_refl _ | (simp; done) | (simp; omega)) _).trans (hb.mono (by first | (simp; done) | (simp; omega))) | exact (((Below.refl _ _).alloc (by first | exact Nat.le_refl _ | (simp; done) | (simp; omega)) _).alloc (by first | exact Nat.le_refl _ | (simp; done) | (simp; omega)) _).trans (hb.mono (by first | (simp; done) | (simp; omega)))); have x := x.later hc; have lx3 := x.lt; have bb := below_then bb (Nat.le_refl _) hc; (try have m1 := m1.later hc); (try have m2 := m2.later hc); (first | (have m3 : Box3 u3 (u2.heap.size + 1) (.int .u64 0) (.slice none 0 0) (.slice none 0 0) := (Box3.new _ _ _ _ (by first | (simp; done) | rfl)).later hb) | (have m3 : Box3 u3 u2.heap.size (.int .u64 0) (.slice none 0 0) (.slice none 0 0) := ((Box3.new _ _ _ _ rfl).alloc _).later hb) | skip); (try (have fm10 := m1.c0; have fm11 := m1.c1; have fm12 := m1.c2; have fm13 := m1.fr 0; have fm14 := m1.fr 1; have fm15 := m1.fr 2; have lm1 := m1.lt)); (try (have fm20 := m2.c0; have fm21 := m2.c1; have fm22 := m2.c2; have fm23 := m2.fr 0; have fm24 := m2.fr 1; have fm25 := m2.fr 2; have lm2 := m2.lt)); (try (have fm30 := m3.c0; have fm31 := m3.c1; have fm32 := m3.c2; have fm33 := m3.fr 0; have fm34 := m3.fr 1; have fm35 := m3.fr 2; have lm3 := m3.lt)); clear hb hc hp))
    · go_wp2_with fail
      go_meet
      exact ⟨_, M, n, nc, m, mc, ao, co3, rfl, hM, Box3.new _ _ _ _ rfl, hA.later ((Below.refl _ _).alloc (Nat.le_refl _) _), bb.alloc bb.size _, bb.size⟩
    · go_wp2_with fail
      go_meet
      exact ⟨_, M, n, nc, m, mc, ao, co3, rfl, hM, m3.set _ _ _, hA.aside_flat flat3 m3 (aside_three m3 _ _ _), below_set3 bb (by omega) _ _ _, (by omega)⟩
    · go_wp2_with fail
      go_meet
      exact ⟨_, M, n, nc, m, mc, ao, co3, rfl, hM, m3.set _ _ _, hA.aside_flat flat3 m3 (aside_three m3 _ _ _), below_set3 bb (by omega) _ _ _, (by omega)⟩
    · go_wp2_with fail
      go_meet
      exact ⟨_, M, n, nc, m, mc, ao, co3, rfl, hM, m2.set _ _ _, hA.aside_flat flat3 m2 (aside_three m2 _ _ _), below_set3 bb (by omega) _ _ _, (by omega)⟩
    · go_wp2_with fail
      go_meet
      exact ⟨_, M, n, nc, m, mc, ao, co3, rfl, hM, m1.set _ _ _, hA.aside_flat flat3 m1 (aside_three m1 _ _ _), below_set3 bb (by omega) _ _ _, (by omega)⟩
  obtain ⟨B, M, n, nc, m, mc, ao, co', rfl, hM, y, hA, hb, hBl⟩ := hcut
  have hA2 : ArrP (wc.setCell ⟨B, 0, none⟩ (.int .u64 2)) (vec2 2 M N) (.int .u64 2) (.slice ao n nc) (.slice co' m mc) := by
    have h := hA.aside_flat flat3 y (aside_one y (.int .u64 2))
    obtain ⟨_, _, h⟩ := h
    exact ⟨rfl, by show (2 : Nat) < 18446744073709551616; decide, h⟩
  have y2 := y.set0 (.int .u64 2)
  have b2 := hb.setCell (p := ⟨B, 0, none⟩) hBl (.int .u64 2)
  have f0 := y.fr 0; have f1 := y.c0
  replace hA2 := Lib.hid hA2; replace y2 := Lib.hid y2; replace b2 := Lib.hid b2; replace hM := Lib.hid hM
  clear y hA hb c1 x bb
  go_upto_region 5 with fail
  refine told_wp (fun w' => Below w.heap.size w w' ∧ Box3 w' B (.int .u64 2) (.slice ao n nc) (.slice co' m mc) ∧ ArrP w' (vec2 2 M N) (.int .u64 2) (.slice ao n nc) (.slice co' m mc)) ⟨b2.out, y2.out, hA2.out⟩ ?_
  clear b2 y2 hA2 f0 f1
  rintro v0 ⟨bb, y, hA⟩
  have hF := Lib.hid (vec_few hM.out hN.out)
  have y0 := y.c0; have y1 := y.c1; have y2 := y.c2
  replace bb := Lib.hid bb; replace y := Lib.hid y; replace hA := Lib.hid hA
  go_wp2_with fail
  refine (hD.out _ _ _ _ v0 hA.out hF.out).mono ?_
  rintro e v1 ⟨rfl, hb⟩
  rw [vec_depth]
  replace bb := Lib.hid (below_then bb.out (Nat.le_refl _) hb); replace y := Lib.hid (y.out.later hb); replace hA := Lib.hid (hA.out.later hb)
  clear hb y0 y1 y2
  have y0 := y.out.c0; have y1 := y.out.c1; have y2 := y.out.c2
  go_wp2_with fail
  refine (hT.out _ _ _ _ v1 hA.out hF.out).mono ?_
  rintro e v2 ⟨rfl, hb⟩
  rw [vec_total]
  replace bb := Lib.hid (below_then bb.out (Nat.le_refl _) hb); replace y := Lib.hid (y.out.later hb); replace hA := Lib.hid (hA.out.later hb)
  clear hb y0 y1 y2
  have y0 := y.out.c0; have y1 := y.out.c1; have y2 := y.out.c2
  go_wp2_with fail
  refine ((hR.out _ _ _ _ v2 hA.out hF.out).mono fun _ _ h => BoolPost.tell (b := true) ⟨fun _ => vec_right hM.out hN.out, fun _ => rfl⟩ h).mono ?_
  rintro e v3 ⟨rfl, hb⟩
  replace bb := Lib.hid (below_then bb.out (Nat.le_refl _) hb); replace y := Lib.hid (y.out.later hb); replace hA := Lib.hid (hA.out.later hb)
  clear hb y0 y1 y2
  have y0 := y.out.c0; have y1 := y.out.c1; have y2 := y.out.c2
  go_wp2_with fail
  refine (hS.out _ _ _ _ v3 hA.out hF.out).mono ?_
  rintro e v4 ⟨rfl, hb⟩
  rw [vec_size]
  replace bb := Lib.hid (below_then bb.out (Nat.le_refl _) hb)
  clear hb y0 y1 y2 y hA
  go_wp2_with fail
  go_ret
  exact ⟨rfl, bb.out⟩

end Go.Proofs.YtmkjebembicljaaGreat

namespace Go.Proofs.YtmkjebembicljaaGreat
open Go.RowKit Num

theorem ArrP.drew {w : World} {A : Tree} {c0 c1 c2 : Value} (h : ArrP w A c0 c1 c2) : ArrP w.drew A c0 c1 c2 := h.later (Below.refl _ _).drew

theorem CellR.drew {w : World} {c : CellD} {e : Nat → Value} (h : CellR w c e) : CellR w.drew c e := h.later (Below.refl _ _).drew

theorem bool_of (P : Prop) : ∃ b : Bool, b = true ↔ P := by
  by_cases h : P
  · exact ⟨true, fun _ => h, fun _ => rfl⟩
  · exact ⟨false, fun e => (Bool.false_ne_true e).elim, fun k => absurd k h⟩

/-- What chapter 8's example asks of package array. -/
def AwakeC : Prop := ∀ w : World, Calls Tryz.prog 5 #[] w (Tell (.bool true) w)

end Go.Proofs.YtmkjebembicljaaGreat

namespace Go.Proofs.YtmkjebembicljaaGreat
open Go.RowKit Num

theorem tell_same {v : Value} {w w' : World} {e : Ending} (h : e = .returned v ∧ w = w') : Tell v w e w' := ⟨h.1, h.2 ▸ Below.refl _ _⟩

theorem raiseA_any (A : Tree) (l : Nat) (S n nc m mc : Nat) (ao co : Option Addr) (w : World) (h : ArrP w A (.int .u64 S) (.slice ao n nc) (.slice co m mc)) (hl : IsL l) :
    Calls Tryz.prog 34 #[.agg #[.int .u64 S, .slice ao n nc, .slice co m mc], .int .u64 l] w (TreePost (raiseT A l) w) := by
  obtain ⟨S', e, hS, hA⟩ := h.raise hl
  obtain rfl : S = S' := by injection e with _ e; omega
  refine (raise8_any S l ao co n nc m mc w hS hl).mono ?_
  rintro e w' ⟨rfl, hb⟩
  exact ⟨_, _, _, rfl, hA.later hb, hb⟩

/-- The end of a law that asks of Few arrays alone. -/
theorem u64_zero : (Value.int IntKind.u64 (((0 : Nat) : Int))) = .int .u64 0 := rfl

end Go.Proofs.YtmkjebembicljaaGreat

namespace Go.Proofs.YtmkjebembicljaaGreat
open Go.RowKit Num

end Go.Proofs.YtmkjebembicljaaGreat

namespace Go.Proofs.YtmkjebembicljaaGreat
open Go.RowKit Num

theorem CellR.form {w : World} {c : CellD} {e : Nat → Value} (h : CellR w c e) : ∃ (bo co io : Option Addr) (bc cc kc : Nat),
    e 0 = .int .u64 c.L ∧ e 1 = .int .i64 c.K ∧ e 2 = .bool c.N.neg ∧ e 3 = .slice bo c.N.an bc ∧ e 4 = .slice co c.N.am cc ∧ e 5 = .int .i64 c.C ∧ e 6 = .slice io c.k kc := by
  obtain ⟨h0, hL, h1, hK, ⟨h2, ⟨ao, ac, h3, ha⟩, ⟨bo, bc, h4, hb'⟩⟩, h5, hC, io, kc, h6, hk, hrow⟩ := h
  exact ⟨ao, bo, io, ac, bc, kc, h0, h1, h2, h3, h4, h5, h6⟩

theorem CellR.again {w : World} {c : CellD} {e f : Nat → Value} (h : CellR w c e) (he : ∀ t, t < 7 → f t = e t) : CellR w c f := by
  obtain ⟨h0, hL, h1, hK, ⟨h2, ⟨ao, ac, h3, ha⟩, ⟨bo, bc, h4, hb'⟩⟩, h5, hC, io, kc, h6, hk, hrow⟩ := h
  exact ⟨(he 0 (by decide)).trans h0, hL, (he 1 (by decide)).trans h1, hK, ⟨(he 2 (by decide)).trans h2, ⟨ao, ac, (he 3 (by decide)).trans h3, ha⟩, ⟨bo, bc, (he 4 (by decide)).trans h4, hb'⟩⟩, (he 5 (by decide)).trans h5, hC, io, kc, (he 6 (by decide)).trans h6, hk, hrow⟩

theorem sameCell_refl (c : CellD) (e f : Nat → Value) (w : World) (h : CellR w c e) (h' : CellR w c f) :
    Calls Tryz.prog 8 #[.agg #[e 0, e 1, e 2, e 3, e 4, e 5, e 6], .agg #[f 0, f 1, f 2, f 3, f 4, f 5, f 6]] w (Tell (.bool true) w) := by
  have hk : ∀ j, j < c.k → SameT (c.sub j) (c.sub j) := by
    intro j hj
    obtain ⟨_, _, _, _, _, _, _, io, kc, _, _, hrow⟩ := h
    rcases hrow with h0 | ⟨b, o, _, hr⟩
    · omega
    · obtain ⟨d0, d1, d2, _, _, _, hd⟩ := hr j hj
      exact same_refl _ (ArrP.full _ _ _ _ hd)
  have hs : SameC c.L c.K c.N c.C c.k c.L c.K c.N c.C c.k (fun j => SameT (c.sub j) (c.sub j)) := ⟨rfl, rfl, rfl, ⟨rfl, ⟨rfl, fun _ _ => rfl⟩, ⟨rfl, fun _ _ => rfl⟩⟩, rfl, hk⟩
  exact (sameCell8_of c.L c.K c.N c.C c.k _ e c.L c.K c.N c.C c.k _ f (fun j => SameT (c.sub j) (c.sub j)) w h h' fun j d0 d1 d2 e0 e1 e2 w' hd he hb => same8_any _ _ _ _ _ _ _ _ _ (ArrP.later hd hb) (ArrP.later he hb)).mono fun _ _ hh => BoolPost.tell (b := true) (P := SameC c.L c.K c.N c.C c.k c.L c.K c.N c.C c.k (fun j => SameT (c.sub j) (c.sub j))) ⟨fun _ => hs, fun _ => rfl⟩ hh

theorem nest_mono : ∀ A d d', NestT A d → d ≤ d' → NestT A d' := by
  intro A
  induction A with
  | leaf => intro d d' h _; exact h
  | arr S n sh m L K C N k sub ih =>
    intro d d' h hd
    cases d with
    | zero => exact h.elim
    | succ d =>
      cases d' with
      | zero => omega
      | succ d' => exact fun i hi j hj => ih i j d d' (h i hi j hj) (by omega)

theorem pack_alone {S m : Nat} {sh : Nat → Int} {L : Nat → Nat} {K C : Nat → Int} {N : Nat → NumF} {k : Nat → Nat} {sub : Nat → Nat → Tree} (hm : m = 1) : packT (.arr S 0 sh m L K C N k sub) = ⟨orL S (L 0), K 0, N 0, C 0, k 0, sub 0⟩ := by subst hm; simp [packT]

theorem pack_box {S n m : Nat} {sh : Nat → Int} {L : Nat → Nat} {K C : Nat → Int} {N : Nat → NumF} {k : Nat → Nat} {sub : Nat → Nat → Tree} (h : ¬ (n = 0 ∧ m = 1)) : packT (.arr S n sh m L K C N k sub) = ⟨S, 2, zeroN, 0, 1, fun _ => .arr S n sh m L K C N k sub⟩ := if_neg h

theorem few_scalar {S n m : Nat} {sh : Nat → Int} {L : Nat → Nat} {K C : Nat → Int} {N : Nat → NumF} {k : Nat → Nat} {sub : Nat → Nat → Tree} (h : FewT (.arr S n sh m L K C N k sub)) (h0 : n = 0) (h1 : m = 1) : FewT (scalarT (packT (.arr S n sh m L K C N k sub))) := by
  subst h0; subst h1
  rw [pack_alone rfl]
  refine ⟨h.1, fun i hi j hj => h.2 0 (by decide) j hj⟩

theorem few_packed {A : Tree} (hA : FullT A) (h : FewT A) : partsT (scalarT (packT A)) ≤ 5000 ∧ NestT (scalarT (packT A)) 14 := by
  obtain _ | ⟨S, n, sh, m, L, K, C, N, k, sub⟩ := A
  · exact hA.elim
  · by_cases hnm : n = 0 ∧ m = 1
    · have hf := few_scalar h hnm.1 hnm.2
      exact ⟨Nat.le_trans hf.1 (by decide), nest_mono _ _ _ hf.2 (by decide)⟩
    · rw [pack_box hnm]
      obtain ⟨h1, h2⟩ := h
      obtain ⟨P, hP⟩ : ∃ P, P = partsT (.arr S n sh m L K C N k sub) := ⟨_, rfl⟩
      refine ⟨?_, fun i hi j hj => nest_mono _ _ _ h2 (by decide)⟩
      show 1 + 0 + (0 + (1 + 0 + 0 + (0 + partsT (.arr S n sh m L K C N k sub)))) ≤ 5000
      rw [← hP] at h1 ⊢
      omega

theorem few_again {S n m : Nat} {sh : Nat → Int} {L : Nat → Nat} {K C : Nat → Int} {N : Nat → NumF} {k : Nat → Nat} {sub : Nat → Nat → Tree} (h : FewT (.arr S n sh m L K C N k sub)) (hb : n = 0 → m = 1 → K 0 ≠ 2) : FewT (unpackT (packT (.arr S n sh m L K C N k sub))) := by
  by_cases hnm : n = 0 ∧ m = 1
  · have hf := few_scalar h hnm.1 hnm.2
    obtain ⟨rfl, rfl⟩ := hnm
    rw [pack_alone rfl] at hf ⊢
    have e2 : unpackT ⟨orL S (L 0), K 0, N 0, C 0, k 0, sub 0⟩ = .arr (orL S (L 0)) 0 (fun _ => 0) 1 (fun _ => orL S (L 0)) (fun _ => K 0) (fun _ => C 0) (fun _ => N 0) (fun _ => k 0) (fun _ => sub 0) := if_neg fun e => hb rfl rfl e.1
    rw [e2]
    exact ⟨hf.1, hf.2⟩
  · rw [pack_box hnm]
    have e2 : unpackT ⟨S, 2, zeroN, 0, 1, fun _ => .arr S n sh m L K C N k sub⟩ = raiseT (.arr S n sh m L K C N k sub) S := if_pos ⟨rfl, rfl⟩
    rw [e2]
    exact few_raise S h

/-- The label of what is unpacked of what was packed. -/
theorem unpack_label {w : World} {A : Tree} {S S' : Nat} {c1 c2 d1 d2 : Value} (h : ArrP w A (.int .u64 S) c1 c2) (k : ArrP w (unpackT (packT A)) (.int .u64 S') d1 d2)
    (hf : ∀ S n sh m L K C N k sub S' n' sh' m' L' K' C' N' k' sub', A = .arr S n sh m L K C N k sub → unpackT (packT A) = .arr S' n' sh' m' L' K' C' N' k' sub' → FlowsL S S') : FlowsL S S' ∧ IsL S ∧ IsL S' := by
  generalize hU : unpackT (packT A) = U at k hf
  obtain _ | ⟨S1, n, sh, m, L, K, C, N, k1, sub⟩ := A
  · exact (ArrP.leaf h).elim
  obtain _ | ⟨S2, n2, sh2, m2, L2, K2, C2, N2, k2, sub2⟩ := U
  · exact (ArrP.leaf k).elim
  obtain ⟨e1, hS1, _⟩ := h
  obtain ⟨e2, hS2, _⟩ := k
  obtain rfl : S = S1 := by injection e1 with _ e; omega
  obtain rfl : S' = S2 := by injection e2 with _ e; omega
  exact ⟨hf _ _ _ _ _ _ _ _ _ _ _ _ _ _ _ _ _ _ _ _ rfl rfl, hS1, hS2⟩

theorem right_alone {S n m : Nat} {sh : Nat → Int} {L : Nat → Nat} {K C : Nat → Int} {N : Nat → NumF} {k : Nat → Nat} {sub : Nat → Nat → Tree} {d : Nat} (h : RightT (.arr S n sh m L K C N k sub) d) (h0 : n = 0) : m = 1 := by
  subst h0
  have e := h.1.all
  have e2 : prodZ sh 0 = 1 := rfl
  rw [e2] at e
  omega

theorem scalar_in {w : World} {c : CellD} {e : Nat → Value} (t : TypeId) (h : CellR w c e) : ArrP (w.alloc (.cells #[e 0, e 1, e 2, e 3, e 4, e 5, e 6] t)) (scalarT c) (.int .u64 0) (.slice none 0 0) (.slice (some ⟨w.heap.size, 0, none⟩) 1 1) := by
  have hb : Below w.heap.size w (w.alloc (.cells #[e 0, e 1, e 2, e 3, e 4, e 5, e 6] t)) := (Below.refl _ _).alloc (Nat.le_refl _) _
  refine ⟨rfl, by show (0 : Nat) < 18446744073709551616; decide, ⟨none, 0, rfl, ⟨Nat.le_refl _, by decide, by decide⟩, .inl rfl, fun j hj => absurd hj (Nat.not_lt_zero _)⟩, _, 1, rfl, ⟨Nat.le_refl _, by decide, by decide⟩, .inr ⟨w.heap.size, 0, rfl, fun i hi => ?_⟩⟩
  obtain rfl : i = 0 := by omega
  refine ⟨e, fun t ht => ?_, h.later hb⟩
  rw [World.cell?_alloc_new]
  have : t = 0 ∨ t = 1 ∨ t = 2 ∨ t = 3 ∨ t = 4 ∨ t = 5 ∨ t = 6 := by omega
  rcases this with rfl | rfl | rfl | rfl | rfl | rfl | rfl <;> rfl

theorem flows_yes {a b : Nat} {w : World} (ha : IsL a) (hb : IsL b) (h : FlowsL a b) : Calls Tryz.prog 13 #[.int .u64 a, .int .u64 b] w (Tell (.bool true) w) := by
  refine (flows01_any a b ha hb w).mono ?_
  rintro e w' ⟨⟨rfl, _⟩ | ⟨rfl, k⟩, rfl⟩
  · exact ⟨rfl, Below.refl _ _⟩
  · exact absurd h k

set_option maxRecDepth 20000 in
set_option maxHeartbeats 16000000 in
theorem packs8_walk (hA : AwakeC) (hP : PackC) (hU : UnpackC) (hL : ScalarC) (hM : MatchC) (A : Tree) (c : CellD) (c0 c1 c2 : Value) (e : Nat → Value) (w : World) (h : ArrP w A c0 c1 c2) (hc : CellR w c e) :
    Calls Tryz.prog 3 #[.agg #[c0, c1, c2], .agg #[e 0, e 1, e 2, e 3, e 4, e 5, e 6]] w (Tell (.bool true) w) := by
  replace hA := Lib.hid hA; replace hP := Lib.hid hP; replace hU := Lib.hid hU; replace hL := Lib.hid hL; replace hM := Lib.hid hM
  obtain _ | ⟨S, n, sh, m, L, K, C, N, k, sub⟩ := A
  · exact (ArrP.leaf h).elim
  obtain ⟨S', n', nc, m', mc, ao, co, rfl, rfl, rfl⟩ := (ArrP.within _ _ _ _ h).form
  obtain ⟨rfl, rfl, rfl⟩ : S = S' ∧ n = n' ∧ m = m' := by
    obtain ⟨e1, _, ⟨_, _, e2, _⟩, _, _, e3, _⟩ := h
    injection e1 with _ e1; injection e2 with _ e2; injection e3 with _ e3
    exact ⟨by omega, e2.symm, e3.symm⟩
  obtain ⟨cb, cc, ci, cbc, ccc, ckc, q0, q1, q2, q3, q4, q5, q6⟩ := hc.form
  rw [q0, q1, q2, q3, q4, q5, q6]
  have hE : CellR w c (fun t => (#[.int .u64 c.L, .int .i64 c.K, .bool c.N.neg, .slice cb c.N.an cbc, .slice cc c.N.am ccc, .int .i64 c.C, .slice ci c.k ckc] : Array Value).getD t (.bool false)) := hc.again fun t ht => by
    have : t = 0 ∨ t = 1 ∨ t = 2 ∨ t = 3 ∨ t = 4 ∨ t = 5 ∨ t = 6 := by omega
    rcases this with rfl | rfl | rfl | rfl | rfl | rfl | rfl
    · exact q0.symm
    · exact q1.symm
    · exact q2.symm
    · exact q3.symm
    · exact q4.symm
    · exact q5.symm
    · exact q6.symm
  clear hc q0 q1 q2 q3 q4 q5 q6
  replace h := Lib.hid h; replace hE := Lib.hid hE
  go_enter Tryz.func3, Tryz.ntmps3
  go_upto_region 1 with fail
  refine told_wp (fun w' => Below w.heap.size w w' ∧ Box3 w' w.heap.size (.int .u64 S) (.slice ao n nc) (.slice co m mc) ∧ Box7 w' (w.heap.size + 1) (.int .u64 c.L) (.int .i64 c.K) (.bool c.N.neg) (.slice cb c.N.an cbc) (.slice cc c.N.am ccc) (.int .i64 c.C) (.slice ci c.k ckc))
    ⟨((Below.refl _ _).alloc (Nat.le_refl _) _).alloc (by first | (simp; done) | (simp; omega)) _, (Box3.new _ _ _ _ rfl).alloc _, Box7.new _ _ _ _ _ _ _ _ (by first | (simp; done) | (simp; omega))⟩ ?_
  rintro w0 ⟨bb, x, y⟩
  have x0 := x.c0; have x1 := x.c1; have x2 := x.c2
  replace bb := Lib.hid bb; replace x := Lib.hid x; replace y := Lib.hid y
  go_wp2_with fail
  refine (few8_any (.arr S n sh m L K C N k sub) _ _ _ w0 (h.out.later bb.out)).mono ?_
  rintro e' w1 ⟨⟨r, rfl, hr⟩, hb⟩
  clear x0 x1 x2
  cases r with
  | false =>
    replace bb := Lib.hid (below_then bb.out (Nat.le_refl _) hb)
    clear hb hr x y
    go_wp2_with fail
    refine (hA.out _).mono ?_
    rintro e wz ⟨rfl, hb⟩
    replace bb := Lib.hid (below_then bb.out (Nat.le_refl _) hb)
    clear hb
    go_wp2_with fail
    go_ret
    exact ⟨rfl, bb.out⟩
  | true =>
    have hF := Lib.hid (hr rfl)
    replace bb := Lib.hid (below_then bb.out (Nat.le_refl _) hb); replace x := Lib.hid (x.out.later hb); replace y := Lib.hid (y.out.later hb)
    clear hb hr
    have x0 := y.out.c0; have x1 := y.out.c1; have x2 := y.out.c2; have x3 := y.out.c3; have x4 := y.out.c4; have x5 := y.out.c5; have x6 := y.out.c6
    go_wp2_with fail
    refine (few8_any (scalarT c) _ _ _ _ (scalar_in _ (hE.out.later bb.out))).mono ?_
    rintro e' w2 ⟨⟨r, rfl, hr⟩, hb⟩
    replace hb := ((Below.refl _ _).alloc (Nat.le_refl _) _).trans (hb.mono (by simp))
    clear x0 x1 x2 x3 x4 x5 x6
    cases r with
    | false =>
      replace bb := Lib.hid (below_then bb.out (Nat.le_refl _) hb)
      clear hb hr x y
      go_wp2_with fail
      refine (hA.out _).mono ?_
      rintro e wz ⟨rfl, hb⟩
      replace bb := Lib.hid (below_then bb.out (Nat.le_refl _) hb)
      clear hb
      go_wp2_with fail
      go_ret
      exact ⟨rfl, bb.out⟩
    | true =>
      have hG := Lib.hid (hr rfl)
      replace bb := Lib.hid (below_then bb.out (Nat.le_refl _) hb); replace x := Lib.hid (x.out.later hb); replace y := Lib.hid (y.out.later hb)
      clear hb hr
      have x0 := x.out.c0; have x1 := x.out.c1; have x2 := x.out.c2
      go_wp2_with fail
      refine (hP.out _ _ _ _ w2 (h.out.later bb.out) hF.out).mono ?_
      rintro e' w3 hp; obtain ⟨pb, pc, pi, pbc, pcc, pkc, rfl, p, hb⟩ := CellPost.form hp; clear hp
      replace bb := Lib.hid (below_then bb.out (Nat.le_refl _) hb); replace x := Lib.hid (x.out.later hb); replace y := Lib.hid (y.out.later hb); replace p := Lib.hid p
      clear hb x0 x1 x2
      generalize hpt : packT (.arr S n sh m L K C N k sub) = P at p
      replace hpt := Lib.hid hpt
      go_upto_region 4 with fail
      refine told_wp (fun w' => Below w.heap.size w w' ∧ Box3 w' w.heap.size (.int .u64 S) (.slice ao n nc) (.slice co m mc) ∧ Box7 w' (w.heap.size + 1) (.int .u64 c.L) (.int .i64 c.K) (.bool c.N.neg) (.slice cb c.N.an cbc) (.slice cc c.N.am ccc) (.int .i64 c.C) (.slice ci c.k ckc) ∧ Box7 w' w3.heap.size (.int .u64 P.L) (.int .i64 P.K) (.bool P.N.neg) (.slice pb P.N.an pbc) (.slice pc P.N.am pcc) (.int .i64 P.C) (.slice pi P.k pkc) ∧ CellR w' P (fun t => (#[.int .u64 P.L, .int .i64 P.K, .bool P.N.neg, .slice pb P.N.an pbc, .slice pc P.N.am pcc, .int .i64 P.C, .slice pi P.k pkc] : Array Value).getD t (.bool false))) ⟨bb.out.alloc bb.out.size _, x.out.alloc _, y.out.alloc _, Box7.new _ _ _ _ _ _ _ _ rfl, p.out.later ((Below.refl _ _).alloc (Nat.le_refl _) _)⟩ ?_
      clear bb x y p
      rintro w4 ⟨bb, x, y, z, p⟩
      have x0 := y.c0; have x1 := y.c1; have x2 := y.c2; have x3 := y.c3; have x4 := y.c4; have x5 := y.c5; have x6 := y.c6
      replace bb := Lib.hid bb; replace x := Lib.hid x; replace y := Lib.hid y; replace z := Lib.hid z; replace p := Lib.hid p
      go_wp2_with fail
      refine (hU.out c (fun t => (#[.int .u64 c.L, .int .i64 c.K, .bool c.N.neg, .slice cb c.N.an cbc, .slice cc c.N.am ccc, .int .i64 c.C, .slice ci c.k ckc] : Array Value).getD t (.bool false)) w4 (hE.out.later bb.out) (Nat.le_trans hG.out.1 (by decide)) (nest_mono _ _ _ hG.out.2 (by decide))).mono ?_
      rintro e' w5 hp; obtain ⟨Su, nu, ncu, mu, mcu, aou, cou, rfl, u, hb⟩ := TreePost.form hp; clear hp
      clear x0 x1 x2 x3 x4 x5 x6
      replace bb := Lib.hid (below_then bb.out (Nat.le_refl _) hb); replace x := Lib.hid (x.out.later hb); replace y := Lib.hid (y.out.later hb); replace z := Lib.hid (z.out.later hb); replace p := Lib.hid (p.out.later hb); replace u := Lib.hid u
      clear hb
      go_upto_region 5 with fail
      have hn5 : ∀ o, Below w5.heap.size w5 (w5.alloc o) := fun o => (Below.refl _ _).alloc (Nat.le_refl _) o
      refine told_wp (fun w' => Below w.heap.size w w' ∧ Box3 w' w.heap.size (.int .u64 S) (.slice ao n nc) (.slice co m mc) ∧ Box7 w' (w.heap.size + 1) (.int .u64 c.L) (.int .i64 c.K) (.bool c.N.neg) (.slice cb c.N.an cbc) (.slice cc c.N.am ccc) (.int .i64 c.C) (.slice ci c.k ckc) ∧ Box7 w' w3.heap.size (.int .u64 P.L) (.int .i64 P.K) (.bool P.N.neg) (.slice pb P.N.an pbc) (.slice pc P.N.am pcc) (.int .i64 P.C) (.slice pi P.k pkc) ∧ Box3 w' w5.heap.size (.int .u64 Su) (.slice aou nu ncu) (.slice cou mu mcu) ∧ ArrP w' (.arr S n sh m L K C N k sub) (.int .u64 S) (.slice ao n nc) (.slice co m mc) ∧ CellR w' c (fun t => (#[.int .u64 c.L, .int .i64 c.K, .bool c.N.neg, .slice cb c.N.an cbc, .slice cc c.N.am ccc, .int .i64 c.C, .slice ci c.k ckc] : Array Value).getD t (.bool false)) ∧ CellR w' P (fun t => (#[.int .u64 P.L, .int .i64 P.K, .bool P.N.neg, .slice pb P.N.an pbc, .slice pc P.N.am pcc, .int .i64 P.C, .slice pi P.k pkc] : Array Value).getD t (.bool false)) ∧ ArrP w' (unpackT c) (.int .u64 Su) (.slice aou nu ncu) (.slice cou mu mcu)) ⟨bb.out.alloc bb.out.size _, x.out.alloc _, y.out.alloc _, z.out.alloc _, Box3.new _ _ _ _ rfl, (h.out.later bb.out).later (hn5 _), (hE.out.later bb.out).later (hn5 _), p.out.later (hn5 _), u.out.later (hn5 _)⟩ ?_
      clear bb x y z p u hn5
      rintro w6 ⟨bb, x, y, z, v, a, ce, p, u⟩
      have hpp : CellR w6 (packT (.arr S n sh m L K C N k sub)) (fun t => (#[.int .u64 P.L, .int .i64 P.K, .bool P.N.neg, .slice pb P.N.an pbc, .slice pc P.N.am pcc, .int .i64 P.C, .slice pi P.k pkc] : Array Value).getD t (.bool false)) := by rw [hpt.out]; exact p
      have sa0 := True.intro
      go_region_held3 (fun w' => w'.cell? ⟨w.heap.size, 0, none⟩ = some (.int .u64 S) ∧ w'.cell? ⟨w.heap.size, 1, none⟩ = some (.slice ao n nc) ∧ w'.cell? ⟨w.heap.size, 2, none⟩ = some (.slice co m mc) ∧ w'.cell? ⟨w.heap.size + 1, 0, none⟩ = some (.int .u64 c.L) ∧ w'.cell? ⟨w.heap.size + 1, 1, none⟩ = some (.int .i64 c.K) ∧ w'.cell? ⟨w.heap.size + 1, 2, none⟩ = some (.bool c.N.neg) ∧ w'.cell? ⟨w.heap.size + 1, 3, none⟩ = some (.slice cb c.N.an cbc) ∧ w'.cell? ⟨w.heap.size + 1, 4, none⟩ = some (.slice cc c.N.am ccc) ∧ w'.cell? ⟨w.heap.size + 1, 5, none⟩ = some (.int .i64 c.C) ∧ w'.cell? ⟨w.heap.size + 1, 6, none⟩ = some (.slice ci c.k ckc) ∧ w'.cell? ⟨w3.heap.size, 0, none⟩ = some (.int .u64 P.L) ∧ w'.cell? ⟨w3.heap.size, 1, none⟩ = some (.int .i64 P.K) ∧ w'.cell? ⟨w3.heap.size, 2, none⟩ = some (.bool P.N.neg) ∧ w'.cell? ⟨w3.heap.size, 3, none⟩ = some (.slice pb P.N.an pbc) ∧ w'.cell? ⟨w3.heap.size, 4, none⟩ = some (.slice pc P.N.am pcc) ∧ w'.cell? ⟨w3.heap.size, 5, none⟩ = some (.int .i64 P.C) ∧ w'.cell? ⟨w3.heap.size, 6, none⟩ = some (.slice pi P.k pkc) ∧ w'.cell? ⟨w5.heap.size, 0, none⟩ = some (.int .u64 Su) ∧ w'.cell? ⟨w5.heap.size, 1, none⟩ = some (.slice aou nu ncu) ∧ w'.cell? ⟨w5.heap.size, 2, none⟩ = some (.slice cou mu mcu))
        (first | with_reducible exact ⟨x.drew.c0, x.drew.c1, x.drew.c2, y.drew.c0, y.drew.c1, y.drew.c2, y.drew.c3, y.drew.c4, y.drew.c5, y.drew.c6, z.drew.c0, z.drew.c1, z.drew.c2, z.drew.c3, z.drew.c4, z.drew.c5, z.drew.c6, v.drew.c0, v.drew.c1, v.drew.c2⟩ | with_reducible exact ⟨x.c0, x.c1, x.c2, y.c0, y.c1, y.c2, y.c3, y.c4, y.c5, y.c6, z.c0, z.c1, z.c2, z.c3, z.c4, z.c5, z.c6, v.c0, v.c1, v.c2⟩ | go_keep)
        (first
        | (go_at_call 9; clear sa0; have bb := bb.drew; have x := x.drew; have y := y.drew; have z := z.drew; have v := v.drew; have a := a.drew; have ce := ce.drew; have p := p.drew; have u := u.drew; refine (pack8_any _ _ _ _ _ a).mono ?_; rintro e w' hp; rw [hpt.out] at hp; obtain ⟨qb, qc, qi, qbc, qcc, qkc, rfl, q, hb⟩ := CellPost.form hp; clear hp; have bb := below_then bb (Nat.le_refl _) hb; have x := x.later hb; have y := y.later hb; have z := z.later hb; have v := v.later hb; have a := a.later hb; have ce := ce.later hb; have p := p.later hb; have u := u.later hb; clear hb; have sa1 := True.intro)
        | (go_at_call 8; clear sa1; refine (sameCell_refl P _ _ _ p q).mono ?_; rintro e w' ⟨rfl, hb⟩; have bb := below_then bb (Nat.le_refl _) hb; have x := x.later hb; have y := y.later hb; have z := z.later hb; have v := v.later hb; have a := a.later hb; have ce := ce.later hb; have p := p.later hb; have u := u.later hb; have q := q.later hb; clear hb; have sa2 := True.intro)
        | (go_at_call 11; clear sa2; refine (unpack8_any c _ _ ce).mono ?_; rintro e w' hp; obtain ⟨Sr, nr, ncr, mr, mcr, aor, cor, rfl, r, hb⟩ := TreePost.form hp; clear hp; have bb := below_then bb (Nat.le_refl _) hb; have x := x.later hb; have y := y.later hb; have z := z.later hb; have v := v.later hb; have a := a.later hb; have ce := ce.later hb; have p := p.later hb; have u := u.later hb; have q := q.later hb; clear hb; have sa3 := True.intro)
        | (go_at_call 10; clear sa3; refine ((same8_any _ _ _ _ _ _ _ _ _ u r).mono fun _ _ => BoolPost.tell (b := true) ⟨fun _ => same_refl _ (ArrP.full _ _ _ _ u), fun _ => rfl⟩).mono ?_; rintro e w' ⟨rfl, hb⟩; have bb := below_then bb (Nat.le_refl _) hb; have x := x.later hb; have y := y.later hb; have z := z.later hb; have v := v.later hb; have a := a.later hb; have ce := ce.later hb; have p := p.later hb; have u := u.later hb; have q := q.later hb; have r := r.later hb; clear hb; have sa4 := True.intro))
      clear hpp y v ce u q r
      replace bb := Lib.hid bb; replace x := Lib.hid x; replace z := Lib.hid z; replace a := Lib.hid a; replace p := Lib.hid p
      go_upto_region 7 with fail
      have x0 := x.out.c0; have x1 := x.out.c1; have x2 := x.out.c2
      go_wp2_with fail
      refine (right8_any (.arr S n sh m L K C N k sub) 8 _ _ _ _ a.out (Nat.le_refl _)).mono ?_
      rintro e' w7 ⟨r, rfl, hr, hb⟩
      clear x0 x1 x2
      cases r with
      | false =>
        replace bb := Lib.hid (below_then bb.out (Nat.le_refl _) hb)
        clear hb hr x z a p
        go_wp2_with fail
        refine (hA.out _).mono ?_
        rintro e wz ⟨rfl, hb⟩
        replace bb := Lib.hid (below_then bb.out (Nat.le_refl _) hb)
        clear hb
        go_wp2_with fail
        go_ret
        exact ⟨rfl, bb.out⟩
      | true =>
        have hR := Lib.hid (hr.1 rfl)
        replace bb := Lib.hid (below_then bb.out (Nat.le_refl _) hb); replace x := Lib.hid (x.out.later hb); replace z := Lib.hid (z.out.later hb); replace a := Lib.hid (a.out.later hb); replace p := Lib.hid (p.out.later hb)
        clear hb hr
        have hU5 := Lib.hid (show partsT (scalarT P) ≤ 5000 ∧ NestT (scalarT P) 14 by rw [← hpt.out]; exact few_packed (ArrP.full _ _ _ _ a.out) hF.out)
        have x0 := z.out.c0; have x1 := z.out.c1; have x2 := z.out.c2; have x3 := z.out.c3; have x4 := z.out.c4; have x5 := z.out.c5; have x6 := z.out.c6
        go_wp2_with fail
        refine (hU.out P (fun t => (#[.int .u64 P.L, .int .i64 P.K, .bool P.N.neg, .slice pb P.N.an pbc, .slice pc P.N.am pcc, .int .i64 P.C, .slice pi P.k pkc] : Array Value).getD t (.bool false)) w7 p.out hU5.out.1 hU5.out.2).mono ?_
        rintro e' w8 hp; obtain ⟨SX, nX, ncX, mX, mcX, aoX, coX, rfl, X, hb⟩ := TreePost.form hp; clear hp
        clear x0 x1 x2 x3 x4 x5 x6
        replace bb := Lib.hid (below_then bb.out (Nat.le_refl _) hb); replace x := Lib.hid (x.out.later hb); replace z := Lib.hid (z.out.later hb); replace a := Lib.hid (a.out.later hb); replace p := Lib.hid (p.out.later hb); replace X := Lib.hid X
        clear hb
        go_upto_region 10 with fail
        have hn5 : ∀ o, Below w8.heap.size w8 (w8.alloc o) := fun o => (Below.refl _ _).alloc (Nat.le_refl _) o
        refine told_wp (fun w' => Below w.heap.size w w' ∧ Box3 w' w.heap.size (.int .u64 S) (.slice ao n nc) (.slice co m mc) ∧ Box7 w' w3.heap.size (.int .u64 P.L) (.int .i64 P.K) (.bool P.N.neg) (.slice pb P.N.an pbc) (.slice pc P.N.am pcc) (.int .i64 P.C) (.slice pi P.k pkc) ∧ Box3 w' w8.heap.size (.int .u64 SX) (.slice aoX nX ncX) (.slice coX mX mcX) ∧ ArrP w' (.arr S n sh m L K C N k sub) (.int .u64 S) (.slice ao n nc) (.slice co m mc) ∧ CellR w' P (fun t => (#[.int .u64 P.L, .int .i64 P.K, .bool P.N.neg, .slice pb P.N.an pbc, .slice pc P.N.am pcc, .int .i64 P.C, .slice pi P.k pkc] : Array Value).getD t (.bool false)) ∧ ArrP w' (unpackT P) (.int .u64 SX) (.slice aoX nX ncX) (.slice coX mX mcX)) ⟨bb.out.alloc bb.out.size _, x.out.alloc _, z.out.alloc _, Box3.new _ _ _ _ rfl, a.out.later (hn5 _), p.out.later (hn5 _), X.out.later (hn5 _)⟩ ?_
        clear bb x z a p X hn5
        rintro w9 ⟨bb, x, z, v, a, p, X⟩
        by_cases hn : n = 0
        · have hm : m = 1 := right_alone hR.out hn
          obtain ⟨b, o, hco, hk⟩ : ∃ b o, co = some ⟨b, o, none⟩ ∧ w9.cell? ⟨b, o + 1, none⟩ = some (.int .i64 (K 0)) := by
            obtain ⟨_, _, _, co', mc', ec, _, hcs⟩ := a
            injection ec with ec1 ec2 ec3
            rcases hcs with h0 | ⟨b, o, rfl, hcs⟩
            · omega
            · obtain ⟨e1, h1, _, _, h3, _⟩ := hcs 0 (by omega)
              exact ⟨b, o, ec1, by have h2 := h1 1 (by decide); rw [h3] at h2; simpa using h2⟩
          subst hn; subst hm; subst hco
          have x1 := x.c1; have x2 := x.c2
          by_cases hK : K 0 = 2
          · rw [hK] at hk
            replace hK := Lib.hid hK
            go_upto_region 11 with fail
            clear x1 x2 hk hK
            have hFs := Lib.hid (show FewT (scalarT P) by rw [← hpt.out]; exact few_scalar hF.out rfl rfl)
            have hfl := Lib.hid (show FlowsL (totalT (.arr S 0 sh 1 L K C N k sub)) (totalT (scalarT P)) by rw [← hpt.out]; exact scalar_flows rfl rfl)
            clear v X
            have sc0 := True.intro
            go_region_held3 (fun w' => w'.cell? ⟨w.heap.size, 0, none⟩ = some (.int .u64 S) ∧ w'.cell? ⟨w.heap.size, 1, none⟩ = some (.slice ao 0 nc) ∧ w'.cell? ⟨w.heap.size, 2, none⟩ = some (.slice (some ⟨b, o, none⟩) 1 mc) ∧ w'.cell? ⟨w3.heap.size, 0, none⟩ = some (.int .u64 P.L) ∧ w'.cell? ⟨w3.heap.size, 1, none⟩ = some (.int .i64 P.K) ∧ w'.cell? ⟨w3.heap.size, 2, none⟩ = some (.bool P.N.neg) ∧ w'.cell? ⟨w3.heap.size, 3, none⟩ = some (.slice pb P.N.an pbc) ∧ w'.cell? ⟨w3.heap.size, 4, none⟩ = some (.slice pc P.N.am pcc) ∧ w'.cell? ⟨w3.heap.size, 5, none⟩ = some (.int .i64 P.C) ∧ w'.cell? ⟨w3.heap.size, 6, none⟩ = some (.slice pi P.k pkc))
              (first | with_reducible exact ⟨x.drew.c0, x.drew.c1, x.drew.c2, z.drew.c0, z.drew.c1, z.drew.c2, z.drew.c3, z.drew.c4, z.drew.c5, z.drew.c6⟩ | with_reducible exact ⟨x.c0, x.c1, x.c2, z.c0, z.c1, z.c2, z.c3, z.c4, z.c5, z.c6⟩ | go_keep)
              (first
              | (go_at_call 14; clear sc0; have bb := bb.drew; have x := x.drew; have z := z.drew; have a := a.drew; have p := p.drew; refine (total8_any _ _ _ _ _ a hF.out.1).mono ?_; rintro e w' ⟨rfl, hb⟩; have bb := below_then bb (Nat.le_refl _) hb; have x := x.later hb; have z := z.later hb; have a := a.later hb; have p := p.later hb; clear hb; have sc1 := True.intro)
              | (go_at_call 15; clear sc1; refine (hL.out P _ _ p hU5.out.1).mono ?_; rintro e w' hp; obtain ⟨Ss, ns, ncs, ms, mcs, aos, cos, rfl, s, hb⟩ := TreePost.form hp; clear hp; have bb := below_then bb (Nat.le_refl _) hb; have x := x.later hb; have z := z.later hb; have a := a.later hb; have p := p.later hb; clear hb; have sc2 := True.intro)
              | (go_at_call 14; clear sc2; refine (total8_any _ _ _ _ _ s hFs.out.1).mono ?_; rintro e w' ⟨rfl, hb⟩; have bb := below_then bb (Nat.le_refl _) hb; have x := x.later hb; have z := z.later hb; have a := a.later hb; have p := p.later hb; have s := s.later hb; clear hb; have sc3 := True.intro)
              | (go_at_call 13; clear sc3; refine (flows_yes (total_is _ _ _ _ a) (total_is _ _ _ _ s) hfl.out).mono ?_; rintro e w' ⟨rfl, hb⟩; have bb := below_then bb (Nat.le_refl _) hb; have x := x.later hb; have z := z.later hb; have a := a.later hb; have p := p.later hb; have s := s.later hb; clear hb; have sc4 := True.intro)
              | (go_at_call 5; clear sc4; refine (hA.out _).mono ?_; rintro e w' ⟨rfl, hb⟩; have bb := below_then bb (Nat.le_refl _) hb; have x := x.later hb; have z := z.later hb; have a := a.later hb; have p := p.later hb; have s := s.later hb; clear hb; have sc5 := True.intro))
            go_wp2_with fail
            go_ret
            exact ⟨rfl, bb⟩
          · have hbox := Lib.hid (show 0 = 0 → 1 = 1 → K 0 ≠ 2 from fun _ _ => hK)
            go_upto_region 12 with fail
            clear x1 x2 hk hK
            have hFX := Lib.hid (show FewT (unpackT P) by rw [← hpt.out]; exact few_again hF.out hbox.out)
            have hb' : ∀ S' n' sh' m' L' K' C' N' k' sub', (.arr S 0 sh 1 L K C N k sub) = Tree.arr S' n' sh' m' L' K' C' N' k' sub' → n' = 0 → m' = 1 → K' 0 ≠ 2 := by
              rintro _ _ _ _ _ _ _ _ _ _ e
              cases e
              exact hbox.out
            have hMT := Lib.hid (show MatchT (unpackT P) (.arr S 0 sh 1 L K C N k sub) by rw [← hpt.out]; exact packed_match (ArrP.full _ _ _ _ a) hb')
            have hPF := packed_flows (ArrP.full _ _ _ _ a) hb'
            have hfl := Lib.hid (show FlowsL (totalT (.arr S 0 sh 1 L K C N k sub)) (totalT (unpackT P)) by rw [← hpt.out]; exact hPF.1)
            have hSl := Lib.hid (unpack_label a (show ArrP w9 (unpackT (packT (.arr S 0 sh 1 L K C N k sub))) (.int .u64 SX) (.slice aoX nX ncX) (.slice coX mX mcX) by rw [hpt.out]; exact X) hPF.2)
            clear hb' hPF hbox p z
            have sb0 := True.intro
            go_region_held3 (fun w' => w'.cell? ⟨w.heap.size, 0, none⟩ = some (.int .u64 S) ∧ w'.cell? ⟨w.heap.size, 1, none⟩ = some (.slice ao 0 nc) ∧ w'.cell? ⟨w.heap.size, 2, none⟩ = some (.slice (some ⟨b, o, none⟩) 1 mc) ∧ w'.cell? ⟨w8.heap.size, 0, none⟩ = some (.int .u64 SX) ∧ w'.cell? ⟨w8.heap.size, 1, none⟩ = some (.slice aoX nX ncX) ∧ w'.cell? ⟨w8.heap.size, 2, none⟩ = some (.slice coX mX mcX))
              (first | with_reducible exact ⟨x.drew.c0, x.drew.c1, x.drew.c2, v.drew.c0, v.drew.c1, v.drew.c2⟩ | with_reducible exact ⟨x.c0, x.c1, x.c2, v.c0, v.c1, v.c2⟩ | go_keep)
              (first
              | (go_at_call 16; clear sb0; have bb := bb.drew; have x := x.drew; have v := v.drew; have a := a.drew; have X := X.drew; refine ((hM.out _ _ _ _ _ _ _ _ _ X a hFX.out hF.out).mono fun _ _ => BoolPost.tell (b := true) ⟨fun _ => hMT.out, fun _ => rfl⟩).mono ?_; rintro e w' ⟨rfl, hb⟩; have bb := below_then bb (Nat.le_refl _) hb; have x := x.later hb; have v := v.later hb; have a := a.later hb; have X := X.later hb; clear hb; have sb1 := True.intro)
              | (go_at_call 14; clear sb1; refine (total8_any (.arr S 0 sh 1 L K C N k sub) _ _ _ _ a hF.out.1).mono ?_; rintro e w' ⟨rfl, hb⟩; have bb := below_then bb (Nat.le_refl _) hb; have x := x.later hb; have v := v.later hb; have a := a.later hb; have X := X.later hb; clear hb; have sb2 := True.intro)
              | (go_at_call 14; clear sb2; refine (total8_any _ _ _ _ _ X hFX.out.1).mono ?_; rintro e w' ⟨rfl, hb⟩; have bb := below_then bb (Nat.le_refl _) hb; have x := x.later hb; have v := v.later hb; have a := a.later hb; have X := X.later hb; clear hb; have sb3 := True.intro)
              | (go_at_call 13; clear sb3; refine (flows_yes (total_is _ _ _ _ a) (total_is _ _ _ _ X) hfl.out).mono ?_; rintro e w' ⟨rfl, hb⟩; have bb := below_then bb (Nat.le_refl _) hb; have x := x.later hb; have v := v.later hb; have a := a.later hb; have X := X.later hb; clear hb; have sb4 := True.intro)
              | (go_at_call 13; clear sb4; refine (flows_yes hSl.out.2.1 hSl.out.2.2 hSl.out.1).mono ?_; rintro e w' ⟨rfl, hb⟩; have bb := below_then bb (Nat.le_refl _) hb; have x := x.later hb; have v := v.later hb; have a := a.later hb; have X := X.later hb; clear hb; have sb5 := True.intro)
              | (go_at_call 5; clear sb5; refine (hA.out _).mono ?_; rintro e w' ⟨rfl, hb⟩; have bb := below_then bb (Nat.le_refl _) hb; have x := x.later hb; have v := v.later hb; have a := a.later hb; have X := X.later hb; clear hb; have sb6 := True.intro))
            go_wp2_with fail
            go_ret
            exact ⟨rfl, bb⟩
        · have hbox := Lib.hid (show n = 0 → m = 1 → K 0 ≠ 2 from fun h => absurd h hn)
          have hn0 : ((n : Int) == 0) = false := by rw [beq_eq_false_iff_ne]; omega
          have x1 := x.c1; have x2 := x.c2
          go_upto_region 12 with fail
          clear x1 x2 hn0 hn
          have hFX := Lib.hid (show FewT (unpackT P) by rw [← hpt.out]; exact few_again hF.out hbox.out)
          have hb' : ∀ S' n' sh' m' L' K' C' N' k' sub', (.arr S n sh m L K C N k sub) = Tree.arr S' n' sh' m' L' K' C' N' k' sub' → n' = 0 → m' = 1 → K' 0 ≠ 2 := by
            rintro _ _ _ _ _ _ _ _ _ _ e
            cases e
            exact hbox.out
          have hMT := Lib.hid (show MatchT (unpackT P) (.arr S n sh m L K C N k sub) by rw [← hpt.out]; exact packed_match (ArrP.full _ _ _ _ a) hb')
          have hPF := packed_flows (ArrP.full _ _ _ _ a) hb'
          have hfl := Lib.hid (show FlowsL (totalT (.arr S n sh m L K C N k sub)) (totalT (unpackT P)) by rw [← hpt.out]; exact hPF.1)
          have hSl := Lib.hid (unpack_label a (show ArrP w9 (unpackT (packT (.arr S n sh m L K C N k sub))) (.int .u64 SX) (.slice aoX nX ncX) (.slice coX mX mcX) by rw [hpt.out]; exact X) hPF.2)
          clear hb' hPF hbox p z
          have sb0 := True.intro
          go_region_held3 (fun w' => w'.cell? ⟨w.heap.size, 0, none⟩ = some (.int .u64 S) ∧ w'.cell? ⟨w.heap.size, 1, none⟩ = some (.slice ao n nc) ∧ w'.cell? ⟨w.heap.size, 2, none⟩ = some (.slice co m mc) ∧ w'.cell? ⟨w8.heap.size, 0, none⟩ = some (.int .u64 SX) ∧ w'.cell? ⟨w8.heap.size, 1, none⟩ = some (.slice aoX nX ncX) ∧ w'.cell? ⟨w8.heap.size, 2, none⟩ = some (.slice coX mX mcX))
            (first | with_reducible exact ⟨x.drew.c0, x.drew.c1, x.drew.c2, v.drew.c0, v.drew.c1, v.drew.c2⟩ | with_reducible exact ⟨x.c0, x.c1, x.c2, v.c0, v.c1, v.c2⟩ | go_keep)
            (first
            | (go_at_call 16; clear sb0; have bb := bb.drew; have x := x.drew; have v := v.drew; have a := a.drew; have X := X.drew; refine ((hM.out _ _ _ _ _ _ _ _ _ X a hFX.out hF.out).mono fun _ _ => BoolPost.tell (b := true) ⟨fun _ => hMT.out, fun _ => rfl⟩).mono ?_; rintro e w' ⟨rfl, hb⟩; have bb := below_then bb (Nat.le_refl _) hb; have x := x.later hb; have v := v.later hb; have a := a.later hb; have X := X.later hb; clear hb; have sb1 := True.intro)
            | (go_at_call 14; clear sb1; refine (total8_any (.arr S n sh m L K C N k sub) _ _ _ _ a hF.out.1).mono ?_; rintro e w' ⟨rfl, hb⟩; have bb := below_then bb (Nat.le_refl _) hb; have x := x.later hb; have v := v.later hb; have a := a.later hb; have X := X.later hb; clear hb; have sb2 := True.intro)
            | (go_at_call 14; clear sb2; refine (total8_any _ _ _ _ _ X hFX.out.1).mono ?_; rintro e w' ⟨rfl, hb⟩; have bb := below_then bb (Nat.le_refl _) hb; have x := x.later hb; have v := v.later hb; have a := a.later hb; have X := X.later hb; clear hb; have sb3 := True.intro)
            | (go_at_call 13; clear sb3; refine (flows_yes (total_is _ _ _ _ a) (total_is _ _ _ _ X) hfl.out).mono ?_; rintro e w' ⟨rfl, hb⟩; have bb := below_then bb (Nat.le_refl _) hb; have x := x.later hb; have v := v.later hb; have a := a.later hb; have X := X.later hb; clear hb; have sb4 := True.intro)
            | (go_at_call 13; clear sb4; refine (flows_yes hSl.out.2.1 hSl.out.2.2 hSl.out.1).mono ?_; rintro e w' ⟨rfl, hb⟩; have bb := below_then bb (Nat.le_refl _) hb; have x := x.later hb; have v := v.later hb; have a := a.later hb; have X := X.later hb; clear hb; have sb5 := True.intro)
            | (go_at_call 5; clear sb5; refine (hA.out _).mono ?_; rintro e w' ⟨rfl, hb⟩; have bb := below_then bb (Nat.le_refl _) hb; have x := x.later hb; have v := v.later hb; have a := a.later hb; have X := X.later hb; clear hb; have sb6 := True.intro))
          go_wp2_with fail
          go_ret
          exact ⟨rfl, bb⟩

end Go.Proofs.YtmkjebembicljaaGreat
