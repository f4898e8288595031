/-
  scrimref08.Cell, Right: which cells and arrays are right.
  scrimref08.Right: an array is right.
  scrimref08.Pack, Unpack: an array as a cell, a cell as an array.
  An api.Array that came in, as the walks speak of it.
  Arrays, plain: what is without labels, what has got more; what is packed and unpacked.
  What the functions of package array are to tell (as hypotheses of the walks of the statements).
  scrimlaw08.awake.
  scrimlaw08.ArrayRight, walked.
  label.Join; array.alone, Simple, Size, Depth, Total.
  slices.Clone over limbs, ints, cells, arrays; array.numAnew.
  Arrays and cells told anew, with other labels: what is made (mapT, mapC), rows whose elements are put anew one behind the other (Mapped), the three functions of labels; array.cellsBy.
-/
import Derived.Test.YtmkjebembicljaaMrgF
import Derived.OpenShut
import Derived.SizedLaws
import Derived.Deep.RegionHeld3
import Derived.Lib.SliceRun
namespace Go.Proofs.Ytmkjebembicljaa
open Go.RowKit Num

/-- A number's fields are right: they are a number in lowest terms. -/
def RightF (N : NumF) : Prop := ∃ (P : Int) (Q : Nat), Low P Q ∧ N.neg = decide (P < 0) ∧ Canon P.natAbs N.an N.fa ∧ Canon Q N.am N.ga

theorem numRight_any (N : NumF) (c0 c1 c2 : Value) (w : World) (h : NumP w N c0 c1 c2) :
    Calls Try.prog 53 #[.agg #[c0, c1, c2]] w (BoolPost (RightF N) w) := by
  obtain ⟨neg, an, fa, am, ga⟩ := N
  obtain ⟨rfl, ⟨ao, ac, rfl, hn, hs, hl⟩, ⟨bo, bc, rfl, hm, hs', hl'⟩⟩ := h
  refine (right4_in neg ao bo an ac am bc fa ga w ⟨hn.1, hn.2.1, hs, hl⟩ ⟨hm.1, hm.2.1, hs', hl'⟩).mono ?_
  rintro e w' ⟨r, rfl, h1, h2, hb⟩
  refine ⟨r, rfl, ⟨fun hr => ?_, fun ⟨P, Q, lw, e1, e2, e3⟩ => ?_⟩, hb⟩
  · obtain ⟨P, Q, lw, R⟩ := h1 hr
    have n1 := R.top.len_le32 lw.2.2.1
    have n2 := R.bot.len_le32 (x := (Q : Int)) (by simpa using lw.2.2.2)
    have k1 := R.top.canon ⟨hn.1, hn.2.1, by omega, hs, hl⟩
    have k2 := R.bot.canon ⟨hm.1, hm.2.1, by omega, hs', hl'⟩
    obtain ⟨_, _, _, _, _, e⟩ := R.top.ex
    exact ⟨P, Q, lw, e, k1, by simpa using k2⟩
  · refine h2 P Q lw ⟨⟨fa, hn.1, hn.2.1, hs, e2, e1⟩, ⟨ga, hm.1, hm.2.1, hs', by simpa using e3, by simp⟩⟩

/-- A cell is right, with d boxes left: simple and right tell it of the array in it. -/
def CellT (K : Int) (N : NumF) (C : Int) (k : Nat) (simple : Bool) (d : Nat) (R : Prop) : Prop :=
  (K = 0 ∧ C = 0 ∧ k = 0 ∧ RightF N) ∨ (K = 1 ∧ zeroF N = true ∧ k = 0 ∧ mayZ C = true) ∨ (K = 2 ∧ zeroF N = true ∧ C = 0 ∧ k = 1 ∧ 0 < d ∧ simple = false ∧ R)

/-- An array is right, with d boxes left. -/
def RightT : Tree → Nat → Prop
  | .leaf, _ => False
  | .arr _ n sh m _ K C N k sub, d => Shape sh n (m : Int) ∧ ∀ i, i < m → CellT (K i) (N i) (C i) (k i) (simpleT (sub i 0)) d (RightT (sub i 0) (d - 1))

set_option maxRecDepth 20000 in
set_option maxHeartbeats 8000000 in
theorem cell8_of (L : Nat) (K : Int) (N : NumF) (C : Int) (k : Nat) (R : Nat → Value → Value → Value → Prop) (e : Nat → Value) (T : Tree) (d : Nat) (P : Prop) (w : World) (h : CellP w L K N C k R e) (hd : d ≤ 8) (hR : ∀ d0 d1 d2, R 0 d0 d1 d2 → ArrP w T d0 d1 d2)
    (hS : ∀ d0 d1 d2 w', R 0 d0 d1 d2 → Below w.heap.size w w' → 0 < d → Calls Try.prog 9 #[.agg #[d0, d1, d2], .int .i64 ((d : Int) - 1)] w' (BoolPost P w')) :
    Calls Try.prog 35 #[.agg #[e 0, e 1, e 2, e 3, e 4, e 5, e 6], .int .i64 d] w (BoolPost (CellT K N C k (simpleT T) d P) w) := by
  obtain ⟨p0, pL, p1, pK, hN, p5, pC, io, kc, p6, hk, hrow⟩ := h
  obtain ⟨c0, hc0⟩ : ∃ x, x = e 2 := ⟨_, rfl⟩
  have hN' := Lib.hid hN
  obtain ⟨p2, ⟨ao, ac, p3, ha, _⟩, ⟨bo, bc, p4, hb, _⟩⟩ := hN
  rw [p2, p3, p4] at hN'
  rw [p0, p1, p2, p3, p4, p5, p6]
  have kk1 := hk.1; have kk2 := hk.2.1
  have hbel := Lib.hid ((Below.refl w.heap.size w).alloc (Nat.le_refl _) (.cells #[.int .u64 L, .int .i64 K, .bool N.neg, .slice ao N.an ac, .slice bo N.am bc, .int .i64 C, .slice io k kc] 44))
  have hx := Lib.hid (Box7.new (w := w) (B := w.heap.size) (.int .u64 L) (.int .i64 K) (.bool N.neg) (.slice ao N.an ac) (.slice bo N.am bc) (.int .i64 C) (.slice io k kc) 44 rfl)
  have hr1 := Lib.hid hrow; have hS' := Lib.hid hS; have hRT := Lib.hid hR
  clear p0 pL p1 pK p2 p3 p4 p5 pC p6 ha hb hk hrow hS hR hc0 c0
  by_cases K0 : K = 0
  · subst K0
    by_cases C0 : C = 0
    · subst C0
      by_cases k0 : k = 0
      · subst k0
        go_enter Try.func35, Try.ntmps35
        go_wp2_with fail
        refine (numRight_any N _ _ _ _ (hN'.out.below hbel.out)).mono ?_
        rintro e' w1 ⟨r, rfl, hr, hb1⟩
        have b1 := Lib.hid (hbel.out.trans (hb1.mono hbel.out.size)); have hr' := Lib.hid hr
        clear hb1 hr
        go_wp2_with fail
        go_ret
        refine ⟨r, rfl, ⟨fun h => .inl ⟨rfl, rfl, rfl, hr'.out.1 h⟩, fun h => hr'.out.2 ?_⟩, b1.out⟩
        rcases h with h | h | h
        · exact h.2.2.2
        · exact absurd h.1 (by decide)
        · exact absurd h.1 (by decide)
      · have kb : ((k : Int) == 0) = false := by rw [beq_eq_false_iff_ne]; omega
        have hn := Lib.hid k0
        clear k0
        go_enter Try.func35, Try.ntmps35
        go_wp2_with fail
        go_ret
        refine ⟨false, rfl, ⟨fun h => (Bool.false_ne_true h).elim, fun h => ?_⟩, hbel.out⟩
        rcases h with h | h | h
        · exact absurd h.2.2.1 hn.out
        · exact absurd h.1 (by decide)
        · exact absurd h.1 (by decide)
    · have kb : (C == 0) = false := by rw [beq_eq_false_iff_ne]; exact C0
      have hn := Lib.hid C0
      clear C0
      go_enter Try.func35, Try.ntmps35
      go_wp2_with fail
      go_ret
      refine ⟨false, rfl, ⟨fun h => (Bool.false_ne_true h).elim, fun h => ?_⟩, hbel.out⟩
      rcases h with h | h | h
      · exact absurd h.2.1 hn.out
      · exact absurd h.1 (by decide)
      · exact absurd h.1 (by decide)
  by_cases K1 : K = 1
  · subst K1
    clear K0
    go_enter Try.func35, Try.ntmps35
    go_wp2_with fail
    refine (zero8_any N _ _ _ _ (hN'.out.below hbel.out)).mono ?_
    rintro e' w1 ⟨rfl, hb1⟩
    have b1 := Lib.hid (hbel.out.trans (hb1.mono hbel.out.size)); have x1 := hx.out.later hb1
    have g5 := x1.c5; have g6 := x1.c6
    clear hb1 hx x1
    obtain ⟨z, hz⟩ : ∃ z, z = zeroF N := ⟨_, rfl⟩
    have hz' := Lib.hid hz
    rw [← hz]
    clear hz
    cases z with
    | false =>
      go_wp2_with fail
      go_ret
      refine ⟨false, rfl, ⟨fun h => (Bool.false_ne_true h).elim, fun h => ?_⟩, b1.out⟩
      have hzo := hz'.out
      rcases h with h | h | h
      · exact absurd h.1 (by decide)
      · rw [h.2.1] at hzo; cases hzo
      · exact absurd h.1 (by decide)
    | true =>
      by_cases k0 : k = 0
      · subst k0
        go_wp2_with fail
        refine (may6_any C _).mono ?_
        rintro e' w2 ⟨rfl, rfl⟩
        go_wp2_with fail
        go_ret
        refine ⟨_, rfl, ⟨fun h => .inr (.inl ⟨rfl, hz'.out.symm, rfl, h⟩), fun h => ?_⟩, b1.out⟩
        rcases h with h | h | h
        · exact absurd h.1 (by decide)
        · exact h.2.2.2
        · exact absurd h.1 (by decide)
      · have kb : ((k : Int) == 0) = false := by rw [beq_eq_false_iff_ne]; omega
        have hn := Lib.hid k0
        clear k0
        go_wp2_with fail
        go_ret
        refine ⟨false, rfl, ⟨fun h => (Bool.false_ne_true h).elim, fun h => ?_⟩, b1.out⟩
        rcases h with h | h | h
        · exact absurd h.1 (by decide)
        · exact absurd h.2.2.1 hn.out
        · exact absurd h.1 (by decide)
  by_cases K2 : K = 2
  · subst K2
    clear K0 K1
    go_enter Try.func35, Try.ntmps35
    go_wp2_with fail
    refine (zero8_any N _ _ _ _ (hN'.out.below hbel.out)).mono ?_
    rintro e' w1 ⟨rfl, hb1⟩
    have b1 := Lib.hid (hbel.out.trans (hb1.mono hbel.out.size)); have x1 := hx.out.later hb1
    have hx1 := Lib.hid x1
    have g5 := x1.c5; have g6 := x1.c6
    clear hb1 hx x1
    obtain ⟨z, hz⟩ : ∃ z, z = zeroF N := ⟨_, rfl⟩
    have hz' := Lib.hid hz
    rw [← hz]
    clear hz
    cases z with
    | false =>
      go_wp2_with fail
      go_ret
      refine ⟨false, rfl, ⟨fun h => (Bool.false_ne_true h).elim, fun h => ?_⟩, b1.out⟩
      have hzo := hz'.out
      rcases h with h | h | h
      · exact absurd h.1 (by decide)
      · exact absurd h.1 (by decide)
      · rw [h.2.1] at hzo; cases hzo
    | true =>
      by_cases C0 : C = 0
      · subst C0
        by_cases k1 : k = 1
        · subst k1
          by_cases d0 : d = 0
          · subst d0
            go_wp2_with fail
            go_ret
            refine ⟨false, rfl, ⟨fun h => (Bool.false_ne_true h).elim, fun h => ?_⟩, b1.out⟩
            rcases h with h | h | h
            · exact absurd h.1 (by decide)
            · exact absurd h.1 (by decide)
            · exact absurd h.2.2.2.2.1 (by decide)
          · have hd0 : 0 < d := by omega
            have hd1 : (0 : Int) < (d : Int) := by omega
            clear d0
            rcases hr1.out with h0 | ⟨b, o, rfl, hrows⟩
            · omega
            obtain ⟨u0, u1, u2, r0, r1, r2, r3⟩ := hrows 0 (by decide)
            rw [Nat.zero_mul, Nat.add_zero] at r0 r1 r2
            have s0 := cell_below r0 b1.out; have s1 := cell_below r1 b1.out; have s2 := cell_below r2 b1.out
            have hr3 := Lib.hid r3
            clear hrows
            go_wp2_with fail
            refine (simple8_any T u0 u1 u2 _ (ArrP.below _ _ _ _ (hRT.out _ _ _ hr3.out) b1.out)).mono ?_
            rintro e' w2 ⟨rfl, hb2⟩
            have b2 := Lib.hid (b1.out.trans (hb2.mono b1.out.size))
            have x2 := hx1.out.later hb2
            have t6 := x2.c6
            have v0 := cell_below r0 b2.out; have v1 := cell_below r1 b2.out; have v2 := cell_below r2 b2.out
            obtain ⟨si, hsi⟩ : ∃ si, si = simpleT T := ⟨_, rfl⟩
            have hsi' := Lib.hid hsi
            rw [← hsi]
            clear hsi s0 s1 s2 r0 r1 r2 r3 hb2 x2 g5 g6
            cases si with
            | true =>
              go_wp2_with fail
              go_ret
              refine ⟨false, rfl, ⟨fun h => (Bool.false_ne_true h).elim, fun h => ?_⟩, b2.out⟩
              have hso := hsi'.out
              rcases h with h | h | h
              · exact absurd h.1 (by decide)
              · exact absurd h.1 (by decide)
              · rw [h.2.2.2.2.2.1] at hso; cases hso
            | false =>
              go_wp2_with fail
              refine (hS'.out u0 u1 u2 _ hr3.out b2.out hd0).mono ?_
              rintro e' w3 ⟨r, rfl, hr, hb3⟩
              have b3 := Lib.hid (b2.out.trans (hb3.mono b2.out.size)); have hr' := Lib.hid hr
              clear hb3 hr v0 v1 v2 t6
              go_wp2_with fail
              go_ret
              refine ⟨r, rfl, ⟨fun h => .inr (.inr ⟨rfl, hz'.out.symm, rfl, rfl, hd0, hsi'.out.symm, hr'.out.1 h⟩), fun h => hr'.out.2 ?_⟩, b3.out⟩
              rcases h with h | h | h
              · exact absurd h.1 (by decide)
              · exact absurd h.1 (by decide)
              · exact h.2.2.2.2.2.2
        · have kb : ((k : Int) == 1) = false := by rw [beq_eq_false_iff_ne]; omega
          have hn := Lib.hid k1
          clear k1
          go_wp2_with fail
          go_ret
          refine ⟨false, rfl, ⟨fun h => (Bool.false_ne_true h).elim, fun h => ?_⟩, b1.out⟩
          rcases h with h | h | h
          · exact absurd h.1 (by decide)
          · exact absurd h.1 (by decide)
          · exact absurd h.2.2.2.1 hn.out
      · have kb : (C == 0) = false := by rw [beq_eq_false_iff_ne]; exact C0
        have hn := Lib.hid C0
        clear C0
        go_wp2_with fail
        go_ret
        refine ⟨false, rfl, ⟨fun h => (Bool.false_ne_true h).elim, fun h => ?_⟩, b1.out⟩
        rcases h with h | h | h
        · exact absurd h.1 (by decide)
        · exact absurd h.1 (by decide)
        · exact absurd h.2.2.1 hn.out
  have kb0 : (K == 0) = false := by rw [beq_eq_false_iff_ne]; exact K0
  have kb1 : (K == 1) = false := by rw [beq_eq_false_iff_ne]; exact K1
  have kb2 : (K == 2) = false := by rw [beq_eq_false_iff_ne]; exact K2
  have h0 := Lib.hid K0; have h1 := Lib.hid K1; have h2 := Lib.hid K2
  clear K0 K1 K2
  go_enter Try.func35, Try.ntmps35
  go_wp2_with fail
  go_ret
  refine ⟨false, rfl, ⟨fun h => (Bool.false_ne_true h).elim, fun h => ?_⟩, hbel.out⟩
  rcases h with h | h | h
  · exact absurd h.1 h0.out
  · exact absurd h.1 h1.out
  · exact absurd h.1 h2.out

end Go.Proofs.Ytmkjebembicljaa

namespace Go.Proofs.Ytmkjebembicljaa
open Go.RowKit Num

set_option maxRecDepth 20000 in
set_option maxHeartbeats 8000000 in
theorem right8_any : ∀ (A : Tree) (d : Nat) (c0 c1 c2 : Value) (w : World), ArrP w A c0 c1 c2 → d ≤ 8 →
    Calls Try.prog 9 #[.agg #[c0, c1, c2], .int .i64 d] w (BoolPost (RightT A d) w) := by
  intro A
  induction A with
  | leaf => intros; exact (ArrP.leaf ‹ArrP _ Tree.leaf _ _ _›).elim
  | arr S n sh m L K C N k sub ih =>
    intro d c0 c1 c2 w h hd8
    obtain ⟨rfl, _, ⟨ao, nc, rfl, hn, hsh, _⟩, co, mc, rfl, hm, hc⟩ := h
    have n1 := hn.1; have n2 := hn.2.1; have m1 := hm.1; have m2 := hm.2.1; have m3 := hm.2.2
    have hbel := Lib.hid ((Below.refl w.heap.size w).alloc (Nat.le_refl _) (.cells #[.int .u64 S, .slice ao n nc, .slice co m mc] 26))
    have hx := Lib.hid (Box3.new (w := w) (B := w.heap.size) (.int .u64 S) (.slice ao n nc) (.slice co m mc) 26 rfl)
    have hsh1 := Lib.hid (hsh.below hbel.out)
    have hc1 := Lib.hid hc
    clear hn hm hsh hc
    go_enter Try.func9, Try.ntmps9
    go_wp2_with fail
    refine (count7_any ao n nc sh _ (by omega) hsh1.out).mono ?_
    rintro e' w1 ⟨⟨M, E, rfl, hcnt⟩, rfl⟩
    have hcnt' := Lib.hid hcnt
    have z2 := hx.out.c2
    clear hcnt
    by_cases hE : E = 0
    · subst hE
      have hs := Lib.hid (hcnt'.out.shape rfl)
      by_cases hM : M = m
      · subst hM
        go_wp2_with fail
        go_loopw [7] (fun j wr => ∃ i : Nat, i ≤ m ∧ j = .int .i64 i ∧ Hid (∀ t, t < i → CellT (K t) (N t) (C t) (k t) (simpleT (sub t 0)) d (RightT (sub t 0) (d - 1))) ∧ Hid (Box3 wr w.heap.size (.int .u64 S) (.slice ao n nc) (.slice co m mc)) ∧ Hid (Below w.heap.size w wr)) (fun j _ => m - (intOfZ j).toNat)
        case atStart => exact ⟨0, Nat.zero_le _, rfl, Lib.hid fun t h => by omega, hx, hbel⟩
        case round =>
          obtain ⟨i, hi, rfl, hd, hx2, hb⟩ := hrel
          clear hx hbel hsh1 z2
          by_cases hlt : i < m
          · rcases hc1.out with h0 | ⟨b, o, rfl, hcells⟩
            · omega
            obtain ⟨e, he, hcell⟩ := hcells i hlt
            have u2 := hx2.out.c2
            have m0 := cell_below (he 0 (by decide)) hb.out
            rw [Nat.add_zero] at m0
            have m1 := cell_below (he 1 (by decide)) hb.out
            have m2 := cell_below (he 2 (by decide)) hb.out
            have m3 := cell_below (he 3 (by decide)) hb.out
            have m4 := cell_below (he 4 (by decide)) hb.out
            have m5 := cell_below (he 5 (by decide)) hb.out
            have m6 := cell_below (he 6 (by decide)) hb.out
            have hcall := Lib.hid (cell8_of (L i) (K i) (N i) (C i) (k i) _ e (sub i 0) d (RightT (sub i 0) (d - 1)) wr (hcell.below hb.out fun j d0 d1 d2 _ hd => ArrP.below _ _ _ _ hd hb.out) hd8 (fun d0 d1 d2 r => r)
              (fun d0 d1 d2 w' r hw' hd0 => by
                have q := ih i 0 (d - 1) d0 d1 d2 w' (ArrP.below _ _ _ _ r hw') (by omega)
                rwa [show (((d - 1 : Nat) : Int)) = (d : Int) - 1 from by omega] at q))
            clear hcells he hcell
            go_wp2_with fail
            refine hcall.out.mono ?_
            rintro e2 w2 ⟨r, rfl, hr, hb2⟩
            have hr' := Lib.hid hr
            have b3 := Lib.hid (hb.out.trans (hb2.mono hb.out.size)); have x3 := Lib.hid (hx2.out.later hb2)
            clear hr hb2 hcall u2 m0 m1 m2 m3 m4 m5 m6
            cases r with
            | true =>
              go_wp2_with fail
              go_roundw
              case rel =>
                refine ⟨i + 1, by omega, by go_num, Lib.hid fun t ht => ?_, x3, b3⟩
                by_cases e : t = i
                · rw [e]; exact hr'.out.1 (by first | exact rfl | trivial)
                · exact hd.out t (by omega)
              case measure => simp [intOfZ]; omega
            | false =>
              go_wp2_with fail
              go_ret
              exact ⟨false, rfl, ⟨fun h => (Bool.false_ne_true h).elim, fun h => absurd (hr'.out.2 (h.2 i hlt)) Bool.false_ne_true⟩, b3.out⟩
          · obtain rfl : i = m := by omega
            go_wp2_with fail
            go_ret
            exact ⟨true, rfl, ⟨fun _ => ⟨hs.out, hd.out⟩, fun _ => rfl⟩, hb.out⟩
      · have hd : (M != (m : Int)) = true := by rw [bne_iff_ne]; exact hM
        have hn := Lib.hid hM
        clear hM
        go_wp2_with fail
        go_ret
        refine ⟨false, rfl, ⟨fun h => (Bool.false_ne_true h).elim, fun h => absurd ?_ hn.out⟩, hbel.out⟩
        rw [hs.out.all, ← h.1.all]
    · have hd : (E != 0) = true := by rw [bne_iff_ne]; exact hE
      have hn := Lib.hid hE
      clear hE
      go_wp2_with fail
      go_ret
      exact ⟨false, rfl, ⟨fun h => (Bool.false_ne_true h).elim, fun h => absurd h.1 ((hcnt'.out.none hn.out).2.2 _)⟩, hbel.out⟩

end Go.Proofs.Ytmkjebembicljaa

namespace Go.Proofs.Ytmkjebembicljaa
open Go.RowKit Num

/-- A cell by its fields. -/
structure CellD where
  L : Nat
  K : Int
  N : NumF
  C : Int
  k : Nat
  sub : Nat → Tree

def CellR (w : World) (c : CellD) (e : Nat → Value) : Prop := CellP w c.L c.K c.N c.C c.k (fun j d0 d1 d2 => ArrP w (c.sub j) d0 d1 d2) e

/-- What a call that makes a cell tells. -/
def CellPost (c : CellD) (w : World) (e : Ending) (w' : World) : Prop := ∃ v : Nat → Value, e = .returned (.agg #[v 0, v 1, v 2, v 3, v 4, v 5, v 6]) ∧ CellR w' c v ∧ Below w.heap.size w w'

def zeroN : NumF := ⟨false, 0, fun _ => 0, 0, fun _ => 0⟩

def packT : Tree → CellD
  | .leaf => ⟨0, 0, zeroN, 0, 0, fun _ => .leaf⟩
  | .arr S n sh m L K C N k sub => if n = 0 ∧ m = 1 then ⟨orL S (L 0), K 0, N 0, C 0, k 0, sub 0⟩ else ⟨S, 2, zeroN, 0, 1, fun _ => .arr S n sh m L K C N k sub⟩

def unpackT (c : CellD) : Tree :=
  if c.K = 2 ∧ c.k = 1 then raiseT (c.sub 0) c.L else .arr c.L 0 (fun _ => 0) 1 (fun _ => c.L) (fun _ => c.K) (fun _ => c.C) (fun _ => c.N) (fun _ => c.k) (fun _ => c.sub)

theorem Box7.setAll {w : World} {B : Nat} {z0 z1 z2 z3 z4 z5 z6 : Value} (h : Box7 w B z0 z1 z2 z3 z4 z5 z6) (v0 v1 v2 v3 v4 v5 v6 : Value) :
    Box7 (((((((w.setCell ⟨B, 0, none⟩ v0).setCell ⟨B, 1, none⟩ v1).setCell ⟨B, 2, none⟩ v2).setCell ⟨B, 3, none⟩ v3).setCell ⟨B, 4, none⟩ v4).setCell ⟨B, 5, none⟩ v5).setCell ⟨B, 6, none⟩ v6) B v0 v1 v2 v3 v4 v5 v6 := by
  have ne : ∀ {j k : Nat}, j ≠ k → (⟨B, j, none⟩ : Addr) ≠ ⟨B, k, none⟩ := fun h e => h (by injection e)
  have lt : ∀ {j : Nat} {x v : Value} {w' : World}, w'.cell? ⟨B, j, none⟩ = some x → (w'.setCell ⟨B, j, none⟩ v).cell? ⟨B, j, none⟩ = some v := fun h => World.cell?_setCell_same _ _ _ h
  have sk : ∀ {j k : Nat} {x : Option Value} {v : Value} {w' : World}, j ≠ k → w'.cell? ⟨B, j, none⟩ = x → (w'.setCell ⟨B, k, none⟩ v).cell? ⟨B, j, none⟩ = x := fun hn h => (cell_set_ne (ne hn)).trans h
  refine ⟨?_, ?_, ?_, ?_, ?_, ?_, ?_, fun j => by simp only [World.frozen?_setCell]; exact h.fr j⟩
  · exact sk (by decide) (sk (by decide) (sk (by decide) (sk (by decide) (sk (by decide) (sk (by decide) (lt h.c0))))))
  · exact sk (by decide) (sk (by decide) (sk (by decide) (sk (by decide) (sk (by decide) (lt (sk (by decide) h.c1))))))
  · exact sk (by decide) (sk (by decide) (sk (by decide) (sk (by decide) (lt (sk (by decide) (sk (by decide) h.c2))))))
  · exact sk (by decide) (sk (by decide) (sk (by decide) (lt (sk (by decide) (sk (by decide) (sk (by decide) h.c3))))))
  · exact sk (by decide) (sk (by decide) (lt (sk (by decide) (sk (by decide) (sk (by decide) (sk (by decide) h.c4))))))
  · exact sk (by decide) (lt (sk (by decide) (sk (by decide) (sk (by decide) (sk (by decide) (sk (by decide) h.c5))))))
  · exact lt (sk (by decide) (sk (by decide) (sk (by decide) (sk (by decide) (sk (by decide) (sk (by decide) h.c6))))))

theorem below_setAll {w w' : World} {A B : Nat} (h : Below A w w') (hB : A ≤ B) (v0 v1 v2 v3 v4 v5 v6 : Value) :
    Below A w (((((((w'.setCell ⟨B, 0, none⟩ v0).setCell ⟨B, 1, none⟩ v1).setCell ⟨B, 2, none⟩ v2).setCell ⟨B, 3, none⟩ v3).setCell ⟨B, 4, none⟩ v4).setCell ⟨B, 5, none⟩ v5).setCell ⟨B, 6, none⟩ v6) :=
  ((((((h.setCell (p := ⟨B, 0, none⟩) hB v0).setCell (p := ⟨B, 1, none⟩) hB v1).setCell (p := ⟨B, 2, none⟩) hB v2).setCell (p := ⟨B, 3, none⟩) hB v3).setCell (p := ⟨B, 4, none⟩) hB v4).setCell (p := ⟨B, 5, none⟩) hB v5).setCell (p := ⟨B, 6, none⟩) hB v6

theorem CellP.again {w : World} {L L' : Nat} {K : Int} {N : NumF} {C : Int} {k : Nat} {R : Nat → Value → Value → Value → Prop} {e : Nat → Value} (h : CellP w L K N C k R e) (hl : IsL L') : CellP w L' K N C k R (fun i => if i = 0 then .int .u64 (L' : Nat) else e i) := by
  obtain ⟨_, _, h⟩ := h
  exact ⟨rfl, hl, h⟩

theorem Box7.aside {w : World} {B D : Nat} {v0 v1 v2 v3 v4 v5 v6 : Value} (h : Box7 w B v0 v1 v2 v3 v4 v5 v6) (hne : B ≠ D) (t : Nat) (u : Value) : Box7 (w.setCell ⟨D, t, none⟩ u) B v0 v1 v2 v3 v4 v5 v6 := by
  have ne : ∀ j, (⟨B, j, none⟩ : Addr) ≠ ⟨D, t, none⟩ := fun j e => hne (by injection e)
  exact ⟨(cell_set_ne (ne _)).trans h.c0, (cell_set_ne (ne _)).trans h.c1, (cell_set_ne (ne _)).trans h.c2, (cell_set_ne (ne _)).trans h.c3, (cell_set_ne (ne _)).trans h.c4, (cell_set_ne (ne _)).trans h.c5, (cell_set_ne (ne _)).trans h.c6, fun j => by rw [World.frozen?_setCell]; exact h.fr j⟩

theorem made7 {w w2 : World} {A : Tree} {c0 c1 c2 : Value} {S : Nat} {z0 z1 z2 z3 z4 z5 z6 : Value} (t : TypeId) (h : ArrP w A c0 c1 c2) (hS : IsL S) (b2 : Below w.heap.size w w2) (y2 : Box7 w2 (w.heap.size + 1) z0 z1 z2 z3 z4 z5 z6) (W : World)
    (hW : W = (((((((w2.setCell ⟨w.heap.size + 1, 0, none⟩ (.int .u64 S)).setCell ⟨w.heap.size + 1, 1, none⟩ (.int .i64 2)).setCell ⟨w.heap.size + 1, 2, none⟩ (.bool false)).setCell ⟨w.heap.size + 1, 3, none⟩ (.slice none 0 0)).setCell ⟨w.heap.size + 1, 4, none⟩ (.slice none 0 0)).setCell ⟨w.heap.size + 1, 5, none⟩ (.int .i64 0)).setCell ⟨w.heap.size + 1, 6, none⟩ (.slice (some ⟨w2.heap.size, 0, none⟩) 1 1)).alloc (.cells #[c0, c1, c2] t)) :
    Box7 W (w.heap.size + 1) (.int .u64 S) (.int .i64 2) (.bool false) (.slice none 0 0) (.slice none 0 0) (.int .i64 0) (.slice (some ⟨w2.heap.size, 0, none⟩) 1 1) ∧ Below w.heap.size w W ∧
    CellP W S 2 zeroN 0 1 (fun _ d0 d1 d2 => ArrP W A d0 d1 d2) (fun i => (#[.int .u64 S, .int .i64 2, .bool false, .slice none 0 0, .slice none 0 0, .int .i64 0, .slice (some ⟨w2.heap.size, 0, none⟩) 1 1] : Array Value).getD i (.bool false)) := by
  have z := y2.setAll (.int .u64 S) (.int .i64 2) (.bool false) (.slice none 0 0) (.slice none 0 0) (.int .i64 0) (.slice (some ⟨w2.heap.size, 0, none⟩) 1 1)
  have bz := below_setAll b2 (B := w.heap.size + 1) (by omega) (.int .u64 S) (.int .i64 2) (.bool false) (.slice none 0 0) (.slice none 0 0) (.int .i64 0) (.slice (some ⟨w2.heap.size, 0, none⟩) 1 1)
  have zA := z.alloc (.cells #[c0, c1, c2] t)
  have bA := bz.alloc bz.size (.cells #[c0, c1, c2] t)
  have n3 := Box3.new (w := (((((((w2.setCell ⟨w.heap.size + 1, 0, none⟩ (.int .u64 S)).setCell ⟨w.heap.size + 1, 1, none⟩ (.int .i64 2)).setCell ⟨w.heap.size + 1, 2, none⟩ (.bool false)).setCell ⟨w.heap.size + 1, 3, none⟩ (.slice none 0 0)).setCell ⟨w.heap.size + 1, 4, none⟩ (.slice none 0 0)).setCell ⟨w.heap.size + 1, 5, none⟩ (.int .i64 0)).setCell ⟨w.heap.size + 1, 6, none⟩ (.slice (some ⟨w2.heap.size, 0, none⟩) 1 1))) (B := w2.heap.size) c0 c1 c2 t (by simp)
  rw [← hW] at zA bA n3
  refine ⟨zA, bA, rfl, hS, rfl, ⟨by decide, by decide⟩, ⟨rfl, ⟨none, 0, rfl, ⟨Nat.le_refl _, by decide, by decide⟩, .inl rfl, fun j hj => absurd hj (Nat.not_lt_zero _)⟩, ⟨none, 0, rfl, ⟨Nat.le_refl _, by decide, by decide⟩, .inl rfl, fun j hj => absurd hj (Nat.not_lt_zero _)⟩⟩, rfl, ⟨by decide, by decide⟩, _, _, rfl, ⟨Nat.le_refl _, by decide, by decide⟩, .inr ⟨_, _, rfl, fun j hj => ?_⟩⟩
  obtain rfl : j = 0 := by omega
  exact ⟨c0, c1, c2, n3.c0, n3.c1, n3.c2, ArrP.below _ _ _ _ h bA⟩

theorem madeU {w w2 : World} {L : Nat} {K : Int} {N : NumF} {C : Int} {k : Nat} {sub : Nat → Tree} {e : Nat → Value} {z0 z1 z2 : Value} (t : TypeId) (h : CellR w ⟨L, K, N, C, k, sub⟩ e) (hL : IsL L) (b2 : Below w.heap.size w w2) (y2 : Box3 w2 (w.heap.size + 1) z0 z1 z2)
    (v0 v1 v2 v3 v4 v5 v6 : Value) (hv : (Value.agg #[v0, v1, v2, v3, v4, v5, v6]) = .agg #[e 0, e 1, e 2, e 3, e 4, e 5, e 6]) (W : World)
    (hW : W = (((w2.setCell ⟨w.heap.size + 1, 0, none⟩ (.int .u64 L)).setCell ⟨w.heap.size + 1, 1, none⟩ (.slice none 0 0)).setCell ⟨w.heap.size + 1, 2, none⟩ (.slice (some ⟨w2.heap.size, 0, none⟩) 1 1)).alloc (.cells #[v0, v1, v2, v3, v4, v5, v6] t)) :
    Box3 W (w.heap.size + 1) (.int .u64 L) (.slice none 0 0) (.slice (some ⟨w2.heap.size, 0, none⟩) 1 1) ∧ Below w.heap.size w W ∧
    ArrP W (.arr L 0 (fun _ => 0) 1 (fun _ => L) (fun _ => K) (fun _ => C) (fun _ => N) (fun _ => k) (fun _ => sub)) (.int .u64 L) (.slice none 0 0) (.slice (some ⟨w2.heap.size, 0, none⟩) 1 1) := by
  have z := y2.set (.int .u64 L) (.slice none 0 0) (.slice (some ⟨w2.heap.size, 0, none⟩) 1 1)
  have bz := below_set3 b2 (B := w.heap.size + 1) (by omega) (.int .u64 L) (.slice none 0 0) (.slice (some ⟨w2.heap.size, 0, none⟩) 1 1)
  have zA := z.alloc (.cells #[v0, v1, v2, v3, v4, v5, v6] t)
  have bA := bz.alloc bz.size (.cells #[v0, v1, v2, v3, v4, v5, v6] t)
  have n7 := Box7.new (w := (((w2.setCell ⟨w.heap.size + 1, 0, none⟩ (.int .u64 L)).setCell ⟨w.heap.size + 1, 1, none⟩ (.slice none 0 0)).setCell ⟨w.heap.size + 1, 2, none⟩ (.slice (some ⟨w2.heap.size, 0, none⟩) 1 1))) (B := w2.heap.size) v0 v1 v2 v3 v4 v5 v6 t (by simp)
  rw [← hW] at zA bA n7
  simp only [Value.agg.injEq, Array.mk.injEq, List.cons.injEq, and_true] at hv
  obtain ⟨rfl, rfl, rfl, rfl, rfl, rfl, rfl⟩ := hv
  refine ⟨zA, bA, rfl, hL, ⟨none, 0, rfl, ⟨Nat.le_refl _, by decide, by decide⟩, .inl rfl, fun j hj => absurd hj (Nat.not_lt_zero _)⟩, _, _, rfl, ⟨Nat.le_refl _, by decide, by decide⟩, .inr ⟨_, _, rfl, fun i hi => ?_⟩⟩
  obtain rfl : i = 0 := by omega
  refine ⟨e, fun t ht => ?_, h.below bA fun j d0 d1 d2 _ hd => ArrP.below _ _ _ _ hd bA⟩
  rcases t with _ | _ | _ | _ | _ | _ | _ | t
  · exact n7.c0
  · exact n7.c1
  · exact n7.c2
  · exact n7.c3
  · exact n7.c4
  · exact n7.c5
  · exact n7.c6
  · omega

end Go.Proofs.Ytmkjebembicljaa

namespace Go.Proofs.Ytmkjebembicljaa
open Go.RowKit Num Go.ChangeShapes

section
variable {H : Type} {enc : TypeId × Value → H} {P : Program} {W : World}

theorem weights_all {e : TypeId} {y : DataW H} : ∀ {ds : List (DataW H)}, y ∈ ds → ∀ k ∈ y.weights P e, k ∈ DataW.weightsAll P e ds
  | d :: r, h, k, hk => by
    simp only [DataW.weightsAll, List.mem_append]
    rcases List.mem_cons.1 h with rfl | h
    · exact .inl hk
    · exact .inr (weights_all h k hk)

/-- What a slice that came in is: its elements, each read in its turn. -/
theorem row_open {t e : TypeId} {sz fuel : Nat} {c : Value} {x : DataW H × List MemPlace} (ht : P.underlying t = some (.slice e)) (hc : P.cellsOf e = sz) (hs : 0 < sz) (hb : 0 < P.bytesOf e)
    (h : DataW.trod enc P W 0 (fun _ => true) true fuel t [c] = some x) (hw : ∀ k ∈ x.1.weights P t, k ≤ reachBytes) :
    ∃ ao n nc, c = .slice ao n nc ∧ IsN n nc ∧ (n = 0 ∨ ∃ b o, ao = some ⟨b, o, none⟩ ∧ ∀ i, i < n → ∃ m cs y, m < fuel ∧ cs.length = sz ∧ (∀ j, j < sz → W.cell? ⟨b, o + i * sz + j, none⟩ = cs[j]?) ∧
      DataW.trod enc P W 0 (fun _ => true) true m e cs = some y ∧ ∀ k ∈ y.1.weights P e, k ≤ reachBytes) := by
  rcases DataW.trod_slice ht h with ⟨h0, _⟩ | ⟨a, len, cap, elems, rest, n, hf, h1, rfl, _, hl, hm, hlen, hel, hsp, _⟩
  · obtain rfl : c = .slice none 0 0 := by simpa using h0
    exact ⟨none, 0, 0, rfl, ⟨Nat.le_refl _, by decide, by decide⟩, .inl rfl⟩
  · obtain rfl : c = .slice (some a) len cap := by simpa using h1
    obtain ⟨hrl, _⟩ := hsp rfl
    have hwt : (elems.length + rest.length) * P.bytesOf e ≤ reachBytes := hw _ (by simp [DataW.weights, ht])
    have hcap : cap ≤ reachBytes := by
      rw [hlen, hrl, show len + (cap - len) = cap by omega] at hwt
      exact Nat.le_trans (Nat.le_mul_of_pos_right _ hb) hwt
    have hr : reachBytes < 140737488355328 := reachBytes_lt
    refine ⟨some a, len, cap, rfl, ⟨hl, by unfold maxLen at hm; omega, by omega⟩, ?_⟩
    by_cases h0 : len = 0
    · exact .inl h0
    have each : ∀ i, i < len → ∃ cs y, y ∈ elems ∧ cs.length = sz ∧ (∀ j, j < sz → W.cell? ((a.add (i * sz)).add j) = cs[j]?) ∧ DataW.trod enc P W 0 (fun _ => true) true n e cs = some y := by
      intro i hi
      have h2 := hel i hi
      have hi' : i < elems.length := by omega
      rw [List.getElem?_eq_getElem hi', hc, Option.bind_eq_some_iff] at h2
      obtain ⟨cs, hcs, hy⟩ := h2
      obtain ⟨_, q1, q2⟩ := World.cells?_some hcs
      exact ⟨cs, _, List.getElem_mem hi', q1, q2, hy⟩
    obtain ⟨b, o, spot⟩ := a
    have hspot : spot = none := by
      obtain ⟨cs, y, _, q1, q2, _⟩ := each 0 (by omega)
      have q3 := q2 0 hs
      rw [List.getElem?_eq_getElem (by omega)] at q3
      simpa [Addr.add] using World.cell?_spot q3
    subst hspot
    refine .inr ⟨b, o, rfl, fun i hi => ?_⟩
    obtain ⟨cs, y, hm, q1, q2, q3⟩ := each i hi
    refine ⟨n, cs, y, by omega, q1, fun j hj => by rw [← q2 j hj, Go.WideShapes.add_plain, Go.WideShapes.add_plain], q3, fun k hk => hw k ?_⟩
    simp only [DataW.weights, ht, List.mem_cons, List.mem_append]
    exact .inr (.inl (weights_all (List.mem_map_of_mem hm) k hk))

/-- Of each below n there is one: all at once. -/
theorem pick {α : Type} (d : α) {n : Nat} {p : Nat → α → Prop} (h : ∀ i, i < n → ∃ a, p i a) : ∃ f : Nat → α, ∀ i, i < n → p i (f i) := by
  refine ⟨fun i => if hi : i < n then Classical.choose (h i hi) else d, fun i hi => ?_⟩
  show p i (if hi : i < n then Classical.choose (h i hi) else d)
  rw [dif_pos hi]
  exact Classical.choose_spec (h i hi)

theorem weights_agg {t : TypeId} {fs : Array Field} {parts : List (DataW H)} (ht : P.underlying t = some (.struct fs)) (hw : ∀ k ∈ (DataW.agg parts).weights P t, k ≤ reachBytes) {j : Nat} {f : Field} {d : DataW H} (hf : fs[j]? = some f) (hd : parts[j]? = some d) : ∀ k ∈ d.weights P f.type, k ≤ reachBytes := by
  intro k hk
  refine hw k ?_
  simp only [DataW.weights, ht]
  exact DataW.weights_mem_each (j := j) (by simp [hf]) hd k hk

theorem struct_open {t : TypeId} {fs : Array Field} {fuel : Nat} {cs : List Value} {x : DataW H × List MemPlace} (ht : P.underlying t = some (.struct fs)) (h : DataW.trod enc P W 0 (fun _ => true) true fuel t cs = some x) (hw : ∀ k ∈ x.1.weights P t, k ≤ reachBytes) :
    ∃ n, n < fuel ∧ cs.length = P.cellsOf t ∧ ∀ (i : Nat) (f : Field), fs[i]? = some f → ∃ y, DataW.trod enc P W 0 (fun _ => true) true n f.type ((cs.drop f.offset).take (P.cellsOf f.type)) = some y ∧ ∀ k ∈ y.1.weights P f.type, k ≤ reachBytes := by
  obtain ⟨xs, n, hf, rfl, hl, hlen, hx⟩ := DataW.trod_struct ht h
  refine ⟨n, by omega, hl, fun i f hi => ?_⟩
  have hi' : i < xs.length := by rw [hlen]; exact (Array.getElem?_eq_some_iff.1 hi).1
  have h1 := hx i f hi
  rw [List.getElem?_eq_getElem hi'] at h1
  exact ⟨_, h1, weights_agg ht hw hi (by rw [List.getElem?_map, List.getElem?_eq_getElem hi']; rfl)⟩
end

variable {H : Type} {enc : TypeId × Value → H} {W : World}

theorem ints_in {fuel : Nat} {c : Value} {x : DataW H × List MemPlace} (h : DataW.trod enc Try.prog W 0 (fun _ => true) true fuel 23 [c] = some x) (hw : ∀ k ∈ x.1.weights Try.prog 23, k ≤ reachBytes) :
    ∃ ao n nc, c = .slice ao n nc ∧ IsN n nc ∧ ∃ f : Nat → Int, SlZ W ao n f ∧ ∀ j, j < n → IsZ (f j) := by
  obtain ⟨ao, n, nc, rfl, hn, hr⟩ := row_open Try.underlying23 (show Try.prog.cellsOf 3 = 1 by kernel_rfl) (by decide) (show 0 < Try.prog.bytesOf 3 from of_decide_eq_true (by kernel_rfl)) h hw
  refine ⟨ao, n, nc, rfl, hn, ?_⟩
  rcases hr with h0 | ⟨b, o, rfl, hr⟩
  · exact ⟨fun _ => 0, .inl h0, fun j hj => by omega⟩
  · obtain ⟨f, hf⟩ := pick (0 : Int) (p := fun i v => W.cell? ⟨b, o + i, none⟩ = some (.int .i64 v) ∧ IsZ v) fun i hi => by
      obtain ⟨m, cs, y, _, _, q2, q3, _⟩ := hr i hi
      obtain ⟨v, rfl, rfl, hv⟩ := DataW.trod_int Try.underlying3 q3
      have q4 := q2 0 (by decide)
      exact ⟨v, by simpa using q4, bounds_i64 hv⟩
    exact ⟨f, .inr ⟨b, o, rfl, fun j hj => (hf j hj).1⟩, fun j hj => (hf j hj).2⟩

theorem limbs_in {fuel : Nat} {c : Value} {x : DataW H × List MemPlace} (h : DataW.trod enc Try.prog W 0 (fun _ => true) true fuel 39 [c] = some x) (hw : ∀ k ∈ x.1.weights Try.prog 39, k ≤ reachBytes) :
    ∃ n f ao ac, c = .slice ao n ac ∧ IsN n ac ∧ Sl W ao n f ∧ Lim f n := by
  obtain ⟨ao, n, nc, rfl, hn, hr⟩ := row_open Try.underlying39 (show Try.prog.cellsOf 87 = 1 by kernel_rfl) (by decide) (show 0 < Try.prog.bytesOf 87 from of_decide_eq_true (by kernel_rfl)) h hw
  rcases hr with h0 | ⟨b, o, rfl, hr⟩
  · exact ⟨n, fun _ => 0, ao, nc, rfl, hn, .inl h0, fun j hj => by omega⟩
  · obtain ⟨f, hf⟩ := pick (0 : Nat) (p := fun i v => W.cell? ⟨b, o + i, none⟩ = some (.int .u32 (v : Nat)) ∧ v < 4294967296) fun i hi => by
      obtain ⟨m, cs, y, _, _, q2, q3, _⟩ := hr i hi
      obtain ⟨v, rfl, rfl, hv⟩ := DataW.trod_int Try.underlying87 q3
      have q4 := q2 0 (by decide)
      have q5 := bounds_u32 hv
      exact ⟨v.toNat, by rw [Int.toNat_of_nonneg q5.1]; simpa using q4, by omega⟩
    exact ⟨n, f, _, nc, rfl, hn, .inr ⟨b, o, rfl, fun j hj => (hf j hj).1⟩, fun j hj => (hf j hj).2⟩

theorem three_of {cs : List Value} (h : cs.length = 3) : ∃ c0 c1 c2, cs = [c0, c1, c2] := by
  match cs, h with
  | [c0, c1, c2], _ => exact ⟨c0, c1, c2, rfl⟩

theorem seven_of {cs : List Value} (h : cs.length = 7) : ∃ e : Nat → Value, cs = [e 0, e 1, e 2, e 3, e 4, e 5, e 6] := by
  match cs, h with
  | [c0, c1, c2, c3, c4, c5, c6], _ => exact ⟨fun i => [c0, c1, c2, c3, c4, c5, c6].getD i c0, rfl⟩

theorem num_in {fuel : Nat} {c0 c1 c2 : Value} {x : DataW H × List MemPlace} (h : DataW.trod enc Try.prog W 0 (fun _ => true) true fuel 41 [c0, c1, c2] = some x) (hw : ∀ k ∈ x.1.weights Try.prog 41, k ≤ reachBytes) : ∃ N, NumP W N c0 c1 c2 := by
  obtain ⟨n, _, _, hf⟩ := struct_open Try.underlying41 h hw
  obtain ⟨y0, h0, _⟩ := hf 0 _ rfl
  obtain ⟨y1, h1, w1⟩ := hf 1 _ rfl
  obtain ⟨y2, h2, w2⟩ := hf 2 _ rfl
  have kb : Try.prog.cellsOf 4 = 1 := by kernel_rfl
  have ks : Try.prog.cellsOf 39 = 1 := by kernel_rfl
  have h0' : DataW.trod enc Try.prog W 0 (fun _ => true) true n 4 [c0] = some y0 := by simpa [kb] using h0
  have h1' : DataW.trod enc Try.prog W 0 (fun _ => true) true n 39 [c1] = some y1 := by simpa [ks] using h1
  have h2' : DataW.trod enc Try.prog W 0 (fun _ => true) true n 39 [c2] = some y2 := by simpa [ks] using h2
  obtain ⟨b, e0, _⟩ := DataW.trod_bool Try.underlying4 h0'
  obtain rfl : c0 = .bool b := by simpa using e0
  obtain ⟨an, fa, ao, ac, rfl, q1⟩ := limbs_in h1' w1
  obtain ⟨am, ga, bo, bc, rfl, q2⟩ := limbs_in h2' w2
  exact ⟨⟨b, an, fa, am, ga⟩, rfl, ⟨ao, ac, rfl, q1⟩, ⟨bo, bc, rfl, q2⟩⟩

/-- An array that came in, of a reading of this much fuel. -/
def ArrIn (enc : TypeId × Value → H) (W : World) (fuel : Nat) : Prop := ∀ (cs : List Value) (x : DataW H × List MemPlace), DataW.trod enc Try.prog W 0 (fun _ => true) true fuel 26 cs = some x → (∀ k ∈ x.1.weights Try.prog 26, k ≤ reachBytes) → ∃ (A : Tree) (c0 c1 c2 : Value), cs = [c0, c1, c2] ∧ ArrP W A c0 c1 c2

theorem cell_in {fuel : Nat} (ih : ∀ m, m < fuel → ArrIn enc W m) {cs : List Value} {x : DataW H × List MemPlace} (h : DataW.trod enc Try.prog W 0 (fun _ => true) true fuel 44 cs = some x) (hw : ∀ k ∈ x.1.weights Try.prog 44, k ≤ reachBytes) :
    ∃ (c : CellD) (e : Nat → Value), cs = [e 0, e 1, e 2, e 3, e 4, e 5, e 6] ∧ CellR W c e := by
  obtain ⟨n, hn, hl, hf⟩ := struct_open Try.underlying44 h hw
  have kC : Try.prog.cellsOf 44 = 7 := by kernel_rfl
  obtain ⟨e, rfl⟩ := seven_of (hl.trans kC)
  obtain ⟨y0, h0, _⟩ := hf 0 _ rfl
  obtain ⟨y1, h1, _⟩ := hf 1 _ rfl
  obtain ⟨y2, h2, w2⟩ := hf 2 _ rfl
  obtain ⟨y3, h3, _⟩ := hf 3 _ rfl
  obtain ⟨y4, h4, w4⟩ := hf 4 _ rfl
  have ku : Try.prog.cellsOf 22 = 1 := by kernel_rfl
  have ki : Try.prog.cellsOf 3 = 1 := by kernel_rfl
  have kN : Try.prog.cellsOf 41 = 3 := by kernel_rfl
  have kS : Try.prog.cellsOf 42 = 1 := by kernel_rfl
  have h0' : DataW.trod enc Try.prog W 0 (fun _ => true) true n 22 [e 0] = some y0 := by simpa [ku] using h0
  have h1' : DataW.trod enc Try.prog W 0 (fun _ => true) true n 3 [e 1] = some y1 := by simpa [ki] using h1
  have h2' : DataW.trod enc Try.prog W 0 (fun _ => true) true n 41 [e 2, e 3, e 4] = some y2 := by simpa [kN] using h2
  have h3' : DataW.trod enc Try.prog W 0 (fun _ => true) true n 3 [e 5] = some y3 := by simpa [ki] using h3
  have h4' : DataW.trod enc Try.prog W 0 (fun _ => true) true n 42 [e 6] = some y4 := by simpa [kS] using h4
  obtain ⟨v0, q0, _, r0⟩ := DataW.trod_int Try.underlying22 h0'
  obtain ⟨v1, q1, _, r1⟩ := DataW.trod_int Try.underlying3 h1'
  obtain ⟨v3, q3, _, r3⟩ := DataW.trod_int Try.underlying3 h3'
  obtain ⟨N, hN⟩ := num_in h2' w2
  obtain ⟨ao, k, kc, q6, hk, hr⟩ := row_open Try.underlying42 (show Try.prog.cellsOf 26 = 3 by kernel_rfl) (by decide) (show 0 < Try.prog.bytesOf 26 from of_decide_eq_true (by kernel_rfl)) h4' w4
  have b0 := bounds_u64 r0
  have e0 : e 0 = .int .u64 (v0.toNat : Nat) := by rw [Int.toNat_of_nonneg b0.1]; simpa using q0
  have e1 : e 1 = .int .i64 v1 := by simpa using q1
  have e5 : e 5 = .int .i64 v3 := by simpa using q3
  have hL : IsL v0.toNat := by show v0.toNat < 18446744073709551616; omega
  rcases hr with hk0 | ⟨b, o, rfl, hr⟩
  · exact ⟨⟨v0.toNat, v1, N, v3, k, fun _ => .leaf⟩, e, rfl, e0, hL, e1, bounds_i64 r1, hN, e5, bounds_i64 r3, ao, kc, q6, hk, .inl hk0⟩
  · obtain ⟨sub, hsub⟩ := pick Tree.leaf (p := fun j A => ∃ d0 d1 d2, W.cell? ⟨b, o + j * 3, none⟩ = some d0 ∧ W.cell? ⟨b, o + j * 3 + 1, none⟩ = some d1 ∧ W.cell? ⟨b, o + j * 3 + 2, none⟩ = some d2 ∧ ArrP W A d0 d1 d2) fun j hj => by
      obtain ⟨m, cs, y, hm, _, p2, p3, p4⟩ := hr j hj
      obtain ⟨A, d0, d1, d2, rfl, hA⟩ := ih m (by omega) cs y p3 p4
      exact ⟨A, d0, d1, d2, by simpa using p2 0 (by decide), by simpa using p2 1 (by decide), by simpa using p2 2 (by decide), hA⟩
    exact ⟨⟨v0.toNat, v1, N, v3, k, sub⟩, e, rfl, e0, hL, e1, bounds_i64 r1, hN, e5, bounds_i64 r3, _, kc, q6, hk, .inr ⟨b, o, rfl, hsub⟩⟩

theorem arr_in : ∀ fuel, ArrIn enc W fuel := by
  intro fuel
  induction fuel using Nat.strongRecOn with
  | ind fuel ih =>
    intro cs x h hw
    obtain ⟨n, hn, hl, hf⟩ := struct_open Try.underlying26 h hw
    have kA : Try.prog.cellsOf 26 = 3 := by kernel_rfl
    obtain ⟨c0, c1, c2, rfl⟩ := three_of (hl.trans kA)
    obtain ⟨y0, h0, _⟩ := hf 0 _ rfl
    obtain ⟨y1, h1, w1⟩ := hf 1 _ rfl
    obtain ⟨y2, h2, w2⟩ := hf 2 _ rfl
    have ku : Try.prog.cellsOf 22 = 1 := by kernel_rfl
    have ks : Try.prog.cellsOf 23 = 1 := by kernel_rfl
    have kS : Try.prog.cellsOf 24 = 1 := by kernel_rfl
    have h0' : DataW.trod enc Try.prog W 0 (fun _ => true) true n 22 [c0] = some y0 := by simpa [ku] using h0
    have h1' : DataW.trod enc Try.prog W 0 (fun _ => true) true n 23 [c1] = some y1 := by simpa [ks] using h1
    have h2' : DataW.trod enc Try.prog W 0 (fun _ => true) true n 24 [c2] = some y2 := by simpa [kS] using h2
    obtain ⟨v0, q0, _, r0⟩ := DataW.trod_int Try.underlying22 h0'
    obtain ⟨ao, p, nc, rfl, hp, sh, hsh, hz⟩ := ints_in h1' w1
    obtain ⟨co, m, mc, rfl, hm, hr⟩ := row_open Try.underlying24 (show Try.prog.cellsOf 44 = 7 by kernel_rfl) (by decide) (show 0 < Try.prog.bytesOf 44 from of_decide_eq_true (by kernel_rfl)) h2' w2
    have b0 := bounds_u64 r0
    have e0 : c0 = .int .u64 (v0.toNat : Nat) := by rw [Int.toNat_of_nonneg b0.1]; simpa using q0
    have hL : IsL v0.toNat := by show v0.toNat < 18446744073709551616; omega
    rcases hr with hm0 | ⟨b, o, rfl, hr⟩
    · exact ⟨.arr v0.toNat p sh m (fun _ => 0) (fun _ => 0) (fun _ => 0) (fun _ => zeroN) (fun _ => 0) (fun _ _ => .leaf), _, _, _, rfl, e0, hL, ⟨ao, nc, rfl, hp, hsh, hz⟩, co, mc, rfl, hm, .inl hm0⟩
    · obtain ⟨cd, hcd⟩ := pick (⟨0, 0, zeroN, 0, 0, fun _ => .leaf⟩ : CellD) (p := fun i c => ∃ e : Nat → Value, (∀ t, t < 7 → W.cell? ⟨b, o + i * 7 + t, none⟩ = some (e t)) ∧ CellR W c e) fun i hi => by
        obtain ⟨m', cs, y, hm', _, p2, p3, p4⟩ := hr i hi
        obtain ⟨c, e, rfl, hc⟩ := cell_in (fun q hq => ih q (by omega)) p3 p4
        refine ⟨c, e, fun t ht => ?_, hc⟩
        rw [p2 t ht]
        rcases t with _ | _ | _ | _ | _ | _ | _ | t
        all_goals first | rfl | omega
      exact ⟨.arr v0.toNat p sh m (fun i => (cd i).L) (fun i => (cd i).K) (fun i => (cd i).C) (fun i => (cd i).N) (fun i => (cd i).k) (fun i => (cd i).sub), _, _, _, rfl, e0, hL, ⟨ao, nc, rfl, hp, hsh, hz⟩, _, mc, rfl, hm, .inr ⟨b, o, rfl, hcd⟩⟩

end Go.Proofs.Ytmkjebembicljaa

namespace Go.Proofs.Ytmkjebembicljaa
open Go.RowKit Num

theorem flows_refl (a : Nat) : FlowsL a a := fun _ _ h => h

theorem FlowsL.trans {a b c : Nat} (h : FlowsL a b) (k : FlowsL b c) : FlowsL a c := fun i hi ha => k i hi (h i hi ha)

theorem flows_left (a b : Nat) : FlowsL a (orL a b) := fun i _ h => by rw [hasL_or, h]; rfl

theorem flows_right (a b : Nat) : FlowsL b (orL a b) := fun i _ h => by rw [hasL_or, h, Bool.or_true]

theorem flows_or {a b c : Nat} (h : FlowsL a c) (k : FlowsL b c) : FlowsL (orL a b) c := fun i hi ha => by
  rw [hasL_or, Bool.or_eq_true] at ha
  exact ha.elim (h i hi) (k i hi)

theorem orL_of_flows {a b : Nat} (ha : IsL a) (hb : IsL b) (h : FlowsL b a) : orL a b = a := by
  refine Nat.eq_of_testBit_eq fun i => ?_
  rw [← hasL_bit, ← hasL_bit, hasL_or]
  by_cases hi : i < 64
  · cases hbi : hasL b i with
    | false => rw [Bool.or_false]
    | true => rw [h i hi hbi]; rfl
  · have big : ∀ x, IsL x → hasL x i = false := fun x hx => by
      rw [hasL_bit]
      exact Nat.testBit_lt_two_pow (Nat.lt_of_lt_of_le hx (Nat.pow_le_pow_right (n := 2) (by decide) (show 64 ≤ i by omega)))
    rw [big a ha, big b hb]; rfl

theorem foldN_up {g : Nat → Nat → Nat} {s : Nat} : ∀ n, (∀ i x, i < n → FlowsL x (g i x)) → FlowsL s (foldN g s n)
  | 0, _ => flows_refl s
  | n + 1, h => (foldN_up n fun i x hi => h i x (by omega)).trans (h n _ (by omega))

theorem foldN_least {g : Nat → Nat → Nat} {s c : Nat} (hs : FlowsL s c) : ∀ n, (∀ i x, i < n → FlowsL x c → FlowsL (g i x) c) → FlowsL (foldN g s n) c
  | 0, _ => hs
  | n + 1, h => h n _ (by omega) (foldN_least hs n fun i x hi => h i x (by omega))

theorem foldN_at {g : Nat → Nat → Nat} {s : Nat} : ∀ n, (∀ i x, i < n → FlowsL x (g i x)) → ∀ i, i < n → ∃ x, FlowsL (g i x) (foldN g s n)
  | 0, _, i, hi => by omega
  | n + 1, h, i, hi => by
    by_cases e : i = n
    · subst e; exact ⟨_, flows_refl _⟩
    · obtain ⟨x, hx⟩ := foldN_at (s := s) n (fun i x hi => h i x (by omega)) i (by omega)
      exact ⟨x, hx.trans (h n _ (by omega))⟩

/-- The join of all labels is the least that all flow to. -/
theorem total_flows {S n m : Nat} {sh : Nat → Int} {L : Nat → Nat} {K C : Nat → Int} {N : Nat → NumF} {k : Nat → Nat} {sub : Nat → Nat → Tree} (c : Nat) :
    FlowsL (totalT (.arr S n sh m L K C N k sub)) c ↔ FlowsL S c ∧ ∀ i, i < m → FlowsL (L i) c ∧ ∀ j, j < k i → FlowsL (totalT (sub i j)) c := by
  have inner : ∀ i x, FlowsL (orL x (L i)) (foldN (fun j s => orL s (totalT (sub i j))) (orL x (L i)) (k i)) := fun i x => foldN_up _ fun j y _ => flows_left _ _
  have step : ∀ i x, FlowsL x (foldN (fun j s => orL s (totalT (sub i j))) (orL x (L i)) (k i)) := fun i x => (flows_left _ _).trans (inner i x)
  constructor
  · intro h
    refine ⟨(foldN_up m fun i x _ => step i x).trans h, fun i hi => ?_⟩
    obtain ⟨x, hx⟩ := foldN_at (s := S) m (fun i x _ => step i x) i hi
    refine ⟨(flows_right x (L i)).trans ((inner i x).trans (hx.trans h)), fun j hj => ?_⟩
    obtain ⟨y, hy⟩ := foldN_at (g := fun j s => orL s (totalT (sub i j))) (s := orL x (L i)) (k i) (fun j y _ => flows_left _ _) j hj
    exact (flows_right y (totalT (sub i j))).trans (hy.trans (hx.trans h))
  · rintro ⟨h1, h2⟩
    refine foldN_least h1 m fun i x hi hx => foldN_least (flows_or hx (h2 i hi).1) (k i) fun j y hj hy => flows_or hy ((h2 i hi).2 j hj)

theorem foldN_zero {g : Nat → Nat → Nat} : ∀ n, (∀ i, i < n → g i 0 = 0) → foldN g 0 n = 0
  | 0, _ => rfl
  | n + 1, h => by
    show g n (foldN g 0 n) = 0
    rw [foldN_zero n fun i hi => h i (by omega), h n (by omega)]

theorem orL_zero : orL 0 0 = 0 := rfl

theorem total_erased : ∀ A, totalT (coverT A 0 true) = 0 := by
  intro A
  induction A with
  | leaf => rfl
  | arr S n sh m L K C N k sub ih =>
    show foldN (fun i s => foldN (fun j s => orL s (totalT (coverT (sub i j) 0 true))) (orL s 0) (k i)) 0 m = 0
    refine foldN_zero m fun i _ => ?_
    rw [orL_zero]
    refine foldN_zero (k i) fun j _ => ?_
    rw [ih i j]; rfl

theorem total_covered {w : World} {A : Tree} {l : Nat} {c0 c1 c2 : Value} (h : ArrP w (coverT A l false) c0 c1 c2) (hl : IsL l) : orL (totalT (coverT A l false)) l = totalT (coverT A l false) := by
  refine orL_of_flows (total_is _ _ _ _ h) hl ?_
  obtain _ | ⟨S, n, sh, m, L, K, C, N, k, sub⟩ := A
  · exact (ArrP.leaf h).elim
  · exact (flows_right S l).trans ((total_flows (S := orL S l) (n := n) (sh := sh) (m := m) (L := fun i => labB false (L i) l) (K := K) (C := C) (N := N) (k := k) (sub := fun i j => coverT (sub i j) l false) _).1 (flows_refl _)).1

/-- No leaf in it. -/
def FullT : Tree → Prop
  | .leaf => False
  | .arr _ _ _ m _ _ _ _ k sub => ∀ i, i < m → ∀ j, j < k i → FullT (sub i j)

theorem ArrP.full {w : World} : ∀ (A : Tree) (c0 c1 c2 : Value), ArrP w A c0 c1 c2 → FullT A := by
  intro A
  induction A with
  | leaf => intro c0 c1 c2 h; exact (ArrP.leaf h).elim
  | arr S n sh m L K C N k sub ih =>
    intro c0 c1 c2 h i hi j hj
    obtain ⟨_, _, h3⟩ := arr_labels h
    obtain ⟨d0, d1, d2, r⟩ := h3 i hi j hj
    exact ih i j d0 d1 d2 r

theorem same_refl : ∀ A, FullT A → SameT A A := by
  intro A
  induction A with
  | leaf => intro h; exact h.elim
  | arr S n sh m L K C N k sub ih =>
    intro h
    exact ⟨rfl, ⟨rfl, fun _ _ => rfl⟩, rfl, fun i hi => ⟨rfl, rfl, rfl, ⟨rfl, ⟨rfl, fun _ _ => rfl⟩, rfl, fun _ _ => rfl⟩, rfl, fun j hj => ih i j (h i hi j hj)⟩⟩

theorem cover_full (l : Nat) (er : Bool) : ∀ A, FullT A → FullT (coverT A l er) := by
  intro A
  induction A with
  | leaf => intro h; exact h.elim
  | arr S n sh m L K C N k sub ih => intro h i hi j hj; exact ih i j (h i hi j hj)

/-- Unpacked, what was packed matches the array (unless it is a box alone). -/
theorem packed_match {A : Tree} (h : FullT A) (hb : ∀ S n sh m L K C N k sub, A = .arr S n sh m L K C N k sub → n = 0 → m = 1 → K 0 ≠ 2) : MatchT (unpackT (packT A)) A := by
  obtain _ | ⟨S, n, sh, m, L, K, C, N, k, sub⟩ := A
  · exact h.elim
  · by_cases hnm : n = 0 ∧ m = 1
    · obtain ⟨rfl, rfl⟩ := hnm
      have hK := hb S 0 sh 1 L K C N k sub rfl rfl rfl
      have e1 : packT (.arr S 0 sh 1 L K C N k sub) = ⟨orL S (L 0), K 0, N 0, C 0, k 0, sub 0⟩ := by simp [packT]
      have e2 : unpackT ⟨orL S (L 0), K 0, N 0, C 0, k 0, sub 0⟩ = .arr (orL S (L 0)) 0 (fun _ => 0) 1 (fun _ => orL S (L 0)) (fun _ => K 0) (fun _ => C 0) (fun _ => N 0) (fun _ => k 0) (fun _ => sub 0) := if_neg fun e => hK e.1
      rw [e1, e2]
      refine ⟨rfl, ⟨rfl, fun j hj => absurd hj (Nat.not_lt_zero j)⟩, rfl, fun i hi => ?_⟩
      obtain rfl : i = 0 := by omega
      exact ⟨rfl, rfl, rfl, ⟨rfl, ⟨rfl, fun _ _ => rfl⟩, rfl, fun _ _ => rfl⟩, rfl, fun j hj => same_refl _ (cover_full 0 true _ (h 0 hi j hj))⟩
    · have e1 : packT (.arr S n sh m L K C N k sub) = ⟨S, 2, zeroN, 0, 1, fun _ => .arr S n sh m L K C N k sub⟩ := if_neg hnm
      have e2 : unpackT ⟨S, 2, zeroN, 0, 1, fun _ => .arr S n sh m L K C N k sub⟩ = raiseT (.arr S n sh m L K C N k sub) S := if_pos ⟨rfl, rfl⟩
      rw [e1, e2]
      exact same_refl _ (cover_full 0 true (.arr S n sh m L K C N k sub) h)

/-- No label has got lower. -/
theorem packed_flows {A : Tree} (h : FullT A) (hb : ∀ S n sh m L K C N k sub, A = .arr S n sh m L K C N k sub → n = 0 → m = 1 → K 0 ≠ 2) : FlowsL (totalT A) (totalT (unpackT (packT A))) ∧ ∀ S n sh m L K C N k sub S' n' sh' m' L' K' C' N' k' sub', A = .arr S n sh m L K C N k sub → unpackT (packT A) = .arr S' n' sh' m' L' K' C' N' k' sub' → FlowsL S S' := by
  obtain _ | ⟨S, n, sh, m, L, K, C, N, k, sub⟩ := A
  · exact h.elim
  · by_cases hnm : n = 0 ∧ m = 1
    · obtain ⟨rfl, rfl⟩ := hnm
      have hK := hb S 0 sh 1 L K C N k sub rfl rfl rfl
      have e1 : packT (.arr S 0 sh 1 L K C N k sub) = ⟨orL S (L 0), K 0, N 0, C 0, k 0, sub 0⟩ := by simp [packT]
      have e2 : unpackT ⟨orL S (L 0), K 0, N 0, C 0, k 0, sub 0⟩ = .arr (orL S (L 0)) 0 (fun _ => 0) 1 (fun _ => orL S (L 0)) (fun _ => K 0) (fun _ => C 0) (fun _ => N 0) (fun _ => k 0) (fun _ => sub 0) := if_neg fun e => hK e.1
      rw [e1, e2]
      have g := (total_flows (S := orL S (L 0)) (n := 0) (sh := fun _ => 0) (m := 1) (L := fun _ => orL S (L 0)) (K := fun _ => K 0) (C := fun _ => C 0) (N := fun _ => N 0) (k := fun _ => k 0) (sub := fun _ => sub 0) _).1 (flows_refl _)
      refine ⟨(total_flows _).2 ⟨(flows_left S (L 0)).trans g.1, fun i hi => ?_⟩, ?_⟩
      · obtain rfl : i = 0 := by omega
        exact ⟨(flows_right S (L 0)).trans g.1, fun j hj => (g.2 0 hi).2 j hj⟩
      · rintro _ _ _ _ _ _ _ _ _ _ _ _ _ _ _ _ _ _ _ _ e f
        cases e; cases f
        exact flows_left S (L 0)
    · have e1 : packT (.arr S n sh m L K C N k sub) = ⟨S, 2, zeroN, 0, 1, fun _ => .arr S n sh m L K C N k sub⟩ := if_neg hnm
      have e2 : unpackT ⟨S, 2, zeroN, 0, 1, fun _ => .arr S n sh m L K C N k sub⟩ = raiseT (.arr S n sh m L K C N k sub) S := if_pos ⟨rfl, rfl⟩
      rw [e1, e2]
      have g := (total_flows (S := orL S S) (n := n) (sh := sh) (m := m) (L := L) (K := K) (C := C) (N := N) (k := k) (sub := sub) _).1 (flows_refl _)
      refine ⟨(total_flows _).2 ⟨(flows_left S S).trans g.1, g.2⟩, ?_⟩
      rintro _ _ _ _ _ _ _ _ _ _ _ _ _ _ _ _ _ _ _ _ e f
      cases e; cases f
      exact flows_left S S

/-- A cell alone, as an array. -/
def scalarT (c : CellD) : Tree := .arr 0 0 (fun _ => 0) 1 (fun _ => c.L) (fun _ => c.K) (fun _ => c.C) (fun _ => c.N) (fun _ => c.k) (fun _ => c.sub)

theorem scalar_flows {S n m : Nat} {sh : Nat → Int} {L : Nat → Nat} {K C : Nat → Int} {N : Nat → NumF} {k : Nat → Nat} {sub : Nat → Nat → Tree} (hn : n = 0) (hm : m = 1) : FlowsL (totalT (.arr S n sh m L K C N k sub)) (totalT (scalarT (packT (.arr S n sh m L K C N k sub)))) := by
  subst hn; subst hm
  have e1 : packT (.arr S 0 sh 1 L K C N k sub) = ⟨orL S (L 0), K 0, N 0, C 0, k 0, sub 0⟩ := by simp [packT]
  rw [e1]
  have g := (total_flows (S := 0) (n := 0) (sh := fun _ => 0) (m := 1) (L := fun _ => orL S (L 0)) (K := fun _ => K 0) (C := fun _ => C 0) (N := fun _ => N 0) (k := fun _ => k 0) (sub := fun _ => sub 0) _).1 (flows_refl _)
  refine (total_flows _).2 ⟨(flows_left S (L 0)).trans (g.2 0 (by decide)).1, fun i hi => ?_⟩
  obtain rfl : i = 0 := by omega
  exact ⟨(flows_right S (L 0)).trans (g.2 0 hi).1, fun j hj => (g.2 0 hi).2 j hj⟩

end Go.Proofs.Ytmkjebembicljaa

namespace Go.Proofs.Ytmkjebembicljaa
open Go.RowKit Num

theorem ArrP.later {w w' : World} {A : Tree} {c0 c1 c2 : Value} (h : ArrP w A c0 c1 c2) (hb : Below w.heap.size w w') : ArrP w' A c0 c1 c2 := ArrP.below _ _ _ _ h hb

theorem CellR.later {w w' : World} {c : CellD} {e : Nat → Value} (h : CellR w c e) (hb : Below w.heap.size w w') : CellR w' c e := CellP.below h hb fun _ _ _ _ _ hd => hd.later hb

/-- The number of a cell is n. -/
def OfZ (N : NumF) (n : Int) : Prop := N.neg = decide (n < 0) ∧ Canon n.natAbs N.an N.fa ∧ Canon 1 N.am N.ga

/-- A cell that is a number n: what of it is told. -/
def IntCell (n : Int) (w : World) (e : Ending) (w' : World) : Prop := ∃ N, OfZ N n ∧ CellPost ⟨0, 0, N, 0, 0, fun _ => .leaf⟩ w e w'

/-- Cells in a row. -/
def vecT (m : Nat) (cs : Nat → CellD) : Tree := .arr 0 1 (fun _ => m) m (fun i => (cs i).L) (fun i => (cs i).K) (fun i => (cs i).C) (fun i => (cs i).N) (fun i => (cs i).k) (fun i => (cs i).sub)

/-- Cells in a row, as they lie. -/
def CellsP (w : World) (co : Option Addr) (m : Nat) (cs : Nat → CellD) : Prop := m = 0 ∨ ∃ b o, co = some ⟨b, o, none⟩ ∧ ∀ i, i < m → ∃ e : Nat → Value, (∀ t, t < 7 → w.cell? ⟨b, o + i * 7 + t, none⟩ = some (e t)) ∧ CellR w (cs i) e

def RightC : Prop := ∀ (A : Tree) (c0 c1 c2 : Value) (w : World), ArrP w A c0 c1 c2 → FewT A → Calls Try.prog 8 #[.agg #[c0, c1, c2]] w (BoolPost (RightT A 8) w)

def SizeC : Prop := ∀ (A : Tree) (c0 c1 c2 : Value) (w : World), ArrP w A c0 c1 c2 → FewT A → Calls Try.prog 10 #[.agg #[c0, c1, c2]] w (Tell (.int .i64 (sizeT A : Nat)) w)

def DepthC : Prop := ∀ (A : Tree) (c0 c1 c2 : Value) (w : World), ArrP w A c0 c1 c2 → FewT A → Calls Try.prog 12 #[.agg #[c0, c1, c2]] w (Tell (.int .i64 (depthT A : Nat)) w)

def SimpleC : Prop := ∀ (A : Tree) (c0 c1 c2 : Value) (w : World), ArrP w A c0 c1 c2 → Calls Try.prog 14 #[.agg #[c0, c1, c2]] w (Tell (.bool (simpleT A)) w)

def TotalC : Prop := ∀ (A : Tree) (c0 c1 c2 : Value) (w : World), ArrP w A c0 c1 c2 → FewT A → Calls Try.prog 16 #[.agg #[c0, c1, c2]] w (Tell (.int .u64 (totalT A : Nat)) w)

def EraseC : Prop := ∀ (A : Tree) (c0 c1 c2 : Value) (w : World), ArrP w A c0 c1 c2 → FewT A → Calls Try.prog 19 #[.agg #[c0, c1, c2]] w (TreePost (coverT A 0 true) w)

def CoverC : Prop := ∀ (A : Tree) (l : Nat) (c0 c1 c2 : Value) (w : World), ArrP w A c0 c1 c2 → FewT A → IsL l → Calls Try.prog 21 #[.agg #[c0, c1, c2], .int .u64 l] w (TreePost (coverT A l false) w)

def RaiseC : Prop := ∀ (A : Tree) (l : Nat) (c0 c1 c2 : Value) (w : World), ArrP w A c0 c1 c2 → partsT A ≤ 5000 → IsL l → Calls Try.prog 23 #[.agg #[c0, c1, c2], .int .u64 l] w (TreePost (raiseT A l) w)

def SameAC : Prop := ∀ (A B : Tree) (c0 c1 c2 d0 d1 d2 : Value) (w : World), ArrP w A c0 c1 c2 → ArrP w B d0 d1 d2 → FewT A → FewT B → Calls Try.prog 26 #[.agg #[c0, c1, c2], .agg #[d0, d1, d2]] w (BoolPost (SameT A B) w)

def MatchC : Prop := ∀ (A B : Tree) (c0 c1 c2 d0 d1 d2 : Value) (w : World), ArrP w A c0 c1 c2 → ArrP w B d0 d1 d2 → FewT A → FewT B → Calls Try.prog 27 #[.agg #[c0, c1, c2], .agg #[d0, d1, d2]] w (BoolPost (MatchT A B) w)

def IntAC : Prop := ∀ (n : Int) (w : World), IsZ n → Calls Try.prog 30 #[.int .i64 n] w (IntCell n w)

def ChrC : Prop := ∀ (c : Int) (w : World), IsZ c → Calls Try.prog 32 #[.int .i64 c] w (CellPost ⟨0, 1, zeroN, c, 0, fun _ => .leaf⟩ w)

def VectorC : Prop := ∀ (cs : Nat → CellD) (co : Option Addr) (m mc : Nat) (w : World), IsN m mc → CellsP w co m cs → partsT (vecT m cs) ≤ 5000 → Calls Try.prog 31 #[.slice co m mc] w (TreePost (vecT m cs) w)

theorem BoolPost.tell {P : Prop} {b : Bool} {w w' : World} {e : Ending} (hb : b = true ↔ P) (h : BoolPost P w e w') : Tell (.bool b) w e w' := by
  obtain ⟨r, rfl, hr, hw⟩ := h
  obtain rfl : r = b := Bool.eq_iff_iff.2 (hr.trans hb.symm)
  exact ⟨rfl, hw⟩

/-- Covered, or without labels, an array has as many parts, and no more are within one another. -/
theorem parts_cover (l : Nat) (er : Bool) : ∀ A, partsT (coverT A l er) = partsT A := by
  intro A
  induction A with
  | leaf => rfl
  | arr S n sh m L K C N k sub ih =>
    show 1 + n + sumN (fun i => 1 + (N i).an + (N i).am + sumN (fun j => partsT (coverT (sub i j) l er)) (k i)) m = 1 + n + sumN (fun i => 1 + (N i).an + (N i).am + sumN (fun j => partsT (sub i j)) (k i)) m
    simp only [ih]

theorem nest_cover (l : Nat) (er : Bool) : ∀ A d, NestT A d → NestT (coverT A l er) d := by
  intro A
  induction A with
  | leaf => intro d h; exact h
  | arr S n sh m L K C N k sub ih =>
    intro d h
    cases d with
    | zero => exact h
    | succ d => exact fun i hi j hj => ih i j d (h i hi j hj)

theorem few_cover {A : Tree} (l : Nat) (er : Bool) (h : FewT A) : FewT (coverT A l er) := ⟨by rw [parts_cover]; exact h.1, nest_cover l er A 12 h.2⟩

theorem few_raise {A : Tree} (l : Nat) (h : FewT A) : FewT (raiseT A l) := by
  obtain _ | ⟨S, n, sh, m, L, K, C, N, k, sub⟩ := A
  · exact h
  · exact h

/-- A label that came in. -/
theorem label_in {n : Int} (h : (Lit.int .u64 n).wf = true) : ∃ l : Nat, IsL l ∧ n = (l : Int) := by
  have hb : 0 ≤ n ∧ n < 18446744073709551616 := by
    simp [Lit.wf, IntKind.min, IntKind.max, IntKind.signed, IntKind.bits] at h
    omega
  exact ⟨n.toNat, by unfold IsL; omega, by omega⟩

end Go.Proofs.Ytmkjebembicljaa

namespace Go.Proofs.Ytmkjebembicljaa
open Go.RowKit Num

theorem CellPost.form {c : CellD} {w w' : World} {e : Ending} (h : CellPost c w e w') : ∃ (bo co io : Option Addr) (bc cc kc : Nat),
    e = .returned (.agg #[.int .u64 c.L, .int .i64 c.K, .bool c.N.neg, .slice bo c.N.an bc, .slice co c.N.am cc, .int .i64 c.C, .slice io c.k kc]) ∧
    CellR w' c (fun t => (#[.int .u64 c.L, .int .i64 c.K, .bool c.N.neg, .slice bo c.N.an bc, .slice co c.N.am cc, .int .i64 c.C, .slice io c.k kc] : Array Value).getD t (.bool false)) ∧ Below w.heap.size w w' := by
  obtain ⟨v, rfl, hv, hb⟩ := h
  obtain ⟨h0, hL, h1, hK, ⟨h2, ⟨ao, ac, h3, ha⟩, ⟨bo, bc, h4, hb'⟩⟩, h5, hC, io, kc, h6, hk, hrow⟩ := hv
  rw [h0, h1, h2, h3, h4, h5, h6]
  exact ⟨ao, bo, io, ac, bc, kc, rfl, ⟨rfl, hL, rfl, hK, ⟨rfl, ⟨ao, ac, rfl, ha⟩, ⟨bo, bc, rfl, hb'⟩⟩, rfl, hC, io, kc, rfl, hk, hrow⟩, hb⟩

theorem TreePost.form {T : Tree} {w w' : World} {e : Ending} (h : TreePost T w e w') : ∃ (S n nc m mc : Nat) (ao co : Option Addr),
    e = .returned (.agg #[.int .u64 S, .slice ao n nc, .slice co m mc]) ∧ ArrP w' T (.int .u64 S) (.slice ao n nc) (.slice co m mc) ∧ Below w.heap.size w w' := by
  obtain ⟨d0, d1, d2, rfl, hA, hb⟩ := h
  obtain ⟨S, n, nc, m, mc, ao, co, rfl, rfl, rfl⟩ := (ArrP.within _ _ _ _ hA).form
  exact ⟨S, n, nc, m, mc, ao, co, rfl, hA, hb⟩

/-- The three cells of chapter 8's example. -/
def cs3 (M N : NumF) (i : Nat) : CellD := if i = 0 then ⟨0, 0, M, 0, 0, fun _ => .leaf⟩ else if i = 1 then ⟨4, 0, N, 0, 0, fun _ => .leaf⟩ else ⟨0, 1, zeroN, 65, 0, fun _ => .leaf⟩

theorem three_cells {R : Nat → Prop} (h0 : R 0) (h1 : R 1) (h2 : R 2) : ∀ i, i < 3 → R i := fun i hi => by
  have : i = 0 ∨ i = 1 ∨ i = 2 := by omega
  rcases this with rfl | rfl | rfl
  · exact h0
  · exact h1
  · exact h2

theorem OfZ.right {N : NumF} {n : Int} (h : OfZ N n) (hz : IsZ n) : RightF N := ⟨n, 1, low_one (int_32 hz.1 hz.2), h.1, h.2.1, h.2.2⟩

theorem OfZ.few {N : NumF} {n : Int} (h : OfZ N n) (hz : n.natAbs < pw 1) : N.an ≤ 1 ∧ N.am ≤ 1 := ⟨h.2.1.len_le hz, h.2.2.len_le (by decide)⟩

def vec2 (S : Nat) (M N : NumF) : Tree := .arr S 1 (fun _ => (3 : Nat)) 3 (fun i => (cs3 M N i).L) (fun i => (cs3 M N i).K) (fun i => (cs3 M N i).C) (fun i => (cs3 M N i).N) (fun i => (cs3 M N i).k) (fun i => (cs3 M N i).sub)

theorem vec_few {M N : NumF} (hM : OfZ M 3) (hN : OfZ N 1) : FewT (vec2 2 M N) := by
  obtain ⟨a1, a2⟩ := hM.few (by decide)
  obtain ⟨b1, b2⟩ := hN.few (by decide)
  refine ⟨?_, fun i hi j hj => ?_⟩
  · show 1 + 1 + (0 + (1 + M.an + M.am + 0) + (1 + N.an + N.am + 0) + (1 + 0 + 0 + 0)) ≤ 4000
    omega
  · have : ∀ i, i < 3 → (cs3 M N i).k = 0 := three_cells rfl rfl rfl
    have hk : j < (cs3 M N i).k := hj
    rw [this i hi] at hk
    exact absurd hk (Nat.not_lt_zero _)

theorem vec_parts {M N : NumF} (hM : OfZ M 3) (hN : OfZ N 1) : partsT (vecT 3 (cs3 M N)) ≤ 5000 := by
  obtain ⟨a1, a2⟩ := hM.few (by decide)
  obtain ⟨b1, b2⟩ := hN.few (by decide)
  show 1 + 1 + (0 + (1 + M.an + M.am + 0) + (1 + N.an + N.am + 0) + (1 + 0 + 0 + 0)) ≤ 5000
  omega

theorem vec_size (M N : NumF) : sizeT (vec2 2 M N) = 3 := rfl

theorem vec_depth (M N : NumF) : depthT (vec2 2 M N) = 1 := rfl

theorem vec_total (M N : NumF) : totalT (vec2 2 M N) = 6 := by show orL (orL (orL 2 0) 4) 0 = 6; decide

theorem vec_right {M N : NumF} (hM : OfZ M 3) (hN : OfZ N 1) : RightT (vec2 2 M N) 8 := by
  refine ⟨⟨by decide, fun _ _ => by decide, fun _ _ => by decide, by decide, by decide⟩, three_cells ?_ ?_ ?_⟩
  · exact .inl ⟨rfl, rfl, rfl, hM.right ⟨by decide, by decide⟩⟩
  · exact .inl ⟨rfl, rfl, rfl, hN.right ⟨by decide, by decide⟩⟩
  · exact .inr (.inl ⟨rfl, rfl, rfl, rfl⟩)

theorem flat3 {M N : NumF} : ∀ i, i < 3 → (fun i => (cs3 M N i).k) i = 0 := three_cells rfl rfl rfl

/-- Twenty-one cells of memory, told by their cells. -/
def row21 (e0 e1 e2 : Nat → Value) : Array Value := #[e0 0, e0 1, e0 2, e0 3, e0 4, e0 5, e0 6, e1 0, e1 1, e1 2, e1 3, e1 4, e1 5, e1 6, e2 0, e2 1, e2 2, e2 3, e2 4, e2 5, e2 6]

theorem cells_three {w' : World} {B : Nat} {M N : NumF} {e0 e1 e2 : Nat → Value} (hc : ∀ j u, (row21 e0 e1 e2)[j]? = some u → w'.cell? ⟨B, j, none⟩ = some u) (h0 : CellR w' (cs3 M N 0) e0) (h1 : CellR w' (cs3 M N 1) e1) (h2 : CellR w' (cs3 M N 2) e2) :
    CellsP w' (some ⟨B, 0, none⟩) 3 (cs3 M N) := by
  refine .inr ⟨B, 0, rfl, three_cells ⟨e0, fun t ht => ?_, h0⟩ ⟨e1, fun t ht => ?_, h1⟩ ⟨e2, fun t ht => ?_, h2⟩⟩
  all_goals
    have : t = 0 ∨ t = 1 ∨ t = 2 ∨ t = 3 ∨ t = 4 ∨ t = 5 ∨ t = 6 := by omega
    rcases this with rfl | rfl | rfl | rfl | rfl | rfl | rfl <;> exact hc _ _ rfl

theorem CellsP.later {w w' : World} {co : Option Addr} {m : Nat} {cs : Nat → CellD} (h : CellsP w co m cs) (hb : Below w.heap.size w w') : CellsP w' co m cs := by
  rcases h with h | ⟨b, o, rfl, h⟩
  · exact .inl h
  · refine .inr ⟨b, o, rfl, fun i hi => ?_⟩
    obtain ⟨e, h1, h2⟩ := h i hi
    exact ⟨e, fun t ht => cell_below (h1 t ht) hb, h2.later hb⟩

theorem cells_new {w : World} {B : Nat} {M N : NumF} {e0 e1 e2 : Nat → Value} (t : TypeId) (hB : B = w.heap.size) (h0 : CellR w (cs3 M N 0) e0) (h1 : CellR w (cs3 M N 1) e1) (h2 : CellR w (cs3 M N 2) e2) :
    CellsP (w.alloc (.cells (row21 e0 e1 e2) t)) (some ⟨B, 0, none⟩) 3 (cs3 M N) := by
  subst hB
  have hb : Below w.heap.size w (w.alloc (.cells (row21 e0 e1 e2) t)) := (Below.refl _ _).alloc (Nat.le_refl _) _
  exact cells_three (fun j u hj => by rw [World.cell?_alloc_new]; exact hj) (h0.later hb) (h1.later hb) (h2.later hb)

/-- Cells that cannot be an array's three are as they were when these are stored into. -/
theorem cell_aside {w : World} {B b t : Nat} {x : Int} {p q : Option Addr} {np cp nq cq : Nat} {v : Value} (z : Box3 w B (.int .u64 x) (.slice p np cp) (.slice q nq cq)) (u0 u1 u2 : Value) (h : w.cell? ⟨b, t, none⟩ = some v)
    (hv : t = 0 → b = B → v ≠ .int .u64 x) (hs : t = 1 ∨ t = 2 → ∀ a n c, v ≠ .slice a n c) : (((w.setCell ⟨B, 0, none⟩ u0).setCell ⟨B, 1, none⟩ u1).setCell ⟨B, 2, none⟩ u2).cell? ⟨b, t, none⟩ = some v := by
  have ne : ∀ j, ¬ (b = B ∧ t = j) → (⟨b, t, none⟩ : Addr) ≠ ⟨B, j, none⟩ := fun j hn e => hn (by injection e with e1 e2; exact ⟨e1, e2⟩)
  have n0 : ¬ (b = B ∧ t = 0) := fun ⟨e1, e2⟩ => by
    subst e1; subst e2
    have := h.symm.trans z.c0
    injection this with e
    exact hv rfl rfl e
  have n1 : ¬ (b = B ∧ t = 1) := fun ⟨e1, e2⟩ => by
    subst e1; subst e2
    have := h.symm.trans z.c1
    injection this with e
    exact hs (.inl rfl) _ _ _ e
  have n2 : ¬ (b = B ∧ t = 2) := fun ⟨e1, e2⟩ => by
    subst e1; subst e2
    have := h.symm.trans z.c2
    injection this with e
    exact hs (.inr rfl) _ _ _ e
  rw [cell_set_ne (ne 2 n2), cell_set_ne (ne 1 n1), cell_set_ne (ne 0 n0)]
  exact h

/-- Of a block's first cell and the next two alone something may have turned. -/
def AsideP (w w' : World) (B : Nat) (x : Int) : Prop := ∀ (b t : Nat) (v : Value), w.cell? ⟨b, t, none⟩ = some v → (t = 0 → b = B → v ≠ .int .u64 x) → (t = 1 ∨ t = 2 → ∀ a n c, v ≠ .slice a n c) → w'.cell? ⟨b, t, none⟩ = some v

theorem aside_three {w : World} {B : Nat} {x : Int} {p q : Option Addr} {np cp nq cq : Nat} (z : Box3 w B (.int .u64 x) (.slice p np cp) (.slice q nq cq)) (u0 u1 u2 : Value) : AsideP w (((w.setCell ⟨B, 0, none⟩ u0).setCell ⟨B, 1, none⟩ u1).setCell ⟨B, 2, none⟩ u2) B x :=
  fun _ _ _ h hv hs => cell_aside z u0 u1 u2 h hv hs

theorem aside_one {w : World} {B : Nat} {x : Int} {p q : Option Addr} {np cp nq cq : Nat} (z : Box3 w B (.int .u64 x) (.slice p np cp) (.slice q nq cq)) (u0 : Value) : AsideP w (w.setCell ⟨B, 0, none⟩ u0) B x := by
  intro b t v h hv _
  have n0 : ¬ (b = B ∧ t = 0) := fun ⟨e1, e2⟩ => by
    subst e1; subst e2
    have := h.symm.trans z.c0
    injection this with e
    exact hv rfl rfl e
  rw [cell_set_ne fun e => n0 (by injection e with e1 e2; exact ⟨e1, e2⟩)]
  exact h

theorem ArrP.aside_flat {w w' : World} {B S n m : Nat} {sh : Nat → Int} {L : Nat → Nat} {K C : Nat → Int} {N : Nat → NumF} {k : Nat → Nat} {sub : Nat → Nat → Tree} {c0 c1 c2 : Value} (h : ArrP w (.arr S n sh m L K C N k sub) c0 c1 c2) (hk : ∀ i, i < m → k i = 0)
    {x : Int} {p q : Option Addr} {np cp nq cq : Nat} (z : Box3 w B (.int .u64 x) (.slice p np cp) (.slice q nq cq)) (H : AsideP w w' B x) : ArrP w' (.arr S n sh m L K C N k sub) c0 c1 c2 := by
  have hi : ∀ {b t : Nat} {i : Int}, w.cell? ⟨b, t, none⟩ = some (.int .i64 i) → w'.cell? ⟨b, t, none⟩ = some (.int .i64 i) := fun h => H _ _ _ h (fun _ _ e => by cases e) fun _ _ _ _ e => by cases e
  have hl : ∀ {b t : Nat} {i : Int}, w.cell? ⟨b, t, none⟩ = some (.int .u32 i) → w'.cell? ⟨b, t, none⟩ = some (.int .u32 i) := fun h => H _ _ _ h (fun _ _ e => by cases e) fun _ _ _ _ e => by cases e
  have hS : ∀ {ao : Option Addr} {n : Nat} {f : Nat → Nat}, Sl w ao n f → Sl w' ao n f := by
    rintro ao n f (h | ⟨b, off, rfl, h⟩)
    · exact .inl h
    · exact .inr ⟨b, off, rfl, fun j hj => hl (h j hj)⟩
  obtain ⟨h0, h1, ⟨ao, nc, h2, h3, h4, h5⟩, co, mc, h6, h7, h8⟩ := h
  refine ⟨h0, h1, ⟨ao, nc, h2, h3, ?_, h5⟩, co, mc, h6, h7, ?_⟩
  · rcases h4 with h4 | ⟨b, off, rfl, h4⟩
    · exact .inl h4
    · exact .inr ⟨b, off, rfl, fun j hj => hi (h4 j hj)⟩
  · rcases h8 with h8 | ⟨b, o, rfl, h8⟩
    · exact .inl h8
    · refine .inr ⟨b, o, rfl, fun i hm => ?_⟩
      obtain ⟨e, h9, h10, hL, h11, hK, ⟨h12, ⟨ao', ac, h13, ha, hsa, hla⟩, ⟨bo, bc, h14, hb, hsb, hlb⟩⟩, h15, hC, io, kc, h16, hkk, hrow⟩ := h8 i hm
      refine ⟨e, fun t ht => ?_, h10, hL, h11, hK, ⟨h12, ⟨ao', ac, h13, ha, hS hsa, hla⟩, ⟨bo, bc, h14, hb, hS hsb, hlb⟩⟩, h15, hC, io, kc, h16, hkk, .inl (hk i hm)⟩
      refine H _ _ _ (h9 t ht) (fun e0 eb => ?_) (fun e12 a n c ee => ?_)
      · subst eb
        have h1' := h9 1 (by decide)
        have : o + i * 7 = 0 ∧ t = 0 := by omega
        rw [this.1] at h1'
        have := h1'.symm.trans z.c1
        injection this with e
        rw [h11] at e
        cases e
      · have : t = 0 ∨ t = 1 ∨ t = 2 := by omega
        rcases this with rfl | rfl | rfl
        · rw [h10] at ee; cases ee
        · rw [h11] at ee; cases ee
        · rw [h12] at ee; cases ee

set_option maxRecDepth 20000 in
set_option maxHeartbeats 8000000 in
theorem awake8_any (hI : IntAC) (hH : ChrC) (hV : VectorC) (hD : DepthC) (hT : TotalC) (hR : RightC) (hS : SizeC) (w : World) : Calls Try.prog 7 #[] w (Tell (.bool true) w) := by
  replace hI := Lib.hid hI; replace hH := Lib.hid hH; replace hV := Lib.hid hV; replace hD := Lib.hid hD; replace hT := Lib.hid hT; replace hR := Lib.hid hR; replace hS := Lib.hid hS
  go_enter Try.func7, Try.ntmps7
  go_wp2_with fail
  refine (hI.out 1 w ⟨by decide, by decide⟩).mono ?_
  rintro e w1 ⟨N, hN, hp⟩
  obtain ⟨bo, co, io, bc, cc, kc, rfl, hc, hb⟩ := hp.form
  replace hc := Lib.hid hc; replace hN := Lib.hid hN; replace hb := Lib.hid hb
  clear hp
  go_upto_region 3 with fail
  refine told_wp (fun w' => Below w.heap.size w w' ∧ Box7 w' w1.heap.size (.int .u64 4) (.int .i64 0) (.bool N.neg) (.slice bo N.an bc) (.slice co N.am cc) (.int .i64 0) (.slice io 0 kc) ∧
      CellR w' (cs3 N N 1) (fun t => (#[.int .u64 4, .int .i64 0, .bool N.neg, .slice bo N.an bc, .slice co N.am cc, .int .i64 0, .slice io 0 kc] : Array Value).getD t (.bool false))) ⟨hb.out.alloc hb.out.size _, Box7.new _ _ _ _ _ _ _ _ rfl, ?_⟩ ?_
  · have h2 := hc.out.later ((Below.refl w1.heap.size w1).alloc (Nat.le_refl _) (.cells #[.int .u64 4, .int .i64 0, .bool N.neg, .slice bo N.an bc, .slice co N.am cc, .int .i64 0, .slice io 0 kc] 44))
    obtain ⟨_, _, h2⟩ := h2
    exact ⟨rfl, by show (4 : Nat) < 18446744073709551616; decide, h2⟩
  clear hc hb
  rintro u0 ⟨bb, x, c1⟩
  go_cut [2] from 5 to 9 (fun s wx => ∃ (B : Nat) (M : NumF) (n nc m mc : Nat) (ao co : Option Addr), s = .pointer (some ⟨B, 0, none⟩) ∧ OfZ M 3 ∧ Box3 wx B (.int .u64 0) (.slice ao n nc) (.slice co m mc) ∧ ArrP wx (vec2 0 M N) (.int .u64 0) (.slice ao n nc) (.slice co m mc) ∧ Below w.heap.size w wx ∧ w.heap.size ≤ B)
  case first =>
    have bs := bb.size; have lx := x.lt
    go_region_held3 (fun w' => w'.cell? ⟨w1.heap.size, 0, none⟩ = some (.int .u64 4) ∧ w'.cell? ⟨w1.heap.size, 1, none⟩ = some (.int .i64 0) ∧ w'.cell? ⟨w1.heap.size, 2, none⟩ = some (.bool N.neg) ∧ w'.cell? ⟨w1.heap.size, 3, none⟩ = some (.slice bo N.an bc) ∧ w'.cell? ⟨w1.heap.size, 4, none⟩ = some (.slice co N.am cc) ∧ w'.cell? ⟨w1.heap.size, 5, none⟩ = some (.int .i64 0) ∧ w'.cell? ⟨w1.heap.size, 6, none⟩ = some (.slice io 0 kc))
      (first | with_reducible exact ⟨x.drew.c0, x.drew.c1, x.drew.c2, x.drew.c3, x.drew.c4, x.drew.c5, x.drew.c6⟩ | with_reducible exact ⟨(x.alloc _).drew.c0, (x.alloc _).drew.c1, (x.alloc _).drew.c2, (x.alloc _).drew.c3, (x.alloc _).drew.c4, (x.alloc _).drew.c5, (x.alloc _).drew.c6⟩ | with_reducible exact ⟨x.c0, x.c1, x.c2, x.c3, x.c4, x.c5, x.c6⟩ | with_reducible exact ⟨(x.alloc _).c0, (x.alloc _).c1, (x.alloc _).c2, (x.alloc _).c3, (x.alloc _).c4, (x.alloc _).c5, (x.alloc _).c6⟩ | with_reducible exact ⟨((x.alloc _).alloc _).c0, ((x.alloc _).alloc _).c1, ((x.alloc _).alloc _).c2, ((x.alloc _).alloc _).c3, ((x.alloc _).alloc _).c4, ((x.alloc _).alloc _).c5, ((x.alloc _).alloc _).c6⟩ | with_reducible exact ⟨(((x.aside (by omega) 0 _).aside (by omega) 1 _).aside (by omega) 2 _).c0, (((x.aside (by omega) 0 _).aside (by omega) 1 _).aside (by omega) 2 _).c1, (((x.aside (by omega) 0 _).aside (by omega) 1 _).aside (by omega) 2 _).c2, (((x.aside (by omega) 0 _).aside (by omega) 1 _).aside (by omega) 2 _).c3, (((x.aside (by omega) 0 _).aside (by omega) 1 _).aside (by omega) 2 _).c4, (((x.aside (by omega) 0 _).aside (by omega) 1 _).aside (by omega) 2 _).c5, (((x.aside (by omega) 0 _).aside (by omega) 1 _).aside (by omega) 2 _).c6⟩ | go_keep)
      (first
      | (go_at_call 30; refine (hI.out 3 _ ⟨by decide, by decide⟩).mono ?_; rintro e u1 ⟨M, hM, hp⟩; obtain ⟨bo0, co0, io0, bc0, cc0, kc0, rfl, c0, hb⟩ := hp.form; have hc : Below u0.heap.size u0 u1 := (by first | exact (Below.refl _ _).drew.trans hb | exact ((Below.refl _ _).alloc (by first | exact Nat.le_refl _ | (simp; done) | (simp; omega)) _).drew.trans (hb.mono (by first | (simp; done) | (simp; omega)))); have x := x.later hc; have lx1 := x.lt; have c1 := c1.later hc; have bb := below_then bb (Nat.le_refl _) hc; have bs1 := bb.size; (try (with_reducible have m1 := made13' hb)); (try have l1 := m1.lt); clear hb hc hp)
      | (go_at_call 32; refine (hH.out 65 _ ⟨by decide, by decide⟩).mono ?_; rintro e u2 hp; obtain ⟨bo2, co2, io2, bc2, cc2, kc2, rfl, c2, hb⟩ := hp.form; have hc : Below u1.heap.size u1 u2 := (by first | with_reducible exact hb | exact ((Below.refl _ _).alloc (by first | exact Nat.le_refl _ | (simp; done) | (simp; omega)) _).trans (hb.mono (by first | (simp; done) | (simp; omega)))); have x := x.later hc; have lx2 := x.lt; have c0 := c0.later hc; have c1 := c1.later hc; have bb := below_then bb (Nat.le_refl _) hc; have bs2 := bb.size; (try have m1 := m1.later hc); (try (with_reducible have m2 := made13 hb)); (try have l1 := m1.lt); (try have l2 := m2.lt); clear hb hc hp)
      | (go_at_call 31; refine (hV.out (cs3 M N) _ 3 3 _ ⟨by decide, by decide, by decide⟩ ?_ (vec_parts hM hN.out)).mono ?_; (first | exact cells_new _ rfl c0 c1 c2 | exact cells_new _ (by simp) (c0.later ((Below.refl _ _).alloc (Nat.le_refl _) _)) (c1.later ((Below.refl _ _).alloc (Nat.le_refl _) _)) (c2.later ((Below.refl _ _).alloc (Nat.le_refl _) _)) | exact (cells_new _ rfl c0 c1 c2).later ((Below.refl _ _).alloc (Nat.le_refl _) _)); rintro e u3 hp; obtain ⟨S, n, nc, m, mc, ao, co3, rfl, hA, hb⟩ := hp.form; obtain rfl : S = 0 := (by have h := hA.1; injection h with _ h; omega); have hc : Below u2.heap.size u2 u3 := (by first | exact ((Below.refl _ _).alloc (by first | exact Nat.le_refl _ | (simp; done) | (simp; omega)) _).trans (hb.mono (by first | (simp; done) | (simp; omega))) | exact (((Below.refl _ _).alloc (by first | exact Nat.le_refl _ | (simp; done) | (simp; omega)) _).alloc (by first | exact Nat.le_refl _ | (simp; done) | (simp; omega)) _).trans (hb.mono (by first | (simp; done) | (simp; omega)))); have x := x.later hc; have lx3 := x.lt; have bb := below_then bb (Nat.le_refl _) hc; (try have m1 := m1.later hc); (try have m2 := m2.later hc); (first | (have m3 : Box3 u3 (u2.heap.size + 1) (.int .u64 0) (.slice none 0 0) (.slice none 0 0) := (Box3.new _ _ _ _ (by first | (simp; done) | rfl)).later hb) | (have m3 : Box3 u3 u2.heap.size (.int .u64 0) (.slice none 0 0) (.slice none 0 0) := ((Box3.new _ _ _ _ rfl).alloc _).later hb) | skip); (try (have fm10 := m1.c0; have fm11 := m1.c1; have fm12 := m1.c2; have fm13 := m1.fr 0; have fm14 := m1.fr 1; have fm15 := m1.fr 2; have lm1 := m1.lt)); (try (have fm20 := m2.c0; have fm21 := m2.c1; have fm22 := m2.c2; have fm23 := m2.fr 0; have fm24 := m2.fr 1; have fm25 := m2.fr 2; have lm2 := m2.lt)); (try (have fm30 := m3.c0; have fm31 := m3.c1; have fm32 := m3.c2; have fm33 := m3.fr 0; have fm34 := m3.fr 1; have fm35 := m3.fr 2; have lm3 := m3.lt)); clear hb hc hp))
    · go_wp2_with fail
      go_meet
      exact ⟨_, M, n, nc, m, mc, ao, co3, rfl, hM, Box3.new _ _ _ _ rfl, hA.later ((Below.refl _ _).alloc (Nat.le_refl _) _), bb.alloc bb.size _, bb.size⟩
    · go_wp2_with fail
      go_meet
      exact ⟨_, M, n, nc, m, mc, ao, co3, rfl, hM, m3.set _ _ _, hA.aside_flat flat3 m3 (aside_three m3 _ _ _), below_set3 bb (by omega) _ _ _, (by omega)⟩
    · go_wp2_with fail
      go_meet
      exact ⟨_, M, n, nc, m, mc, ao, co3, rfl, hM, m3.set _ _ _, hA.aside_flat flat3 m3 (aside_three m3 _ _ _), below_set3 bb (by omega) _ _ _, (by omega)⟩
    · go_wp2_with fail
      go_meet
      exact ⟨_, M, n, nc, m, mc, ao, co3, rfl, hM, m2.set _ _ _, hA.aside_flat flat3 m2 (aside_three m2 _ _ _), below_set3 bb (by omega) _ _ _, (by omega)⟩
    · go_wp2_with fail
      go_meet
      exact ⟨_, M, n, nc, m, mc, ao, co3, rfl, hM, m1.set _ _ _, hA.aside_flat flat3 m1 (aside_three m1 _ _ _), below_set3 bb (by omega) _ _ _, (by omega)⟩
  obtain ⟨B, M, n, nc, m, mc, ao, co', rfl, hM, y, hA, hb, hBl⟩ := hcut
  have hA2 : ArrP (wc.setCell ⟨B, 0, none⟩ (.int .u64 2)) (vec2 2 M N) (.int .u64 2) (.slice ao n nc) (.slice co' m mc) := by
    have h := hA.aside_flat flat3 y (aside_one y (.int .u64 2))
    obtain ⟨_, _, h⟩ := h
    exact ⟨rfl, by show (2 : Nat) < 18446744073709551616; decide, h⟩
  have y2 := y.set0 (.int .u64 2)
  have b2 := hb.setCell (p := ⟨B, 0, none⟩) hBl (.int .u64 2)
  have f0 := y.fr 0; have f1 := y.c0
  replace hA2 := Lib.hid hA2; replace y2 := Lib.hid y2; replace b2 := Lib.hid b2; replace hM := Lib.hid hM
  clear y hA hb c1 x bb
  go_upto_region 5 with fail
  refine told_wp (fun w' => Below w.heap.size w w' ∧ Box3 w' B (.int .u64 2) (.slice ao n nc) (.slice co' m mc) ∧ ArrP w' (vec2 2 M N) (.int .u64 2) (.slice ao n nc) (.slice co' m mc)) ⟨b2.out, y2.out, hA2.out⟩ ?_
  clear b2 y2 hA2 f0 f1
  rintro v0 ⟨bb, y, hA⟩
  have hF := Lib.hid (vec_few hM.out hN.out)
  have y0 := y.c0; have y1 := y.c1; have y2 := y.c2
  replace bb := Lib.hid bb; replace y := Lib.hid y; replace hA := Lib.hid hA
  go_wp2_with fail
  refine (hD.out _ _ _ _ v0 hA.out hF.out).mono ?_
  rintro e v1 ⟨rfl, hb⟩
  rw [vec_depth]
  replace bb := Lib.hid (below_then bb.out (Nat.le_refl _) hb); replace y := Lib.hid (y.out.later hb); replace hA := Lib.hid (hA.out.later hb)
  clear hb y0 y1 y2
  have y0 := y.out.c0; have y1 := y.out.c1; have y2 := y.out.c2
  go_wp2_with fail
  refine (hT.out _ _ _ _ v1 hA.out hF.out).mono ?_
  rintro e v2 ⟨rfl, hb⟩
  rw [vec_total]
  replace bb := Lib.hid (below_then bb.out (Nat.le_refl _) hb); replace y := Lib.hid (y.out.later hb); replace hA := Lib.hid (hA.out.later hb)
  clear hb y0 y1 y2
  have y0 := y.out.c0; have y1 := y.out.c1; have y2 := y.out.c2
  go_wp2_with fail
  refine ((hR.out _ _ _ _ v2 hA.out hF.out).mono fun _ _ h => BoolPost.tell (b := true) ⟨fun _ => vec_right hM.out hN.out, fun _ => rfl⟩ h).mono ?_
  rintro e v3 ⟨rfl, hb⟩
  replace bb := Lib.hid (below_then bb.out (Nat.le_refl _) hb); replace y := Lib.hid (y.out.later hb); replace hA := Lib.hid (hA.out.later hb)
  clear hb y0 y1 y2
  have y0 := y.out.c0; have y1 := y.out.c1; have y2 := y.out.c2
  go_wp2_with fail
  refine (hS.out _ _ _ _ v3 hA.out hF.out).mono ?_
  rintro e v4 ⟨rfl, hb⟩
  rw [vec_size]
  replace bb := Lib.hid (below_then bb.out (Nat.le_refl _) hb)
  clear hb y0 y1 y2 y hA
  go_wp2_with fail
  go_ret
  exact ⟨rfl, bb.out⟩

end Go.Proofs.Ytmkjebembicljaa

namespace Go.Proofs.Ytmkjebembicljaa
open Go.RowKit Num

theorem ArrP.drew {w : World} {A : Tree} {c0 c1 c2 : Value} (h : ArrP w A c0 c1 c2) : ArrP w.drew A c0 c1 c2 := h.later (Below.refl _ _).drew

theorem CellR.drew {w : World} {c : CellD} {e : Nat → Value} (h : CellR w c e) : CellR w.drew c e := h.later (Below.refl _ _).drew

theorem bool_of (P : Prop) : ∃ b : Bool, b = true ↔ P := by
  by_cases h : P
  · exact ⟨true, fun _ => h, fun _ => rfl⟩
  · exact ⟨false, fun e => (Bool.false_ne_true e).elim, fun k => absurd k h⟩

/-- What chapter 8's example asks of package array. -/
def AwakeC : Prop := ∀ w : World, Calls Try.prog 7 #[] w (Tell (.bool true) w)

set_option maxRecDepth 20000 in
set_option maxHeartbeats 8000000 in
theorem right8_walk (hA : AwakeC) (hR : RightC) (hS : SizeC) (hD : DepthC) (hP : SimpleC) (A : Tree) (c0 c1 c2 : Value) (w : World) (h : ArrP w A c0 c1 c2) :
    Calls Try.prog 3 #[.agg #[c0, c1, c2]] w (Tell (.bool true) w) := by
  replace hA := Lib.hid hA; replace hR := Lib.hid hR; replace hS := Lib.hid hS; replace hD := Lib.hid hD; replace hP := Lib.hid hP
  obtain ⟨S, n, nc, m, mc, ao, co, rfl, rfl, rfl⟩ := (ArrP.within _ _ _ _ h).form
  replace h := Lib.hid h
  go_enter Try.func3, Try.ntmps3
  go_upto_region 1 with fail
  refine told_wp (fun w' => Below w.heap.size w w' ∧ Box3 w' w.heap.size (.int .u64 S) (.slice ao n nc) (.slice co m mc)) ⟨(Below.refl _ _).alloc (Nat.le_refl _) _, Box3.new _ _ _ _ rfl⟩ ?_
  rintro w0 ⟨bb, x⟩
  have x0 := x.c0; have x1 := x.c1; have x2 := x.c2
  replace bb := Lib.hid bb; replace x := Lib.hid x
  go_wp2_with fail
  refine (few8_any A _ _ _ w0 (h.out.later bb.out)).mono ?_
  rintro e w1 ⟨⟨r, rfl, hr⟩, hb⟩
  clear x0 x1 x2
  cases r with
  | false =>
    replace bb := Lib.hid (below_then bb.out (Nat.le_refl _) hb)
    clear hb hr x
    go_wp2_with fail
    refine (hA.out _).mono ?_
    rintro e w2 ⟨rfl, hb⟩
    replace bb := Lib.hid (below_then bb.out (Nat.le_refl _) hb)
    clear hb
    go_wp2_with fail
    go_ret
    exact ⟨rfl, bb.out⟩
  | true =>
    have hF := Lib.hid (hr rfl)
    replace bb := below_then bb.out (Nat.le_refl _) hb
    replace x := x.out.later hb
    have a := h.out.later bb
    clear hb hr
    obtain ⟨bR, hbR⟩ := bool_of (RightT A 8)
    replace hbR := Lib.hid hbR
    go_upto_region 3 with fail
    have sa0 := True.intro
    go_region_held3 (fun w' => w'.cell? ⟨w.heap.size, 0, none⟩ = some (.int .u64 S) ∧ w'.cell? ⟨w.heap.size, 1, none⟩ = some (.slice ao n nc) ∧ w'.cell? ⟨w.heap.size, 2, none⟩ = some (.slice co m mc))
      (first | with_reducible exact ⟨x.drew.c0, x.drew.c1, x.drew.c2⟩ | with_reducible exact ⟨x.c0, x.c1, x.c2⟩ | go_keep)
      (first
      | (go_at_call 8; clear sa0; have bb := bb.drew; have x := x.drew; have a := a.drew; refine ((hR.out _ _ _ _ _ a hF.out).mono fun _ _ => BoolPost.tell hbR.out).mono ?_; rintro e w' ⟨rfl, hb⟩; have bb := below_then bb (Nat.le_refl _) hb; have x := x.later hb; have a := a.later hb; clear hb; have sa1 := True.intro)
      | (go_at_call 9; clear sa1; refine ((right8_any A 8 _ _ _ _ a (Nat.le_refl _)).mono fun _ _ => BoolPost.tell hbR.out).mono ?_; rintro e w' ⟨rfl, hb⟩; have bb := below_then bb (Nat.le_refl _) hb; have x := x.later hb; have a := a.later hb; clear hb; have sa2 := True.intro)
      | (go_at_call 10; clear sa2; refine (hS.out _ _ _ _ _ a hF.out).mono ?_; rintro e w' ⟨rfl, hb⟩; have bb := below_then bb (Nat.le_refl _) hb; have x := x.later hb; have a := a.later hb; clear hb; have sa3 := True.intro)
      | (go_at_call 11; clear sa3; refine (size8_any A _ _ _ _ a hF.out.1).mono ?_; rintro e w' ⟨rfl, hb⟩; have bb := below_then bb (Nat.le_refl _) hb; have x := x.later hb; have a := a.later hb; clear hb; have sa4 := True.intro)
      | (go_at_call 12; clear sa4; refine (hD.out _ _ _ _ _ a hF.out).mono ?_; rintro e w' ⟨rfl, hb⟩; have bb := below_then bb (Nat.le_refl _) hb; have x := x.later hb; have a := a.later hb; clear hb; have sa5 := True.intro)
      | (go_at_call 13; clear sa5; refine (depth8_any A _ _ _ _ a hF.out.1).mono ?_; rintro e w' ⟨rfl, hb⟩; have bb := below_then bb (Nat.le_refl _) hb; have x := x.later hb; have a := a.later hb; clear hb; have sa6 := True.intro)
      | (go_at_call 14; clear sa6; refine (hP.out _ _ _ _ _ a).mono ?_; rintro e w' ⟨rfl, hb⟩; have bb := below_then bb (Nat.le_refl _) hb; have x := x.later hb; have a := a.later hb; clear hb; have sa7 := True.intro)
      | (go_at_call 15; clear sa7; refine (simple8_any A _ _ _ _ a).mono ?_; rintro e w' ⟨rfl, hb⟩; have bb := below_then bb (Nat.le_refl _) hb; have x := x.later hb; have a := a.later hb; clear hb; have sa8 := True.intro)
      | (go_at_call 7; clear sa8; refine (hA.out _).mono ?_; rintro e w' ⟨rfl, hb⟩; have bb := below_then bb (Nat.le_refl _) hb; have x := x.later hb; have a := a.later hb; clear hb; have sa9 := True.intro))
    go_wp2_with fail
    go_ret
    exact ⟨rfl, bb⟩

end Go.Proofs.Ytmkjebembicljaa

namespace Go.Proofs.Ytmkjebembicljaa
open Go.RowKit Num

set_option maxRecDepth 20000 in
theorem join_any (a b : Nat) (ha : IsL a) (hb : IsL b) (w : World) : Calls Try.prog 37 #[.int .u64 a, .int .u64 b] w fun e w' => e = .returned (.int .u64 (orL a b : Nat)) ∧ w = w' := by
  have h : bits .or .u64 (a : Int) (b : Int) = ((orL a b : Nat) : Int) := or64 a b ha hb
  go_enter Try.func37, Try.ntmps37
  go_wp2_with fail
  go_ret
  exact ⟨rfl, rfl⟩

/-- One cell without axes. -/
def aloneT : Tree → Bool
  | .leaf => false
  | .arr _ n _ m _ _ _ _ _ _ => decide (n = 0) && decide (m = 1)

set_option maxRecDepth 20000 in
set_option maxHeartbeats 2000000 in
theorem alone_any (A : Tree) (c0 c1 c2 : Value) (w : World) (h : ArrP w A c0 c1 c2) :
    Calls Try.prog 36 #[.agg #[c0, c1, c2]] w (Tell (.bool (aloneT A)) w) := by
  obtain _ | ⟨S, n, sh, m, L, K, C, N, k, sub⟩ := A
  · exact (ArrP.leaf h).elim
  obtain ⟨rfl, _, ⟨ao, nc, rfl, hn, _⟩, co, mc, rfl, hm, _⟩ := h
  have hnn := hn.1; have hnc := hn.2.1; have hmm := hm.1; have hmc := hm.2.1
  have hb := Lib.hid ((Below.refl w.heap.size w).alloc (Nat.le_refl _) (.cells #[.int .u64 S, .slice ao n nc, .slice co m mc] 26))
  by_cases h1 : n = 0
  · subst h1
    by_cases h2 : m = 1
    · subst h2
      go_enter Try.func36, Try.ntmps36
      go_wp2_with fail
      go_ret
      exact ⟨rfl, hb.out⟩
    · have hs : aloneT (.arr S 0 sh m L K C N k sub) = false := by
        unfold aloneT
        simp [h2]
      rw [hs]
      have h2' : ((m : Int) == 1) = false := by rw [beq_eq_false_iff_ne]; omega
      clear hs
      go_enter Try.func36, Try.ntmps36
      go_wp2_with fail
      go_ret
      exact ⟨rfl, hb.out⟩
  · have hs : aloneT (.arr S n sh m L K C N k sub) = false := by
      unfold aloneT
      simp [h1]
    rw [hs]
    have h2' : ((n : Int) == 0) = false := by rw [beq_eq_false_iff_ne]; omega
    clear hs
    go_enter Try.func36, Try.ntmps36
    go_wp2_with fail
    go_ret
    exact ⟨rfl, hb.out⟩

set_option maxRecDepth 20000 in
set_option maxHeartbeats 2000000 in
theorem simple_any (A : Tree) (c0 c1 c2 : Value) (w : World) (h : ArrP w A c0 c1 c2) :
    Calls Try.prog 14 #[.agg #[c0, c1, c2]] w (Tell (.bool (simpleT A)) w) := by
  obtain _ | ⟨S, n, sh, m, L, K, C, N, k, sub⟩ := A
  · exact (ArrP.leaf h).elim
  have hA := Lib.hid h
  obtain ⟨si, hsi⟩ : ∃ si, si = simpleT (.arr S n sh m L K C N k sub) := ⟨_, rfl⟩
  have hsi' := Lib.hid hsi
  rw [← hsi]
  clear hsi
  obtain ⟨rfl, _, ⟨ao, nc, rfl, hn, _⟩, co, mc, rfl, hm, hc⟩ := h
  have hnn := hn.1; have hnc := hn.2.1; have hmm := hm.1; have hmc := hm.2.1
  have hb := Lib.hid ((Below.refl w.heap.size w).alloc (Nat.le_refl _) (.cells #[.int .u64 S, .slice ao n nc, .slice co m mc] 26))
  have hx := Lib.hid (Box3.new (w := w) (B := w.heap.size) (.int .u64 S) (.slice ao n nc) (.slice co m mc) 26 rfl)
  have z0 := hx.out.c0; have z1 := hx.out.c1; have z2 := hx.out.c2
  go_enter Try.func14, Try.ntmps14
  go_wp2_with fail
  refine (alone_any (.arr S n sh m L K C N k sub) _ _ _ _ (ArrP.below _ _ _ _ hA.out hb.out)).mono ?_
  rintro e w1 ⟨rfl, hb1⟩
  replace hx := Lib.hid (hx.out.later hb1); replace hb := Lib.hid (hb.out.trans (hb1.mono hb.out.size))
  clear z0 z1 z2 hb1
  have z2 := hx.out.c2
  by_cases hnm : n = 0 ∧ m = 1
  · obtain ⟨rfl, rfl⟩ := hnm
    have ht : aloneT (.arr S 0 sh 1 L K C N k sub) = true := rfl
    rw [ht]
    rcases hc with hc | ⟨b, o, rfl, hc⟩
    · omega
    · obtain ⟨e, he, hcell⟩ := hc 0 (by decide)
      have c1 := he 1 (by decide)
      rw [hcell.2.2.1, Nat.zero_mul, Nat.add_zero] at c1
      have c2 := cell_below c1 hb.out
      obtain ⟨x, hx⟩ : ∃ x, x = K 0 := ⟨_, rfl⟩
      have hs := Lib.hid (show si = !decide (x = 2) by rw [hsi'.out, hx]; rfl)
      rw [← hx] at c1 c2
      clear hx hc he hcell ht hsi'
      go_wp2_with fail
      go_ret
      refine ⟨congrArg (fun b => Ending.returned (.bool b)) ?_, hb.out⟩
      rw [hs.out]
      by_cases hx2 : x = 2
      · simp [hx2]
      · simp [hx2]
  · have ht : aloneT (.arr S n sh m L K C N k sub) = false := by
      unfold aloneT
      rw [← Bool.not_eq_true, Bool.and_eq_true, decide_eq_true_eq, decide_eq_true_eq]
      exact hnm
    have hs := Lib.hid (show si = false by
      have e : simpleT (.arr S n sh m L K C N k sub) = (aloneT (.arr S n sh m L K C N k sub) && !decide (K 0 = 2)) := rfl
      rw [hsi'.out, e, ht]; rfl)
    rw [ht]
    clear ht hc hsi'
    go_wp2_with fail
    go_ret
    exact ⟨by rw [hs.out]; rfl, hb.out⟩

theorem simpleC : SimpleC := fun A c0 c1 c2 w h => simple_any A c0 c1 c2 w h

set_option maxRecDepth 20000 in
set_option maxHeartbeats 4000000 in
theorem size_any : ∀ (A : Tree) (c0 c1 c2 : Value) (w : World), ArrP w A c0 c1 c2 → partsT A ≤ 4000 →
    Calls Try.prog 10 #[.agg #[c0, c1, c2]] w (Tell (.int .i64 (sizeT A : Nat)) w) := by
  intro A
  induction A with
  | leaf => intros; exact (ArrP.leaf ‹ArrP _ Tree.leaf _ _ _›).elim
  | arr S n sh m L K C N k sub ih =>
    intro c0 c1 c2 w h hfew
    have hfew' := Lib.hid hfew
    have hAw := Lib.hid h
    obtain ⟨rfl, hS, ⟨ao, nc, rfl, hp, _⟩, co, mc, rfl, hm, hc⟩ := h
    have hp1 := hp.1; have hp2 := hp.2.1; have hp3 := hp.2.2; have hm1 := hm.1; have hm2 := hm.2.1; have hm3 := hm.2.2
    have hbox := Lib.hid (Box3.new (.int .u64 S) (.slice ao n nc) (.slice co m mc) 26 (show w.heap.size = w.heap.size from rfl))
    have hbel := Lib.hid ((Below.refl w.heap.size w).alloc (Nat.le_refl _) (.cells #[.int .u64 S, .slice ao n nc, .slice co m mc] 26))
    have hc' := Lib.hid hc
    clear hc hfew
    go_enter Try.func10, Try.ntmps10
    have z2 := hbox.out.c2
    go_wp2_with fail
    clear z2
    go_loopw [3, 14] (fun q i wr => ∃ t : Nat, t ≤ m ∧ i = .int .i64 t ∧ q = .int .i64 ((m + sumN (fun i => sumN (fun j => sizeT (sub i j)) (k i)) t : Nat) : Int) ∧ Hid (Box3 wr w.heap.size (.int .u64 S) (.slice ao n nc) (.slice co m mc)) ∧ Hid (Below w.heap.size w wr)) (fun _ i _ => m - (intOfZ i).toNat)
    case atStart => exact ⟨0, Nat.zero_le _, rfl, by rfl, hbox, hbel⟩
    case round =>
      obtain ⟨t, ht, rfl, rfl, hbx, hbr⟩ := hrel
      clear hbox hbel
      by_cases hlt : t < m
      · have hm0 := Lib.hid hlt
        rcases hc'.out with h0 | ⟨b, o, rfl, hcells⟩
        · omega
        obtain ⟨e, he, q0, qL, q1, qK, ⟨q2, ⟨a1, ac, q3, ha, _, _⟩, ⟨b1, bc, q4, hb', _, _⟩⟩, q5, qC, io, kc, q6, hk, hrow⟩ := hcells t hlt
        have y0 := cell_below (he 0 (by decide)) hbr.out; have y1 := cell_below (he 1 (by decide)) hbr.out; have y2 := cell_below (he 2 (by decide)) hbr.out; have y3 := cell_below (he 3 (by decide)) hbr.out
        have y4 := cell_below (he 4 (by decide)) hbr.out; have y5 := cell_below (he 5 (by decide)) hbr.out; have y6 := cell_below (he 6 (by decide)) hbr.out
        rw [q0, Nat.add_zero] at y0; rw [q1] at y1; rw [q2] at y2; rw [q3] at y3; rw [q4] at y4; rw [q5] at y5; rw [q6] at y6
        have kk1 := hk.1; have kk2 := hk.2.1
        have hrow' := Lib.hid hrow; have hqL := Lib.hid qL
        clear hcells he q0 qL q1 qK q2 q3 q4 q5 qC q6 ha hb' hk hrow
        obtain ⟨U, hU⟩ : ∃ U, U = wr.heap.size := ⟨_, rfl⟩
        go_upto_region 5 with fail
        rw [← hU]
        refine told_wp (fun w' => Box3 w' w.heap.size (.int .u64 S) (.slice ao n nc) (.slice (some ⟨b, o, none⟩) m mc) ∧ Below w.heap.size w w' ∧ Box7 w' U (.int .u64 (L t)) (.int .i64 (K t)) (.bool (N t).neg) (.slice a1 (N t).an ac) (.slice b1 (N t).am bc) (.int .i64 (C t)) (.slice io (k t) kc)) ⟨hbx.out.alloc _, hbr.out.alloc (by have := hbr.out.size; omega) _, Box7.new _ _ _ _ _ _ _ _ hU⟩ ?_
        clear hbx hbr y0 y1 y2 y3 y4 y5 y6 hU
        rintro wa ⟨hxa, hba, x7⟩
        have g0 := x7.c0; have g6 := x7.c6
        have hbx := Lib.hid hxa; have hbr := Lib.hid hba; have hx7 := Lib.hid x7
        obtain ⟨kt, hkt⟩ : ∃ kt, kt = k t := ⟨_, rfl⟩
        rw [← hkt] at g6 hrow' kk1
        have hkt' := Lib.hid hkt
        clear hxa hba x7 hkt
        go_wp2_with fail
        go_loopw [3, 21] (fun q j wi => ∃ u : Nat, u ≤ kt ∧ j = .int .i64 u ∧ q = .int .i64 ((m + sumN (fun i => sumN (fun j => sizeT (sub i j)) (k i)) t + sumN (fun j => sizeT (sub t j)) u : Nat) : Int) ∧ Hid (Box3 wi w.heap.size (.int .u64 S) (.slice ao n nc) (.slice (some ⟨b, o, none⟩) m mc)) ∧ Hid (Below w.heap.size w wi)) (fun _ j _ => kt - (intOfZ j).toNat)
        case atStart => exact ⟨0, Nat.zero_le _, rfl, rfl, hbx, hbr⟩
        case round =>
          obtain ⟨u, hu, rfl, rfl, hbx3, hbr3⟩ := hrel
          clear hbx hbr g0 g6 hx7
          by_cases hul : u < kt
          · rcases hrow'.out with h0 | ⟨b', o', rfl, hrows⟩
            · omega
            obtain ⟨d0, d1, d2, r0, r1, r2, r3⟩ := hrows u hul
            obtain ⟨S', n', nc', m', mc', ao', co', rfl, rfl, rfl⟩ := (ArrP.within _ _ _ _ r3).form
            have s0 := cell_below r0 hbr3.out; have s1 := cell_below r1 hbr3.out; have s2 := cell_below r2 hbr3.out
            have hA := Lib.hid (ArrP.below _ _ _ _ r3 hbr3.out)
            have hps := parts_sub (S := S) (n := n) (sh := sh) (L := L) (K := K) (C := C) (N := N) (sub := sub) (k := k) hlt (by rw [← hkt'.out]; exact hul)
            have hps' := Lib.hid (show partsT (sub t u) ≤ 4000 by have := hfew'.out; omega)
            have hpt := Lib.hid hps
            have hih := Lib.hid (fun w h => ih t u (.int .u64 S') (.slice ao' n' nc') (.slice co' m' mc') w h hps'.out)
            clear hrows r0 r1 r2 r3 hps
            have hbd : m + sumN (fun i => sumN (fun j => sizeT (sub i j)) (k i)) t + sumN (fun j => sizeT (sub t j)) u + sizeT (sub t u) ≤ 4000 := by
              have e1 := sumN_mono (fun j => sizeT (sub t j)) (k t) (show u + 1 ≤ k t by rw [← hkt'.out]; omega)
              have e2 := sumN_mono (fun i => sumN (fun j => sizeT (sub i j)) (k i)) m (show t + 1 ≤ m by omega)
              have e3 : sumN (fun j => sizeT (sub t j)) (u + 1) = sumN (fun j => sizeT (sub t j)) u + sizeT (sub t u) := rfl
              have e4 : sumN (fun i => sumN (fun j => sizeT (sub i j)) (k i)) (t + 1) = sumN (fun i => sumN (fun j => sizeT (sub i j)) (k i)) t + sumN (fun j => sizeT (sub t j)) (k t) := rfl
              have e5 := size_le (.arr S n sh m L K C N k sub)
              have e6 : sizeT (.arr S n sh m L K C N k sub) = m + sumN (fun i => sumN (fun j => sizeT (sub i j)) (k i)) m := rfl
              have := hfew'.out
              omega
            obtain ⟨X, hX⟩ : ∃ X, X = m + sumN (fun i => sumN (fun j => sizeT (sub i j)) (k i)) t + sumN (fun j => sizeT (sub t j)) u := ⟨_, rfl⟩
            obtain ⟨Y, hY⟩ : ∃ Y, Y = sizeT (sub t u) := ⟨_, rfl⟩
            rw [← hX] at hbd ⊢
            rw [← hY] at hbd hih
            have hX' := Lib.hid hX; have hY' := Lib.hid hY
            clear hX hY
            have hb2 := (Below.refl wr.heap.size wr).alloc (Nat.le_refl _) (.cells #[.int .u64 S', .slice ao' n' nc', .slice co' m' mc'] 26)
            have hA2 := Lib.hid (ArrP.below _ _ _ _ hA.out hb2)
            have hbr4 := Lib.hid (hbr3.out.trans (hb2.mono hbr3.out.size))
            have hbx4 := Lib.hid (hbx3.out.later hb2)
            clear hb2 hbr3 hbx3 hA
            have v0 := World.cell?_alloc_new
            clear v0
            go_wp2_with fail
            refine (hih.out _ hA2.out).mono ?_
            rintro e2 w2 ⟨rfl, hb2⟩
            replace hbx4 := Lib.hid (hbx4.out.later hb2)
            replace hbr4 := Lib.hid (hbr4.out.trans (hb2.mono hbr4.out.size))
            clear hb2 s0 s1 s2 hA2
            go_wp2_with fail
            go_roundw
            case rel =>
              refine ⟨u + 1, by omega, by go_num, ?_, hbx4, hbr4⟩
              have e1 := hX'.out; have e2 := hY'.out
              exact congrArg (Value.int .i64) (by show (X : Int) + (Y : Int) = ((m + sumN _ t + (sumN _ u + sizeT (sub t u)) : Nat) : Int); omega)
            case measure => simp [intOfZ]; omega
          · obtain rfl : u = kt := by omega
            go_wp2_with fail
            go_roundw
            case rel =>
              refine ⟨t + 1, by omega, by go_num, ?_, hbx3, hbr3⟩
              rw [hkt'.out]; exact congrArg (fun x : Nat => Value.int .i64 (x : Int)) (by show _ = m + (sumN _ t + sumN _ (k t)); omega)
            case measure => simp [intOfZ]; omega
      · obtain rfl : t = m := by omega
        go_wp2_with fail
        go_ret
        exact ⟨rfl, hbr.out⟩

theorem fold_one {g h : Nat → Nat → Nat} {s : Nat} : ∀ n, (∀ i x, h i (x + 1) = g i x + 1) → foldN h (s + 1) n = foldN g s n + 1
  | 0, _ => rfl
  | n + 1, e => by
    show h n (foldN h (s + 1) n) = g n (foldN g s n) + 1
    rw [fold_one n e, e]

theorem depth_one {m : Nat} {k : Nat → Nat} {sub : Nat → Nat → Tree} : foldN (fun i s => foldN (fun j s => max s (depthT (sub i j) + 1)) s (k i)) 1 m = foldN (fun i s => foldN (fun j s => max s (depthT (sub i j))) s (k i)) 0 m + 1 :=
  fold_one m fun i x => fold_one (k i) fun j y => by omega

set_option maxRecDepth 20000 in
set_option maxHeartbeats 4000000 in
theorem depth_any : ∀ (A : Tree) (c0 c1 c2 : Value) (w : World), ArrP w A c0 c1 c2 → partsT A ≤ 4000 →
    Calls Try.prog 12 #[.agg #[c0, c1, c2]] w (Tell (.int .i64 (depthT A : Nat)) w) := by
  intro A
  induction A with
  | leaf => intros; exact (ArrP.leaf ‹ArrP _ Tree.leaf _ _ _›).elim
  | arr S n sh m L K C N k sub ih =>
    intro c0 c1 c2 w h hfew
    have hfew' := Lib.hid hfew
    have hAw := Lib.hid h
    obtain ⟨rfl, hS, ⟨ao, nc, rfl, hp, _⟩, co, mc, rfl, hm, hc⟩ := h
    have hp1 := hp.1; have hp2 := hp.2.1; have hp3 := hp.2.2; have hm1 := hm.1; have hm2 := hm.2.1; have hm3 := hm.2.2
    have hbox := Lib.hid (Box3.new (.int .u64 S) (.slice ao n nc) (.slice co m mc) 26 (show w.heap.size = w.heap.size from rfl))
    have hbel := Lib.hid ((Below.refl w.heap.size w).alloc (Nat.le_refl _) (.cells #[.int .u64 S, .slice ao n nc, .slice co m mc] 26))
    have hc' := Lib.hid hc
    clear hc hfew
    go_enter Try.func12, Try.ntmps12
    have z0 := hbox.out.c0; have z1 := hbox.out.c1; have z2 := hbox.out.c2
    have hAb := Lib.hid (ArrP.below _ _ _ _ hAw.out hbel.out)
    go_wp2_with fail
    refine (simple_any (.arr S n sh m L K C N k sub) _ _ _ _ hAb.out).mono ?_
    rintro e w1 ⟨rfl, hb1⟩
    replace hbox := Lib.hid (hbox.out.later hb1)
    replace hbel := Lib.hid (hbel.out.trans (hb1.mono hbel.out.size))
    clear hb1 z0 z1 z2
    by_cases hsi : simpleT (.arr S n sh m L K C N k sub) = true
    · have hz : depthT (.arr S n sh m L K C N k sub) = 0 := if_pos hsi
      rw [hsi]
      go_wp2_with fail
      go_ret
      exact ⟨by rw [hz]; rfl, hbel.out⟩
    have hz : depthT (.arr S n sh m L K C N k sub) = foldN (fun i s => foldN (fun j s => max s (depthT (sub i j) + 1)) s (k i)) 1 m := if_neg hsi
    have hsf : simpleT (.arr S n sh m L K C N k sub) = false := by simpa using hsi
    have hz' := Lib.hid (hz.trans depth_one)
    rw [hsf]
    clear hz hsf hsi
    have z2 := hbox.out.c2
    go_wp2_with fail
    clear z2
    have hX1 := Lib.hid (show ∀ t, t ≤ m → foldN (fun i s => foldN (fun j s => max s (depthT (sub i j))) s (k i)) 0 t ≤ 5000 from fun t ht => by
      refine foldN_le (Nat.zero_le _) t fun i x hi hx => foldN_le hx (k i) fun j y hj hy => Nat.max_le.2 ⟨hy, ?_⟩
      have a := depth_le (sub i j)
      have b := parts_sub (S := S) (n := n) (sh := sh) (L := L) (K := K) (C := C) (N := N) (sub := sub) (show i < m by omega) hj
      have := hfew'.out
      omega)
    go_loopw [3, 13] (fun q i wr => ∃ t : Nat, t ≤ m ∧ i = .int .i64 t ∧ q = .int .i64 ((foldN (fun i s => foldN (fun j s => max s (depthT (sub i j))) s (k i)) 0 t : Nat) : Int) ∧ Hid (Box3 wr w.heap.size (.int .u64 S) (.slice ao n nc) (.slice co m mc)) ∧ Hid (Below w.heap.size w wr)) (fun _ i _ => m - (intOfZ i).toNat)
    case atStart => exact ⟨0, Nat.zero_le _, rfl, by rfl, hbox, hbel⟩
    case round =>
      obtain ⟨t, ht, rfl, rfl, hbx, hbr⟩ := hrel
      clear hbox hbel
      by_cases hlt : t < m
      · have hm0 := Lib.hid hlt
        rcases hc'.out with h0 | ⟨b, o, rfl, hcells⟩
        · omega
        obtain ⟨e, he, q0, qL, q1, qK, ⟨q2, ⟨a1, ac, q3, ha, _, _⟩, ⟨b1, bc, q4, hb', _, _⟩⟩, q5, qC, io, kc, q6, hk, hrow⟩ := hcells t hlt
        have y0 := cell_below (he 0 (by decide)) hbr.out; have y1 := cell_below (he 1 (by decide)) hbr.out; have y2 := cell_below (he 2 (by decide)) hbr.out; have y3 := cell_below (he 3 (by decide)) hbr.out
        have y4 := cell_below (he 4 (by decide)) hbr.out; have y5 := cell_below (he 5 (by decide)) hbr.out; have y6 := cell_below (he 6 (by decide)) hbr.out
        rw [q0, Nat.add_zero] at y0; rw [q1] at y1; rw [q2] at y2; rw [q3] at y3; rw [q4] at y4; rw [q5] at y5; rw [q6] at y6
        have kk1 := hk.1; have kk2 := hk.2.1
        have hrow' := Lib.hid hrow; have hqL := Lib.hid qL
        clear hcells he q0 qL q1 qK q2 q3 q4 q5 qC q6 ha hb' hk hrow
        obtain ⟨U, hU⟩ : ∃ U, U = wr.heap.size := ⟨_, rfl⟩
        go_upto_region 7 with fail
        rw [← hU]
        refine told_wp (fun w' => Box3 w' w.heap.size (.int .u64 S) (.slice ao n nc) (.slice (some ⟨b, o, none⟩) m mc) ∧ Below w.heap.size w w' ∧ Box7 w' U (.int .u64 (L t)) (.int .i64 (K t)) (.bool (N t).neg) (.slice a1 (N t).an ac) (.slice b1 (N t).am bc) (.int .i64 (C t)) (.slice io (k t) kc)) ⟨hbx.out.alloc _, hbr.out.alloc (by have := hbr.out.size; omega) _, Box7.new _ _ _ _ _ _ _ _ hU⟩ ?_
        clear hbx hbr y0 y1 y2 y3 y4 y5 y6 hU
        rintro wa ⟨hxa, hba, x7⟩
        have g0 := x7.c0; have g6 := x7.c6
        have hbx := Lib.hid hxa; have hbr := Lib.hid hba; have hx7 := Lib.hid x7
        obtain ⟨kt, hkt⟩ : ∃ kt, kt = k t := ⟨_, rfl⟩
        rw [← hkt] at g6 hrow' kk1
        have hkt' := Lib.hid hkt
        clear hxa hba x7 hkt
        go_wp2_with fail
        go_loopw [3, 20] (fun q j wi => ∃ u : Nat, u ≤ kt ∧ j = .int .i64 u ∧ q = .int .i64 ((foldN (fun j s => max s (depthT (sub t j))) (foldN (fun i s => foldN (fun j s => max s (depthT (sub i j))) s (k i)) 0 t) u : Nat) : Int) ∧ Hid (Box3 wi w.heap.size (.int .u64 S) (.slice ao n nc) (.slice (some ⟨b, o, none⟩) m mc)) ∧ Hid (Below w.heap.size w wi)) (fun _ j _ => kt - (intOfZ j).toNat)
        case atStart => exact ⟨0, Nat.zero_le _, rfl, rfl, hbx, hbr⟩
        case round =>
          obtain ⟨u, hu, rfl, rfl, hbx3, hbr3⟩ := hrel
          clear hbx hbr g0 g6 hx7
          by_cases hul : u < kt
          · rcases hrow'.out with h0 | ⟨b', o', rfl, hrows⟩
            · omega
            obtain ⟨d0, d1, d2, r0, r1, r2, r3⟩ := hrows u hul
            obtain ⟨S', n', nc', m', mc', ao', co', rfl, rfl, rfl⟩ := (ArrP.within _ _ _ _ r3).form
            have s0 := cell_below r0 hbr3.out; have s1 := cell_below r1 hbr3.out; have s2 := cell_below r2 hbr3.out
            have hA := Lib.hid (ArrP.below _ _ _ _ r3 hbr3.out)
            have hps := parts_sub (S := S) (n := n) (sh := sh) (L := L) (K := K) (C := C) (N := N) (sub := sub) (k := k) hlt (by rw [← hkt'.out]; exact hul)
            have hps' := Lib.hid (show partsT (sub t u) ≤ 4000 by have := hfew'.out; omega)
            have hpt := Lib.hid hps
            have hih := Lib.hid (fun w h => ih t u (.int .u64 S') (.slice ao' n' nc') (.slice co' m' mc') w h hps'.out)
            clear hrows r0 r1 r2 r3 hps
            have hX0 : foldN (fun j s => max s (depthT (sub t j))) (foldN (fun i s => foldN (fun j s => max s (depthT (sub i j))) s (k i)) 0 t) u ≤ 5000 := by
              refine foldN_le (hX1.out t ht) u fun j y hj hy => Nat.max_le.2 ⟨hy, ?_⟩
              have a := depth_le (sub t j)
              have b := parts_sub (S := S) (n := n) (sh := sh) (L := L) (K := K) (C := C) (N := N) (sub := sub) (k := k) hlt (show j < k t by rw [← hkt'.out]; omega)
              have := hfew'.out
              omega
            have hY0 : depthT (sub t u) ≤ 5000 := by have a := depth_le (sub t u); have := hps'.out; omega
            obtain ⟨X, hX⟩ : ∃ X, X = foldN (fun j s => max s (depthT (sub t j))) (foldN (fun i s => foldN (fun j s => max s (depthT (sub i j))) s (k i)) 0 t) u := ⟨_, rfl⟩
            obtain ⟨Y, hY⟩ : ∃ Y, Y = depthT (sub t u) := ⟨_, rfl⟩
            rw [← hX] at hX0 ⊢
            rw [← hY] at hY0 hih
            have hX' := Lib.hid hX; have hY' := Lib.hid hY
            clear hX hY
            have hb2 := (Below.refl wr.heap.size wr).alloc (Nat.le_refl _) (.cells #[.int .u64 S', .slice ao' n' nc', .slice co' m' mc'] 26)
            have hA2 := Lib.hid (ArrP.below _ _ _ _ hA.out hb2)
            have hbr4 := Lib.hid (hbr3.out.trans (hb2.mono hbr3.out.size))
            have hbx4 := Lib.hid (hbx3.out.later hb2)
            clear hb2 hbr3 hbx3 hA
            have v0 := World.cell?_alloc_new
            clear v0
            go_wp2_with fail
            refine (hih.out _ hA2.out).mono ?_
            rintro e2 w2 ⟨rfl, hb2⟩
            replace hbx4 := Lib.hid (hbx4.out.later hb2)
            replace hbr4 := Lib.hid (hbr4.out.trans (hb2.mono hbr4.out.size))
            clear hb2 s0 s1 s2 hA2
            have hst := Lib.hid (show foldN (fun j s => max s (depthT (sub t j))) (foldN (fun i s => foldN (fun j s => max s (depthT (sub i j))) s (k i)) 0 t) (u + 1) = max X Y by rw [hX'.out, hY'.out]; rfl)
            by_cases hgt : X < Y
            · have hm' := Lib.hid (show max X Y = Y by omega)
              have hgi : ((X : Int) < (Y : Int)) := by omega
              go_wp2_with fail
              go_roundw
              case rel =>
                refine ⟨u + 1, by omega, by go_num, ?_, hbx4, hbr4⟩
                rw [hst.out, hm'.out]
                exact congrArg (Value.int .i64) (by omega)
              case measure => simp [intOfZ]; omega
            · have hm' := Lib.hid (show max X Y = X by omega)
              have hgi : ¬ ((X : Int) < (Y : Int)) := by omega
              go_wp2_with fail
              go_roundw
              case rel =>
                refine ⟨u + 1, by omega, by go_num, ?_, hbx4, hbr4⟩
                rw [hst.out, hm'.out]
                exact congrArg (Value.int .i64) (by omega)
              case measure => simp [intOfZ]; omega
          · obtain rfl : u = kt := by omega
            go_wp2_with fail
            go_roundw
            case rel =>
              refine ⟨t + 1, by omega, by go_num, ?_, hbx3, hbr3⟩
              rw [hkt'.out]; rfl
            case measure => simp [intOfZ]; omega
      · obtain rfl : t = m := by omega
        obtain ⟨X, hX⟩ : ∃ X, X = foldN (fun i s => foldN (fun j s => max s (depthT (sub i j))) s (k i)) 0 t := ⟨_, rfl⟩
        have hX0 : X ≤ 5000 := by rw [hX]; exact hX1.out t (Nat.le_refl _)
        rw [← hX] at hz' ⊢
        clear hX
        go_wp2_with fail
        go_ret
        exact ⟨by rw [hz'.out]; exact congrArg (fun x => Ending.returned (.int .i64 x)) (by omega), hbr.out⟩

set_option maxRecDepth 20000 in
set_option maxHeartbeats 4000000 in
theorem total_any : ∀ (A : Tree) (c0 c1 c2 : Value) (w : World), ArrP w A c0 c1 c2 → partsT A ≤ 4000 →
    Calls Try.prog 16 #[.agg #[c0, c1, c2]] w (Tell (.int .u64 (totalT A : Nat)) w) := by
  intro A
  induction A with
  | leaf => intros; exact (ArrP.leaf ‹ArrP _ Tree.leaf _ _ _›).elim
  | arr S n sh m L K C N k sub ih =>
    intro c0 c1 c2 w h hfew
    have hfew' := Lib.hid hfew
    have hAw := Lib.hid h
    obtain ⟨rfl, hS, ⟨ao, nc, rfl, hp, _⟩, co, mc, rfl, hm, hc⟩ := h
    have hp1 := hp.1; have hp2 := hp.2.1; have hp3 := hp.2.2; have hm1 := hm.1; have hm2 := hm.2.1; have hm3 := hm.2.2
    have hbox := Lib.hid (Box3.new (.int .u64 S) (.slice ao n nc) (.slice co m mc) 26 (show w.heap.size = w.heap.size from rfl))
    have hbel := Lib.hid ((Below.refl w.heap.size w).alloc (Nat.le_refl _) (.cells #[.int .u64 S, .slice ao n nc, .slice co m mc] 26))
    have hc' := Lib.hid hc
    clear hc hfew
    go_enter Try.func16, Try.ntmps16
    have hlab := Lib.hid (arr_labels hAw.out)
    have hsubl := Lib.hid (show ∀ i j, i < m → j < k i → IsL (totalT (sub i j)) from fun i j hi hj => by
      obtain ⟨d0, d1, d2, r⟩ := hlab.out.2.2 i hi j hj
      exact total_is _ _ _ _ r)
    have hOut := Lib.hid (show ∀ t, t ≤ m → IsL (foldN (fun i s => foldN (fun j s => orL s (totalT (sub i j))) (orL s (L i)) (k i)) S t) from fun t ht => foldN_is hlab.out.1 t fun i x hi hx => foldN_is (orL_is hx (hlab.out.2.1 i (by omega))) (k i) fun j y hj hy => orL_is hy (hsubl.out i j (by omega) hj))
    have z0 := hbox.out.c0; have z2 := hbox.out.c2
    go_wp2_with fail
    clear z0 z2
    go_loopw [3, 13] (fun q i wr => ∃ t : Nat, t ≤ m ∧ i = .int .i64 t ∧ q = .int .u64 ((foldN (fun i s => foldN (fun j s => orL s (totalT (sub i j))) (orL s (L i)) (k i)) S t : Nat) : Int) ∧ Hid (Box3 wr w.heap.size (.int .u64 S) (.slice ao n nc) (.slice co m mc)) ∧ Hid (Below w.heap.size w wr)) (fun _ i _ => m - (intOfZ i).toNat)
    case atStart => exact ⟨0, Nat.zero_le _, rfl, by rfl, hbox, hbel⟩
    case round =>
      obtain ⟨t, ht, rfl, rfl, hbx, hbr⟩ := hrel
      clear hbox hbel
      by_cases hlt : t < m
      · have hm0 := Lib.hid hlt
        rcases hc'.out with h0 | ⟨b, o, rfl, hcells⟩
        · omega
        obtain ⟨e, he, q0, qL, q1, qK, ⟨q2, ⟨a1, ac, q3, ha, _, _⟩, ⟨b1, bc, q4, hb', _, _⟩⟩, q5, qC, io, kc, q6, hk, hrow⟩ := hcells t hlt
        have y0 := cell_below (he 0 (by decide)) hbr.out; have y1 := cell_below (he 1 (by decide)) hbr.out; have y2 := cell_below (he 2 (by decide)) hbr.out; have y3 := cell_below (he 3 (by decide)) hbr.out
        have y4 := cell_below (he 4 (by decide)) hbr.out; have y5 := cell_below (he 5 (by decide)) hbr.out; have y6 := cell_below (he 6 (by decide)) hbr.out
        rw [q0, Nat.add_zero] at y0; rw [q1] at y1; rw [q2] at y2; rw [q3] at y3; rw [q4] at y4; rw [q5] at y5; rw [q6] at y6
        have kk1 := hk.1; have kk2 := hk.2.1
        have hrow' := Lib.hid hrow; have hqL := Lib.hid qL
        clear hcells he q0 qL q1 qK q2 q3 q4 q5 qC q6 ha hb' hk hrow
        obtain ⟨U, hU⟩ : ∃ U, U = wr.heap.size := ⟨_, rfl⟩
        go_upto_region 5 with fail
        rw [← hU]
        refine told_wp (fun w' => Box3 w' w.heap.size (.int .u64 S) (.slice ao n nc) (.slice (some ⟨b, o, none⟩) m mc) ∧ Below w.heap.size w w' ∧ Box7 w' U (.int .u64 (L t)) (.int .i64 (K t)) (.bool (N t).neg) (.slice a1 (N t).an ac) (.slice b1 (N t).am bc) (.int .i64 (C t)) (.slice io (k t) kc)) ⟨hbx.out.alloc _, hbr.out.alloc (by have := hbr.out.size; omega) _, Box7.new _ _ _ _ _ _ _ _ hU⟩ ?_
        clear hbx hbr y0 y1 y2 y3 y4 y5 y6 hU
        rintro wa ⟨hxa, hba, x7⟩
        have g0 := x7.c0; have g6 := x7.c6
        have hbx := Lib.hid hxa; have hbr := Lib.hid hba; have hx7 := Lib.hid x7
        obtain ⟨kt, hkt⟩ : ∃ kt, kt = k t := ⟨_, rfl⟩
        rw [← hkt] at g6 hrow' kk1
        have hkt' := Lib.hid hkt
        clear hxa hba x7 hkt
        obtain ⟨X, hX⟩ : ∃ X, X = foldN (fun i s => foldN (fun j s => orL s (totalT (sub i j))) (orL s (L i)) (k i)) S t := ⟨_, rfl⟩
        have hXl : IsL X := by rw [hX]; exact hOut.out t ht
        have hX' := Lib.hid hX
        rw [← hX]
        clear hX
        go_wp2_with fail
        refine (join_any X (L t) hXl hqL.out _).mono ?_
        rintro e2 w2 ⟨rfl, rfl⟩
        go_wp2_with fail
        go_loopw [3, 24] (fun q j wi => ∃ u : Nat, u ≤ kt ∧ j = .int .i64 u ∧ q = .int .u64 ((foldN (fun j s => orL s (totalT (sub t j))) (orL X (L t)) u : Nat) : Int) ∧ Hid (Box3 wi w.heap.size (.int .u64 S) (.slice ao n nc) (.slice (some ⟨b, o, none⟩) m mc)) ∧ Hid (Below w.heap.size w wi)) (fun _ j _ => kt - (intOfZ j).toNat)
        case atStart => exact ⟨0, Nat.zero_le _, rfl, rfl, hbx, hbr⟩
        case round =>
          obtain ⟨u, hu, rfl, rfl, hbx3, hbr3⟩ := hrel
          clear hbx hbr g0 g6 hx7
          by_cases hul : u < kt
          · rcases hrow'.out with h0 | ⟨b', o', rfl, hrows⟩
            · omega
            obtain ⟨d0, d1, d2, r0, r1, r2, r3⟩ := hrows u hul
            obtain ⟨S', n', nc', m', mc', ao', co', rfl, rfl, rfl⟩ := (ArrP.within _ _ _ _ r3).form
            have s0 := cell_below r0 hbr3.out; have s1 := cell_below r1 hbr3.out; have s2 := cell_below r2 hbr3.out
            have hA := Lib.hid (ArrP.below _ _ _ _ r3 hbr3.out)
            have hps := parts_sub (S := S) (n := n) (sh := sh) (L := L) (K := K) (C := C) (N := N) (sub := sub) (k := k) hlt (by rw [← hkt'.out]; exact hul)
            have hps' := Lib.hid (show partsT (sub t u) ≤ 4000 by have := hfew'.out; omega)
            have hpt := Lib.hid hps
            have hih := Lib.hid (fun w h => ih t u (.int .u64 S') (.slice ao' n' nc') (.slice co' m' mc') w h hps'.out)
            clear hrows r0 r1 r2 r3 hps
            obtain ⟨Z, hZ⟩ : ∃ Z, Z = foldN (fun j s => orL s (totalT (sub t j))) (orL X (L t)) u := ⟨_, rfl⟩
            have hZl : IsL Z := by rw [hZ]; exact foldN_is (orL_is hXl hqL.out) u fun j y hj hy => orL_is hy (hsubl.out t j hlt (by rw [← hkt'.out]; omega))
            have hYl := hsubl.out t u hlt (by rw [← hkt'.out]; exact hul)
            have hZ' := Lib.hid hZ
            rw [← hZ]
            clear hZ
            have hb2 := (Below.refl wr.heap.size wr).alloc (Nat.le_refl _) (.cells #[.int .u64 S', .slice ao' n' nc', .slice co' m' mc'] 26)
            have hA2 := Lib.hid (ArrP.below _ _ _ _ hA.out hb2)
            have hbr4 := Lib.hid (hbr3.out.trans (hb2.mono hbr3.out.size))
            have hbx4 := Lib.hid (hbx3.out.later hb2)
            clear hb2 hbr3 hbx3 hA
            have v0 := World.cell?_alloc_new
            clear v0
            go_wp2_with fail
            refine (hih.out _ hA2.out).mono ?_
            rintro e2 w2 ⟨rfl, hb2⟩
            replace hbx4 := Lib.hid (hbx4.out.later hb2)
            replace hbr4 := Lib.hid (hbr4.out.trans (hb2.mono hbr4.out.size))
            clear hb2 s0 s1 s2 hA2
            go_wp2_with fail
            refine (join_any Z (totalT (sub t u)) hZl hYl _).mono ?_
            rintro e3 w3 ⟨rfl, rfl⟩
            go_wp2_with fail
            go_roundw
            case rel =>
              refine ⟨u + 1, by omega, by go_num, ?_, hbx4, hbr4⟩
              rw [hZ'.out]
              rfl
            case measure => simp [intOfZ]; omega
          · obtain rfl : u = kt := by omega
            go_wp2_with fail
            go_roundw
            case rel =>
              refine ⟨t + 1, by omega, by go_num, ?_, hbx3, hbr3⟩
              rw [hX'.out, hkt'.out]; rfl
            case measure => simp [intOfZ]; omega
      · obtain rfl : t = m := by omega
        go_wp2_with fail
        go_ret
        exact ⟨rfl, hbr.out⟩

theorem sizeC : SizeC := fun A c0 c1 c2 w h hf => size_any A c0 c1 c2 w h hf.1

theorem depthC : DepthC := fun A c0 c1 c2 w h hf => depth_any A c0 c1 c2 w h hf.1

theorem totalC : TotalC := fun A c0 c1 c2 w h hf => total_any A c0 c1 c2 w h hf.1

end Go.Proofs.Ytmkjebembicljaa

namespace Go.Proofs.Ytmkjebembicljaa
open Go.RowKit Num

/-- Cells of memory in a row behind an address. -/
def LiesL (w : World) (ao : Option Addr) (L : List Value) : Prop := L = [] ∨ ∃ b o, ao = some ⟨b, o, none⟩ ∧ ∀ j u, L[j]? = some u → w.cell? ⟨b, o + j, none⟩ = some u

theorem LiesL.below {w w' : World} {ao : Option Addr} {L : List Value} (h : LiesL w ao L) (hb : Below w.heap.size w w') : LiesL w' ao L := by
  rcases h with h | ⟨b, o, e, h⟩
  · exact .inl h
  · exact .inr ⟨b, o, e, fun j u hu => cell_below (h j u hu) hb⟩

theorem wpList_append_lie {P : Program} {w : World} {ops : Array Oper} {rest : List Oper} {o : Oper} {a : Act} {Q : Exit → Act → World → Prop} (hgd : o.guard = none) (s x : Operand) (t : TypeId)
    (ho : o.op = .call { callee := .builtin .append, args := #[s, x], argTypes := #[t, t] })
    (base : Nat) (e : TypeId) (i : TypeInfo) (z : Value) (size bytes : Nat) (ht : P.underlying t = some (.slice e)) (hi : P.info? e = some i) (hz : i.zero = some z) (hsize : i.size = size) (hby : i.bytes = bytes) (hzs : z.cells.size = size) (hsz : 0 < size)
    (v : Value) (n : Nat) (xs : List Value) (hs : a.eval s = v) (hown : w.ownsRow base e size v n xs) (ad : Addr) (m c : Nat) (L : List Value) (hx : a.eval x = .slice (some ad) m c) (hl : L.length = m * size) (hf : LiesL w (some ad) L) (h1 : ∀ u ∈ L, u.oneCell' = true)
    (h63 : n + m ≤ maxLen) (hbytes : (n + m) * bytes ≤ 140737488355328) (hbase : base ≤ w.heap.size)
    (h : ∀ v' w', w'.ownsRow base e size v' (n + m) (xs ++ L) → w.grownBy w' v.ownBlock → wpList P ops Q rest (a.put o.dst v') w') : wpList P ops Q (o :: rest) a w := by
  refine wpList_plain hgd fun K hK => ?_
  have hnews : ∀ j u, L[j]? = some u → w.cell? (ad.add j) = some u := by
    intro j u hu
    rcases hf with h | ⟨b, off, e1, hc⟩
    · rw [h] at hu; simp at hu
    · cases e1
      rw [← hc j u hu, Addr.add_lit]
  obtain ⟨v', w', hr, h2, h3, _⟩ := run_append_own (P := P) w base t o.type e i z size bytes ht hi hz hsize hby hzs hsz v n xs hown ad m c L hl hnews h1 h63 hbytes hbase
  unfold Oper.wp execOp
  simp only [ho, resolve, invoke, builtin, Sem.run_bind, Sem.run_pure, Result.andThen_ok, List.map_toArray, List.map_cons, List.map_nil, hs, hx, hr]
  exact hK _ _ (h v' w' h2 h3)

/-- A row of its own, as a slice. -/
structure Row (w : World) (B : Nat) (E : TypeId) (s : Nat) (ao : Option Addr) (n cap : Nat) (L : List Value) : Prop where
  own : w.ownsRow B E s (.slice ao n cap) n L

theorem Row.later {w w' : World} {B : Nat} {E : TypeId} {s : Nat} {ao : Option Addr} {n cap : Nat} {L : List Value} (h : Row w B E s ao n cap L) (hb : Below w.heap.size w w') : Row w' B E s ao n cap L := ⟨owns_later h.own hb⟩

/-- What Clone tells. -/
def ClonePost (E : TypeId) (s n : Nat) (L : List Value) (w : World) (e : Ending) (w' : World) : Prop :=
  ∃ ao cap, e = .returned (.slice ao n cap) ∧ Row w' w.heap.size E s ao n cap L ∧ Below w.heap.size w w'

theorem clone_post {E : TypeId} {s n : Nat} {L : List Value} {w w' : World} {v : Value} (h : w'.ownsRow w.heap.size E s v n L) (hb : Below w.heap.size w w') : ClonePost E s n L w (.returned v) w' := by
  obtain ⟨ao, cap, rfl, _⟩ := own_form h
  exact ⟨ao, cap, rfl, ⟨h⟩, hb⟩

theorem lies_none {w : World} {L : List Value} (h : LiesL w none L) : L = [] := by
  rcases h with h | ⟨b, o, e, _⟩
  · exact h
  · cases e

theorem infoU32 : (Try.prog.info? 87).map (fun i => (i.zero, i.size, i.bytes)) = some (some (.int .u32 0), 1, 4) := by kernel_rfl

theorem eqlNilU (w : World) (a : Option Addr) (n c n' c' : Nat) : (binOp .eql 39 (.slice a n c) (.slice none n' c')).run Try.prog w = .ok (.bool a.isNone) w :=
  Lib.run_eql_slice_nil w _ _ a n c n' c' Try.underlying39

set_option maxRecDepth 20000 in
set_option maxHeartbeats 1000000 in
theorem cloneU_any (ao : Option Addr) (n nc : Nat) (L : List Value) (w : World) (hn : n ≤ 6000) (hl : L.length = n * 1) (hf : LiesL w ao L) (h1 : ∀ u ∈ L, u.oneCell' = true) :
    Calls Try.prog 96 #[.slice ao n nc] w (ClonePost 87 1 n L w) := by
  obtain ⟨iE, hi0, hz0, hz1, hz2⟩ := info_parts infoU32
  have hq := eqlNilU
  have hl' := Lib.hid hl; have h1' := Lib.hid h1
  cases ao with
  | none =>
    have e := lies_none hf
    have hn0 : n = 0 := by rw [e] at hl; simp at hl; omega
    subst hn0
    have e' := Lib.hid e
    clear hl hf h1 e
    go_enter Try.func96, Try.ntmps96
    go_wp2_with fail
    go_ret
    rw [e'.out]
    exact clone_post (World.ownsRow_nil _ _ _ _) (Below.refl _ _)
  | some ad =>
    have hf' := Lib.hid (hf.below (w' := w.alloc (.cells #[] 87)) ((Below.refl _ _).alloc (Nat.le_refl _) _))
    clear hl hf h1
    go_enter Try.func96, Try.ntmps96
    go_wp2_with (at_builtin; refine wpList_append_lie rfl (.tmp 5) (.tmp 6) 39 rfl w.heap.size 87 iE (.int .u32 0) 1 4 Try.underlying39 hi0 hz0 hz1 hz2 rfl (by decide) _ 0 [] rfl (World.ownsRow_made w #[] 0 (Nat.le_refl _) (Nat.zero_le _) rfl) ad n nc L rfl hl'.out hf'.out h1'.out (by unfold maxLen; omega) (by omega) (by simp) ?_)
    intro v' w1 hown hgr
    have ho1 := Lib.hid hown
    have hb1 := Lib.hid (((Below.refl _ w).alloc (Nat.le_refl _) _).grown hgr (by simp) (by intro k hk; simp [Value.ownBlock] at hk; omega))
    clear hown hgr hq
    go_wp2_with fail
    go_ret
    exact clone_post ho1.out hb1.out

theorem eqlNilI (w : World) (a : Option Addr) (n c n' c' : Nat) : (binOp .eql 23 (.slice a n c) (.slice none n' c')).run Try.prog w = .ok (.bool a.isNone) w :=
  Lib.run_eql_slice_nil w _ _ a n c n' c' Try.underlying23

set_option maxRecDepth 20000 in
set_option maxHeartbeats 1000000 in
theorem cloneI_any (ao : Option Addr) (n nc : Nat) (L : List Value) (w : World) (hn : n ≤ 6000) (hl : L.length = n * 1) (hf : LiesL w ao L) (h1 : ∀ u ∈ L, u.oneCell' = true) :
    Calls Try.prog 57 #[.slice ao n nc] w (ClonePost 3 1 n L w) := by
  obtain ⟨iE, hi0, hz0, hz1, hz2⟩ := info_parts info64
  have hq := eqlNilI
  have hl' := Lib.hid hl; have h1' := Lib.hid h1
  cases ao with
  | none =>
    have e := lies_none hf
    have hn0 : n = 0 := by rw [e] at hl; simp at hl; omega
    subst hn0
    have e' := Lib.hid e
    clear hl hf h1 e
    go_enter Try.func57, Try.ntmps57
    go_wp2_with fail
    go_ret
    rw [e'.out]
    exact clone_post (World.ownsRow_nil _ _ _ _) (Below.refl _ _)
  | some ad =>
    have hf' := Lib.hid (hf.below (w' := w.alloc (.cells #[] 3)) ((Below.refl _ _).alloc (Nat.le_refl _) _))
    clear hl hf h1
    go_enter Try.func57, Try.ntmps57
    go_wp2_with (at_builtin; refine wpList_append_lie rfl (.tmp 5) (.tmp 6) 23 rfl w.heap.size 3 iE (.int .i64 0) 1 8 Try.underlying23 hi0 hz0 hz1 hz2 rfl (by decide) _ 0 [] rfl (World.ownsRow_made w #[] 0 (Nat.le_refl _) (Nat.zero_le _) rfl) ad n nc L rfl hl'.out hf'.out h1'.out (by unfold maxLen; omega) (by omega) (by simp) ?_)
    intro v' w1 hown hgr
    have ho1 := Lib.hid hown
    have hb1 := Lib.hid (((Below.refl _ w).alloc (Nat.le_refl _) _).grown hgr (by simp) (by intro k hk; simp [Value.ownBlock] at hk; omega))
    clear hown hgr hq
    go_wp2_with fail
    go_ret
    exact clone_post ho1.out hb1.out

theorem eqlNilC (w : World) (a : Option Addr) (n c n' c' : Nat) : (binOp .eql 24 (.slice a n c) (.slice none n' c')).run Try.prog w = .ok (.bool a.isNone) w :=
  Lib.run_eql_slice_nil w _ _ a n c n' c' Try.underlying24

set_option maxRecDepth 20000 in
set_option maxHeartbeats 1000000 in
theorem cloneC_any (ao : Option Addr) (n nc : Nat) (L : List Value) (w : World) (hn : n ≤ 6000) (hl : L.length = n * 7) (hf : LiesL w ao L) (h1 : ∀ u ∈ L, u.oneCell' = true) :
    Calls Try.prog 64 #[.slice ao n nc] w (ClonePost 44 7 n L w) := by
  obtain ⟨iE, hi0, hz0, hz1, hz2⟩ := info_parts infoCell
  have hq := eqlNilC
  have hl' := Lib.hid hl; have h1' := Lib.hid h1
  cases ao with
  | none =>
    have e := lies_none hf
    have hn0 : n = 0 := by rw [e] at hl; simp at hl; omega
    subst hn0
    have e' := Lib.hid e
    clear hl hf h1 e
    go_enter Try.func64, Try.ntmps64
    go_wp2_with fail
    go_ret
    rw [e'.out]
    exact clone_post (World.ownsRow_nil _ _ _ _) (Below.refl _ _)
  | some ad =>
    have hf' := Lib.hid (hf.below (w' := w.alloc (.cells #[] 44)) ((Below.refl _ _).alloc (Nat.le_refl _) _))
    clear hl hf h1
    go_enter Try.func64, Try.ntmps64
    go_wp2_with (at_builtin; refine wpList_append_lie rfl (.tmp 5) (.tmp 6) 24 rfl w.heap.size 44 iE (.agg #[.int .u64 0, .int .i64 0, .bool false, .slice none 0 0, .slice none 0 0, .int .i64 0, .slice none 0 0]) 7 104 Try.underlying24 hi0 hz0 hz1 hz2 rfl (by decide) _ 0 [] rfl (World.ownsRow_made w #[] 0 (Nat.le_refl _) (Nat.zero_le _) rfl) ad n nc L rfl hl'.out hf'.out h1'.out (by unfold maxLen; omega) (by omega) (by simp) ?_)
    intro v' w1 hown hgr
    have ho1 := Lib.hid hown
    have hb1 := Lib.hid (((Below.refl _ w).alloc (Nat.le_refl _) _).grown hgr (by simp) (by intro k hk; simp [Value.ownBlock] at hk; omega))
    clear hown hgr hq
    go_wp2_with fail
    go_ret
    exact clone_post ho1.out hb1.out

theorem eqlNilA (w : World) (a : Option Addr) (n c n' c' : Nat) : (binOp .eql 42 (.slice a n c) (.slice none n' c')).run Try.prog w = .ok (.bool a.isNone) w :=
  Lib.run_eql_slice_nil w _ _ a n c n' c' Try.underlying42

set_option maxRecDepth 20000 in
set_option maxHeartbeats 1000000 in
theorem cloneA_any (ao : Option Addr) (n nc : Nat) (L : List Value) (w : World) (hn : n ≤ 6000) (hl : L.length = n * 3) (hf : LiesL w ao L) (h1 : ∀ u ∈ L, u.oneCell' = true) :
    Calls Try.prog 84 #[.slice ao n nc] w (ClonePost 26 3 n L w) := by
  obtain ⟨iE, hi0, hz0, hz1, hz2⟩ := info_parts infoArr
  have hq := eqlNilA
  have hl' := Lib.hid hl; have h1' := Lib.hid h1
  cases ao with
  | none =>
    have e := lies_none hf
    have hn0 : n = 0 := by rw [e] at hl; simp at hl; omega
    subst hn0
    have e' := Lib.hid e
    clear hl hf h1 e
    go_enter Try.func84, Try.ntmps84
    go_wp2_with fail
    go_ret
    rw [e'.out]
    exact clone_post (World.ownsRow_nil _ _ _ _) (Below.refl _ _)
  | some ad =>
    have hf' := Lib.hid (hf.below (w' := w.alloc (.cells #[] 26)) ((Below.refl _ _).alloc (Nat.le_refl _) _))
    clear hl hf h1
    go_enter Try.func84, Try.ntmps84
    go_wp2_with (at_builtin; refine wpList_append_lie rfl (.tmp 5) (.tmp 6) 42 rfl w.heap.size 26 iE (.agg #[.int .u64 0, .slice none 0 0, .slice none 0 0]) 3 56 Try.underlying42 hi0 hz0 hz1 hz2 rfl (by decide) _ 0 [] rfl (World.ownsRow_made w #[] 0 (Nat.le_refl _) (Nat.zero_le _) rfl) ad n nc L rfl hl'.out hf'.out h1'.out (by unfold maxLen; omega) (by omega) (by simp) ?_)
    intro v' w1 hown hgr
    have ho1 := Lib.hid hown
    have hb1 := Lib.hid (((Below.refl _ w).alloc (Nat.le_refl _) _).grown hgr (by simp) (by intro k hk; simp [Value.ownBlock] at hk; omega))
    clear hown hgr hq
    go_wp2_with fail
    go_ret
    exact clone_post ho1.out hb1.out

theorem Sl.lies {w : World} {ao : Option Addr} {n : Nat} {f : Nat → Nat} (h : Sl w ao n f) : LiesL w ao (limbCells f n) := by
  rcases h with h | ⟨b, o, e, h⟩
  · subst h; exact .inl rfl
  · refine .inr ⟨b, o, e, fun j u hu => ?_⟩
    have hj : j < n := by
      have := (List.getElem?_eq_some_iff.1 hu).1
      rwa [limbCells_length] at this
    rw [limbCells_get f n j hj] at hu
    rw [← hu]
    exact h j hj

theorem SlZ.lies {w : World} {ao : Option Addr} {n : Nat} {f : Nat → Int} (h : SlZ w ao n f) : LiesL w ao (intCells f n) := by
  rcases h with h | ⟨b, o, e, h⟩
  · subst h; exact .inl rfl
  · refine .inr ⟨b, o, e, fun j u hu => ?_⟩
    have hj : j < n := by
      have := (List.getElem?_eq_some_iff.1 hu).1
      rwa [intCells_length] at this
    rw [intCells_get f n j hj] at hu
    rw [← hu]
    exact h j hj

theorem intCells_one (f : Nat → Int) (n : Nat) : ∀ u ∈ intCells f n, u.oneCell' = true := by intro u hu; obtain ⟨x, _, rfl⟩ := List.mem_map.1 hu; rfl

theorem Row.slQ {w : World} {B : Nat} {E : TypeId} {ao : Option Addr} {n cap : Nat} {f : Nat → Nat} (h : Row w B E 1 ao n cap (limbCells f n)) (hn : n ≤ 6000) : IsN n cap ∧ SlQ w (B ≤ ·) ao n f := by
  obtain ⟨ao', cap', e, h1, h2, h3⟩ := own_form h.own
  injection e with e1 e2 e3
  subst e1; subst e3
  refine ⟨⟨h1, h2, by omega⟩, ?_⟩
  rcases h3 with h0 | ⟨g, rfl, _, hg, _⟩
  · exact .inl h0
  · refine .inr ⟨g, 0, rfl, hg, fun j hj => ?_⟩
    rw [Nat.zero_add, h.own.cellAt j (by omega), limbCells_get f n j hj]

theorem Row.slzQ {w : World} {B : Nat} {E : TypeId} {ao : Option Addr} {n cap : Nat} {f : Nat → Int} (h : Row w B E 1 ao n cap (intCells f n)) (hn : n ≤ 6000) : IsN n cap ∧ SlZQ w (B ≤ ·) ao n f := by
  obtain ⟨ao', cap', e, h1, h2, h3⟩ := own_form h.own
  injection e with e1 e2 e3
  subst e1; subst e3
  refine ⟨⟨h1, h2, by omega⟩, ?_⟩
  rcases h3 with h0 | ⟨g, rfl, _, hg, _⟩
  · exact .inl h0
  · refine .inr ⟨g, 0, rfl, hg, fun j hj => ?_⟩
    rw [Nat.zero_add, h.own.cellAt j (by omega), intCells_get f n j hj]

theorem heap_set3 {w : World} {B b : Nat} (h : b ≠ B) (u0 u1 u2 : Value) : (((w.setCell ⟨B, 0, none⟩ u0).setCell ⟨B, 1, none⟩ u1).setCell ⟨B, 2, none⟩ u2).heap[b]? = w.heap[b]? := by
  rw [Below.heap_setCell _ _ _ _ h, Below.heap_setCell _ _ _ _ h, Below.heap_setCell _ _ _ _ h]

theorem heap_set7 {w : World} {B b : Nat} (h : b ≠ B) (u0 u1 u2 u3 u4 u5 u6 : Value) : (((((((w.setCell ⟨B, 0, none⟩ u0).setCell ⟨B, 1, none⟩ u1).setCell ⟨B, 2, none⟩ u2).setCell ⟨B, 3, none⟩ u3).setCell ⟨B, 4, none⟩ u4).setCell ⟨B, 5, none⟩ u5).setCell ⟨B, 6, none⟩ u6).heap[b]? = w.heap[b]? := by
  rw [Below.heap_setCell _ _ _ _ h, Below.heap_setCell _ _ _ _ h, Below.heap_setCell _ _ _ _ h, Below.heap_setCell _ _ _ _ h, Below.heap_setCell _ _ _ _ h, Below.heap_setCell _ _ _ _ h, Below.heap_setCell _ _ _ _ h]

/-- A number, told anew. -/
def NumNew (N : NumF) (w : World) (e : Ending) (w' : World) : Prop :=
  ∃ ao ac bo bc, e = .returned (.agg #[.bool N.neg, .slice ao N.an ac, .slice bo N.am bc]) ∧ NumQ w' (w.heap.size ≤ ·) N (.bool N.neg) (.slice ao N.an ac) (.slice bo N.am bc) ∧ Below w.heap.size w w'

set_option maxRecDepth 20000 in
set_option maxHeartbeats 2000000 in
theorem numAnew_any (N : NumF) (c0 c1 c2 : Value) (w : World) (h : NumP w N c0 c1 c2) (ha6 : N.an ≤ 6000) (hb6 : N.am ≤ 6000) :
    Calls Try.prog 85 #[.agg #[c0, c1, c2]] w (NumNew N w) := by
  obtain ⟨rfl, ⟨ao, ac, rfl, hn, hs, hl⟩, ⟨bo, bc, rfl, hm, hs', hl'⟩⟩ := h
  have n1 := hn.1; have n2 := hn.2.1; have m1 := hm.1; have m2 := hm.2.1
  have hsL := Lib.hid hs.lies; have htL := Lib.hid hs'.lies
  have hlim := Lib.hid hl; have hlim' := Lib.hid hl'
  have hx := (Box3.new (w := w) (B := w.heap.size) (.bool N.neg) (.slice ao N.an ac) (.slice bo N.am bc) 41 rfl).alloc (.cells #[.bool false, .slice none 0 0, .slice none 0 0] 41)
  have hy := Box3.new (w := w.alloc (.cells #[.bool N.neg, .slice ao N.an ac, .slice bo N.am bc] 41)) (B := w.heap.size + 1) (.bool false) (.slice none 0 0) (.slice none 0 0) 41 (by simp)
  have hbel := (((Below.refl w.heap.size w).alloc (Nat.le_refl _) (.cells #[.bool N.neg, .slice ao N.an ac, .slice bo N.am bc] 41)).alloc (by simp) (.cells #[.bool false, .slice none 0 0, .slice none 0 0] 41))
  clear hs hs' hl hl' hn hm
  go_enter Try.func85, Try.ntmps85
  go_upto_region 1 with fail
  refine told_wp (fun w' => Below w.heap.size w w' ∧ Box3 w' w.heap.size (.bool N.neg) (.slice ao N.an ac) (.slice bo N.am bc) ∧ Box3 w' (w.heap.size + 1) (.bool false) (.slice none 0 0) (.slice none 0 0)) ⟨hbel, hx, hy⟩ ?_
  clear hbel hx hy
  rintro w2 ⟨bb, x0, y0⟩
  have sa0 := True.intro
  go_region_held3 (fun w' => w'.cell? ⟨w.heap.size, 0, none⟩ = some (.bool N.neg) ∧ w'.cell? ⟨w.heap.size, 1, none⟩ = some (.slice ao N.an ac) ∧ w'.cell? ⟨w.heap.size, 2, none⟩ = some (.slice bo N.am bc))
    (first | with_reducible exact ⟨x0.drew.c0, x0.drew.c1, x0.drew.c2⟩ | with_reducible exact ⟨x0.c0, x0.c1, x0.c2⟩ | go_keep)
    (first
    | (go_at_call 96; clear sa0; have bb := bb.drew; have x0 := x0.drew; have y0 := y0.drew; refine (cloneU_any ao N.an ac (limbCells N.fa N.an) _ ha6 (by rw [limbCells_length, Nat.mul_one]) (hsL.out.below bb) (limbCells_one _ _)).mono ?_; rintro e w' ⟨po, pc, rfl, hr1, hb⟩; have hB1 := y0.lt; have bb := below_then bb (Nat.le_refl _) hb; have x0 := x0.later hb; have y0 := y0.later hb; clear hb; have sa1 := True.intro)
    | (go_at_call 96; clear sa1; refine (cloneU_any bo N.am bc (limbCells N.ga N.am) _ hb6 (by rw [limbCells_length, Nat.mul_one]) (htL.out.below bb) (limbCells_one _ _)).mono ?_; rintro e w' ⟨qo, qc, rfl, hr2, hb2⟩; have hB2 := y0.lt; have bb := below_then bb (Nat.le_refl _) hb2; have x0 := x0.later hb2; have y0 := y0.later hb2; have hr1 := hr1.later hb2; clear hb2; have q0 := y0.c0; have q1 := y0.c1; have q2 := y0.c2; have q3 := y0.fr 0; have q4 := y0.fr 1; have q5 := y0.fr 2; have sa2 := True.intro))
  have z := y0.set (.bool N.neg) (.slice po N.an pc) (.slice qo N.am qc)
  have e0 := z.c0; have e1 := z.c1; have e2 := z.c2
  have hbw := Lib.hid (below_set3 bb (B := w.heap.size + 1) (by omega) (.bool N.neg) (.slice po N.an pc) (.slice qo N.am qc))
  obtain ⟨hp1, hp2⟩ := hr1.slQ ha6
  obtain ⟨hq1, hq2⟩ := hr2.slQ hb6
  have hne := fun b (hb : w.heap.size + 1 < b) => heap_set3 (w := w') (B := w.heap.size + 1) (b := b) (by omega) (.bool N.neg) (.slice po N.an pc) (.slice qo N.am qc)
  have hres := Lib.hid (show NumQ (((w'.setCell ⟨w.heap.size + 1, 0, none⟩ (.bool N.neg)).setCell ⟨w.heap.size + 1, 1, none⟩ (.slice po N.an pc)).setCell ⟨w.heap.size + 1, 2, none⟩ (.slice qo N.am qc)) (w.heap.size ≤ ·) N (.bool N.neg) (.slice po N.an pc) (.slice qo N.am qc) from
    ⟨rfl, ⟨po, pc, rfl, hp1, hp2.keep (fun b hb _ => hne b (by omega)) (fun b hb _ => by omega), hlim.out⟩, ⟨qo, qc, rfl, hq1, hq2.keep (fun b hb _ => hne b (by omega)) (fun b hb _ => by omega), hlim'.out⟩⟩)
  clear z y0 bb hr1 hr2 hp1 hp2 hq1 hq2 hne
  go_wp2_with fail
  refine bodyPost_ret (v := .agg #[.bool N.neg, .slice po N.an pc, .slice qo N.am qc]) (by simp [results, Try.results85, go_sem, e0, e1, e2]) rfl ?_
  exact ⟨_, _, _, _, rfl, hres.out, hbw.out⟩

end Go.Proofs.Ytmkjebembicljaa

namespace Go.Proofs.Ytmkjebembicljaa
open Go.RowKit Num

/-- Which label another one becomes: the same; none; its join with the one that lies in a block. -/
inductive Md where
  | same
  | none
  | join (B l : Nat)

def Md.fn : Md → Value
  | .same => .func (.func 43) #[] #[]
  | .none => .func (.func 41) #[] #[]
  | .join B _ => .func (.func 42) #[] #[.pointer (some ⟨B, 0, Option.none⟩)]

def Md.g : Md → Nat → Nat
  | .same, x => x
  | .none, _ => 0
  | .join _ l, x => orL x l

def Md.Env (w : World) : Md → Prop
  | .join B l => w.cell? ⟨B, 0, Option.none⟩ = some (.int .u64 l) ∧ IsL l
  | _ => True

theorem Md.Env.later {w w' : World} {md : Md} (h : md.Env w) (hb : Below w.heap.size w w') : md.Env w' := by
  cases md with
  | join B l => exact ⟨cell_below h.1 hb, h.2⟩
  | _ => trivial

theorem Md.g_is {w : World} {md : Md} (h : md.Env w) {x : Nat} (hx : IsL x) : IsL (md.g x) := by
  cases md <;> first
    | exact hx
    | exact orL_is hx h.2
    | (show (0 : Nat) < 18446744073709551616; decide)

def mapT (g : Nat → Nat) : Tree → Tree
  | .leaf => .leaf
  | .arr S n sh m L K C N k sub => .arr (g S) n sh m (fun i => g (L i)) K C N k (fun i j => mapT g (sub i j))

def mapC (g : Nat → Nat) (c : CellD) : CellD := ⟨g c.L, c.K, c.N, c.C, c.k, fun j => mapT g (c.sub j)⟩

def partsC (c : CellD) : Nat := 1 + c.N.an + c.N.am + sumN (fun j => partsT (c.sub j)) c.k

theorem map_same : ∀ A, mapT Md.same.g A = A := by
  intro A
  induction A with
  | leaf => rfl
  | arr S n sh m L K C N k sub ih =>
    have e : (fun i j => mapT Md.same.g (sub i j)) = sub := funext fun i => funext fun j => ih i j
    show Tree.arr S n sh m (fun i => L i) K C N k (fun i j => mapT Md.same.g (sub i j)) = _
    rw [e]

theorem map_none : ∀ A, mapT Md.none.g A = coverT A 0 true := by
  intro A
  induction A with
  | leaf => rfl
  | arr S n sh m L K C N k sub ih =>
    have e : (fun i j => mapT Md.none.g (sub i j)) = fun i j => coverT (sub i j) 0 true := funext fun i => funext fun j => ih i j
    show Tree.arr 0 n sh m (fun i => 0) K C N k (fun i j => mapT Md.none.g (sub i j)) = _
    rw [e]; rfl

theorem map_join (B l : Nat) : ∀ A, mapT (Md.join B l).g A = coverT A l false := by
  intro A
  induction A with
  | leaf => rfl
  | arr S n sh m L K C N k sub ih =>
    have e : (fun i j => mapT (Md.join B l).g (sub i j)) = fun i j => coverT (sub i j) l false := funext fun i => funext fun j => ih i j
    show Tree.arr (orL S l) n sh m (fun i => orL (L i) l) K C N k (fun i j => mapT (Md.join B l).g (sub i j)) = _
    rw [e]; rfl

theorem mapC_same (c : CellD) : mapC Md.same.g c = c := by
  have e : (fun j => mapT Md.same.g (c.sub j)) = c.sub := funext fun j => map_same _
  show CellD.mk c.L c.K c.N c.C c.k (fun j => mapT Md.same.g (c.sub j)) = c
  rw [e]

set_option maxRecDepth 20000 in
theorem asItIs_any (x : Nat) (w : World) : Calls Try.prog 43 #[.int .u64 x] w (Tell (.int .u64 (Md.same.g x : Nat)) w) := by
  go_enter Try.func43, Try.ntmps43
  go_wp2_with fail
  go_ret
  exact ⟨rfl, Below.refl _ _⟩

set_option maxRecDepth 20000 in
theorem erase1_any (x : Nat) (w : World) : Calls Try.prog 41 #[.int .u64 x] w (Tell (.int .u64 (Md.none.g x : Nat)) w) := by
  go_enter Try.func41, Try.ntmps41
  go_wp2_with fail
  go_ret
  exact ⟨rfl, Below.refl _ _⟩

set_option maxRecDepth 20000 in
theorem cover1_any (x B l : Nat) (w : World) (hx : IsL x) (h : (Md.join B l).Env w) : Calls Try.prog 42 #[.int .u64 x, .pointer (some ⟨B, 0, none⟩)] w (Tell (.int .u64 ((Md.join B l).g x : Nat)) w) := by
  have h1 : w.cell? ⟨B, 0, none⟩ = some (.int .u64 l) := h.1
  have hl := Lib.hid h.2
  clear h
  go_enter Try.func42, Try.ntmps42
  go_wp2_with fail
  refine (join_any x l hx hl.out _).mono ?_
  rintro e w' ⟨rfl, rfl⟩
  go_wp2_with fail
  go_ret
  exact ⟨rfl, Below.refl _ _⟩

/-- Cells as they lie, in the blocks that Q tells. -/
def CellRQ (w : World) (Q : Nat → Prop) (c : CellD) (e : Nat → Value) : Prop := CellQ w Q c.L c.K c.N c.C c.k (fun j d0 d1 d2 => ArrQ w Q (c.sub j) d0 d1 d2) e

def CellsQ (w : World) (Q : Nat → Prop) (co : Option Addr) (m : Nat) (cs : Nat → CellD) : Prop :=
  m = 0 ∨ ∃ b o, co = some ⟨b, o, none⟩ ∧ Q b ∧ ∀ i, i < m → ∃ e : Nat → Value, (∀ t, t < 7 → w.cell? ⟨b, o + i * 7 + t, none⟩ = some (e t)) ∧ CellRQ w Q (cs i) e

theorem CellRQ.keep {w w' : World} {Q Q' : Nat → Prop} {c : CellD} {e : Nat → Value} (h : CellRQ w Q c e) (hk : ∀ b, Q b → b < w.heap.size → w'.heap[b]? = w.heap[b]?) (hq : ∀ b, Q b → b < w.heap.size → Q' b) : CellRQ w' Q' c e :=
  CellQ.keep h hk hq fun _ d0 d1 d2 hd => ArrQ.keep hk hq _ d0 d1 d2 hd

def TreeNew (T : Tree) (w : World) (e : Ending) (w' : World) : Prop := ∃ d0 d1 d2, e = .returned (.agg #[d0, d1, d2]) ∧ ArrQ w' (w.heap.size ≤ ·) T d0 d1 d2 ∧ Below w.heap.size w w'

def CellNew (c : CellD) (w : World) (e : Ending) (w' : World) : Prop := ∃ v : Nat → Value, e = .returned (.agg #[v 0, v 1, v 2, v 3, v 4, v 5, v 6]) ∧ CellRQ w' (w.heap.size ≤ ·) c v ∧ Below w.heap.size w w'

def CellsNew (m : Nat) (cs : Nat → CellD) (w : World) (e : Ending) (w' : World) : Prop := ∃ co mc, e = .returned (.slice co m mc) ∧ IsN m mc ∧ CellsQ w' (w.heap.size ≤ ·) co m cs ∧ Below w.heap.size w w'

/-- The seven values of a cell. -/
def seven (v : Nat → Value) : List Value := [v 0, v 1, v 2, v 3, v 4, v 5, v 6]

theorem TreeNew.form {T : Tree} {w w' : World} {e : Ending} (h : TreeNew T w e w') : ∃ (S n nc m mc : Nat) (ao co : Option Addr),
    e = .returned (.agg #[.int .u64 S, .slice ao n nc, .slice co m mc]) ∧ ArrQ w' (w.heap.size ≤ ·) T (.int .u64 S) (.slice ao n nc) (.slice co m mc) ∧ Below w.heap.size w w' := by
  obtain ⟨d0, d1, d2, rfl, hA, hb⟩ := h
  obtain ⟨S, n, nc, m, mc, ao, co, rfl, rfl, rfl⟩ := hA.form
  exact ⟨S, n, nc, m, mc, ao, co, rfl, hA, hb⟩

theorem CellNew.form {c : CellD} {w w' : World} {e : Ending} (h : CellNew c w e w') : ∃ (bo co io : Option Addr) (bc cc kc : Nat),
    e = .returned (.agg #[.int .u64 c.L, .int .i64 c.K, .bool c.N.neg, .slice bo c.N.an bc, .slice co c.N.am cc, .int .i64 c.C, .slice io c.k kc]) ∧
    CellRQ w' (w.heap.size ≤ ·) c (fun q => [Value.int .u64 c.L, .int .i64 c.K, .bool c.N.neg, .slice bo c.N.an bc, .slice co c.N.am cc, .int .i64 c.C, .slice io c.k kc].getD q undef) ∧ Below w.heap.size w w' := by
  obtain ⟨v, rfl, hv, hb⟩ := h
  obtain ⟨h0, hL, h1, hK, ⟨h2, ⟨ao, ac, h3, ha⟩, ⟨bo, bc, h4, hb'⟩⟩, h5, hC, io, kc, h6, hk, hrow⟩ := hv
  rw [h0, h1, h2, h3, h4, h5, h6]
  exact ⟨ao, bo, io, ac, bc, kc, rfl, ⟨rfl, hL, rfl, hK, ⟨rfl, ⟨ao, ac, rfl, ha⟩, ⟨bo, bc, rfl, hb'⟩⟩, rfl, hC, io, kc, rfl, hk, hrow⟩, hb⟩

def ArrBy (md : Md) (A : Tree) : Prop := ∀ (c0 c1 c2 : Value) (w : World), ArrP w A c0 c1 c2 → md.Env w → partsT A ≤ 5000 → Calls Try.prog 40 #[.agg #[c0, c1, c2], md.fn] w (TreeNew (mapT md.g A) w)

def CellBy (md : Md) (c : CellD) : Prop := ∀ (e : Nat → Value) (w : World), CellR w c e → md.Env w → partsC c ≤ 5000 → Calls Try.prog 65 #[.agg #[e 0, e 1, e 2, e 3, e 4, e 5, e 6], md.fn] w (CellNew (mapC md.g c) w)

def CellsBy (md : Md) (m : Nat) (cs : Nat → CellD) : Prop := ∀ (co : Option Addr) (mc : Nat) (w : World), IsN m mc → CellsP w co m cs → md.Env w → m ≤ 5000 → (∀ i, i < m → partsC (cs i) ≤ 5000) → Calls Try.prog 50 #[.slice co m mc, md.fn] w (CellsNew m (fun i => mapC md.g (cs i)) w)

theorem rowsN_at {es : Nat → List Value} {s m : Nat} (hl : ∀ i, i < m → (es i).length = s) (hs : 0 < s) (j : Nat) (hj : j < m * s) : (rowsN es m)[j]? = (es (j / s))[j % s]? := by
  have e : j / s * s + j % s = j := by rw [Nat.mul_comm]; exact Nat.div_add_mod j s
  have hd : j / s < m := by rw [Nat.div_lt_iff_lt_mul hs]; exact hj
  have := rowsN_get m hl (j / s) (j % s) hd (Nat.mod_lt _ hs)
  rwa [e] at this

/-- A row whose first t elements are put anew (as P tells), in blocks of their own. -/
structure Mapped (P : CellF) (w wr : World) (E : TypeId) (s g : Nat) (ao : Option Addr) (m cap t : Nat) (es es0 : Nat → List Value) : Prop where
  row : wr.ownsRow w.heap.size E s (.slice ao m cap) m (rowsN es m)
  len : ∀ x, x < m → (es x).length = s
  done : ∀ x, x < t → P x wr (fun b => w.heap.size ≤ b ∧ b ≠ g) (fun q => (es x).getD q undef)
  todo : ∀ x, t ≤ x → x < m → es x = es0 x
  bel : Below w.heap.size w wr

theorem Mapped.later {P : CellF} (hP : KeepF P) {w wr w' : World} {E : TypeId} {s g : Nat} {ao : Option Addr} {m cap t : Nat} {es es0 : Nat → List Value} (h : Mapped P w wr E s g ao m cap t es es0) (hb : Below wr.heap.size wr w') : Mapped P w w' E s g ao m cap t es es0 :=
  ⟨owns_later h.row hb, h.len, fun x hx => hP x _ _ _ _ _ (h.done x hx) (fun b _ hlt => hb.block b hlt) (fun _ hq _ => hq), h.todo, h.bel.trans (hb.mono h.bel.size)⟩

theorem Mapped.put {P : CellF} (hP : KeepF P) {w wr W : World} {E : TypeId} {s g m cap t : Nat} {es es0 : Nat → List Value} (h : Mapped P w wr E s g (some ⟨g, 0, none⟩) m cap t es es0) (x : List Value) (hx : x.length = s) (hW : ∀ b, b ≠ g → W.heap[b]? = wr.heap[b]?)
    (hown : W.ownsRow w.heap.size E s (.slice (some ⟨g, 0, none⟩) m cap) m (rowsN (putL es t x) m)) (hbel : Below w.heap.size w W) (hnew : P t wr (fun b => w.heap.size ≤ b ∧ b ≠ g) (fun q => x.getD q undef)) :
    Mapped P w W E s g (some ⟨g, 0, none⟩) m cap (t + 1) (putL es t x) es0 := by
  refine ⟨hown, fun y hy => ?_, fun y hy => ?_, fun y hy1 hy2 => ?_, hbel⟩
  · unfold putL; split
    · exact hx
    · exact h.len y hy
  · by_cases e : y = t
    · subst e
      unfold putL; rw [if_pos rfl]
      exact hP y _ _ _ _ _ hnew (fun b hq _ => hW b hq.2) (fun _ hq _ => hq)
    · unfold putL; rw [if_neg e]
      exact hP y _ _ _ _ _ (h.done y (by omega)) (fun b hq _ => hW b hq.2) (fun _ hq _ => hq)
  · unfold putL; rw [if_neg (by omega)]; exact h.todo y (by omega) hy2

theorem Mapped.cell {P : CellF} {w wr : World} {E : TypeId} {s g m cap t : Nat} {es es0 : Nat → List Value} (h : Mapped P w wr E s g (some ⟨g, 0, none⟩) m cap t es es0) {q : Nat} (ht : t < m) (hq : q < s) {v : Value} (hv : (es0 t)[q]? = some v) : wr.cell? ⟨g, t * s + q, none⟩ = some v := by
  have hlt : t * s + q < m * s := by
    have := Nat.mul_le_mul_right s (show t + 1 ≤ m by omega)
    rw [Nat.succ_mul] at this
    omega
  rw [h.row.cellAt _ hlt, rowsN_get m h.len t q ht hq, h.todo t (Nat.le_refl _) ht, hv]

/-- Seven stores into a row are one element put anew. -/
theorem own_put7 {w : World} {B : Nat} {E : TypeId} {g m cap t : Nat} {es : Nat → List Value} (h : w.ownsRow B E 7 (.slice (some ⟨g, 0, none⟩) m cap) m (rowsN es m)) (hl : ∀ i, i < m → (es i).length = 7) (v0 v1 v2 v3 v4 v5 v6 : Value) :
    (((((((w.setCell ⟨g, t * 7, none⟩ v0).setCell ⟨g, t * 7 + 1, none⟩ v1).setCell ⟨g, t * 7 + 2, none⟩ v2).setCell ⟨g, t * 7 + 3, none⟩ v3).setCell ⟨g, t * 7 + 4, none⟩ v4).setCell ⟨g, t * 7 + 5, none⟩ v5).setCell ⟨g, t * 7 + 6, none⟩ v6).ownsRow B E 7 (.slice (some ⟨g, 0, none⟩) m cap) m (rowsN (putL es t [v0, v1, v2, v3, v4, v5, v6]) m) := by
  have k := ((((((((h.stored (t * 7) v0).1).stored (t * 7 + 1) v1).1).stored (t * 7 + 2) v2).1.stored (t * 7 + 3) v3).1.stored (t * 7 + 4) v4).1.stored (t * 7 + 5) v5).1.stored (t * 7 + 6) v6 |>.1
  have e : (((((((rowsN es m).set (t * 7) v0).set (t * 7 + 1) v1).set (t * 7 + 2) v2).set (t * 7 + 3) v3).set (t * 7 + 4) v4).set (t * 7 + 5) v5).set (t * 7 + 6) v6 = rowsN (putL es t [v0, v1, v2, v3, v4, v5, v6]) m := by
    have hl' : ∀ i, i < m → (putL es t [v0, v1, v2, v3, v4, v5, v6] i).length = 7 := fun i hi => by
      unfold putL; split
      · rfl
      · exact hl i hi
    have n1 := rowsN_length m hl; have n2 := rowsN_length m hl'
    refine List.ext_getElem? fun j => ?_
    by_cases hj : j < m * 7
    · rw [rowsN_at hl' (by decide) j hj]
      have ho := rowsN_at hl (by decide) j hj
      have hjl : j < (rowsN es m).length := by omega
      by_cases hd : j / 7 = t
      · have hr : j % 7 = 0 ∨ j % 7 = 1 ∨ j % 7 = 2 ∨ j % 7 = 3 ∨ j % 7 = 4 ∨ j % 7 = 5 ∨ j % 7 = 6 := by omega
        rw [hd]
        unfold putL
        rw [if_pos rfl]
        rcases hr with r | r | r | r | r | r | r
        · have e : j = t * 7 := by omega
          rw [r]; subst e; simp only [List.getElem?_set, List.length_set]; simp [hjl]
        · have e : j = t * 7 + 1 := by omega
          rw [r]; subst e; simp only [List.getElem?_set, List.length_set]; simp [hjl]
        · have e : j = t * 7 + 2 := by omega
          rw [r]; subst e; simp only [List.getElem?_set, List.length_set]; simp [hjl]
        · have e : j = t * 7 + 3 := by omega
          rw [r]; subst e; simp only [List.getElem?_set, List.length_set]; simp [hjl]
        · have e : j = t * 7 + 4 := by omega
          rw [r]; subst e; simp only [List.getElem?_set, List.length_set]; simp [hjl]
        · have e : j = t * 7 + 5 := by omega
          rw [r]; subst e; simp only [List.getElem?_set, List.length_set]; simp [hjl]
        · have e : j = t * 7 + 6 := by omega
          rw [r]; subst e; simp only [List.getElem?_set, List.length_set]; simp [hjl]
      · have hp : putL es t [v0, v1, v2, v3, v4, v5, v6] (j / 7) = es (j / 7) := by unfold putL; rw [if_neg hd]
        rw [hp, ← ho]
        simp only [List.getElem?_set]
        rw [if_neg (by omega), if_neg (by omega), if_neg (by omega), if_neg (by omega), if_neg (by omega), if_neg (by omega), if_neg (by omega)]
    · rw [List.getElem?_eq_none (by simp only [List.length_set]; omega), List.getElem?_eq_none (by omega)]
  rw [e] at k
  exact k

theorem own_put3 {w : World} {B : Nat} {E : TypeId} {g m cap t : Nat} {es : Nat → List Value} (h : w.ownsRow B E 3 (.slice (some ⟨g, 0, none⟩) m cap) m (rowsN es m)) (hl : ∀ i, i < m → (es i).length = 3) (v0 v1 v2 : Value) :
    (((w.setCell ⟨g, t * 3, none⟩ v0).setCell ⟨g, t * 3 + 1, none⟩ v1).setCell ⟨g, t * 3 + 2, none⟩ v2).ownsRow B E 3 (.slice (some ⟨g, 0, none⟩) m cap) m (rowsN (putL es t [v0, v1, v2]) m) := by
  have k := ((((h.stored (t * 3) v0).1).stored (t * 3 + 1) v1).1).stored (t * 3 + 2) v2 |>.1
  have e : (((rowsN es m).set (t * 3) v0).set (t * 3 + 1) v1).set (t * 3 + 2) v2 = rowsN (putL es t [v0, v1, v2]) m := by
    have hl' : ∀ i, i < m → (putL es t [v0, v1, v2] i).length = 3 := fun i hi => by
      unfold putL; split
      · rfl
      · exact hl i hi
    have n1 := rowsN_length m hl; have n2 := rowsN_length m hl'
    refine List.ext_getElem? fun j => ?_
    by_cases hj : j < m * 3
    · rw [rowsN_at hl' (by decide) j hj]
      have ho := rowsN_at hl (by decide) j hj
      have hjl : j < (rowsN es m).length := by omega
      by_cases hd : j / 3 = t
      · have hr : j % 3 = 0 ∨ j % 3 = 1 ∨ j % 3 = 2 := by omega
        rw [hd]
        unfold putL
        rw [if_pos rfl]
        rcases hr with r | r | r
        · have e : j = t * 3 := by omega
          rw [r]; subst e; simp only [List.getElem?_set, List.length_set]; simp [hjl]
        · have e : j = t * 3 + 1 := by omega
          rw [r]; subst e; simp only [List.getElem?_set, List.length_set]; simp [hjl]
        · have e : j = t * 3 + 2 := by omega
          rw [r]; subst e; simp only [List.getElem?_set, List.length_set]; simp [hjl]
      · have hp : putL es t [v0, v1, v2] (j / 3) = es (j / 3) := by unfold putL; rw [if_neg hd]
        rw [hp, ← ho]
        simp only [List.getElem?_set]
        rw [if_neg (by omega), if_neg (by omega), if_neg (by omega)]
    · rw [List.getElem?_eq_none (by simp only [List.length_set]; omega), List.getElem?_eq_none (by omega)]
  rw [e] at k
  exact k

theorem far7 {w : World} {g o b : Nat} (h : b ≠ g) (v0 v1 v2 v3 v4 v5 v6 : Value) :
    (((((((w.setCell ⟨g, o, none⟩ v0).setCell ⟨g, o + 1, none⟩ v1).setCell ⟨g, o + 2, none⟩ v2).setCell ⟨g, o + 3, none⟩ v3).setCell ⟨g, o + 4, none⟩ v4).setCell ⟨g, o + 5, none⟩ v5).setCell ⟨g, o + 6, none⟩ v6).heap[b]? = w.heap[b]? := by
  rw [Below.heap_setCell _ _ _ _ h, Below.heap_setCell _ _ _ _ h, Below.heap_setCell _ _ _ _ h, Below.heap_setCell _ _ _ _ h, Below.heap_setCell _ _ _ _ h, Below.heap_setCell _ _ _ _ h, Below.heap_setCell _ _ _ _ h]

theorem far3 {w : World} {g o b : Nat} (h : b ≠ g) (v0 v1 v2 : Value) : (((w.setCell ⟨g, o, none⟩ v0).setCell ⟨g, o + 1, none⟩ v1).setCell ⟨g, o + 2, none⟩ v2).heap[b]? = w.heap[b]? := by
  rw [Below.heap_setCell _ _ _ _ h, Below.heap_setCell _ _ _ _ h, Below.heap_setCell _ _ _ _ h]

theorem below_far7 {w w' : World} {A g o : Nat} (h : Below A w w') (hg : A ≤ g) (v0 v1 v2 v3 v4 v5 v6 : Value) :
    Below A w (((((((w'.setCell ⟨g, o, none⟩ v0).setCell ⟨g, o + 1, none⟩ v1).setCell ⟨g, o + 2, none⟩ v2).setCell ⟨g, o + 3, none⟩ v3).setCell ⟨g, o + 4, none⟩ v4).setCell ⟨g, o + 5, none⟩ v5).setCell ⟨g, o + 6, none⟩ v6) :=
  ((((((h.setCell (p := ⟨g, o, none⟩) hg v0).setCell (p := ⟨g, o + 1, none⟩) hg v1).setCell (p := ⟨g, o + 2, none⟩) hg v2).setCell (p := ⟨g, o + 3, none⟩) hg v3).setCell (p := ⟨g, o + 4, none⟩) hg v4).setCell (p := ⟨g, o + 5, none⟩) hg v5).setCell (p := ⟨g, o + 6, none⟩) hg v6

theorem below_far3 {w w' : World} {A g o : Nat} (h : Below A w w') (hg : A ≤ g) (v0 v1 v2 : Value) : Below A w (((w'.setCell ⟨g, o, none⟩ v0).setCell ⟨g, o + 1, none⟩ v1).setCell ⟨g, o + 2, none⟩ v2) :=
  ((h.setCell (p := ⟨g, o, none⟩) hg v0).setCell (p := ⟨g, o + 1, none⟩) hg v1).setCell (p := ⟨g, o + 2, none⟩) hg v2

/-- Cells that came, each by its values. -/
theorem CellsP.vals {w : World} {co : Option Addr} {m : Nat} {cs : Nat → CellD} (h : CellsP w co m cs) : ∃ E : Nat → Nat → Value, (∀ i, i < m → CellR w (cs i) (E i)) ∧ LiesL w co (rowsN (fun i => seven (E i)) m) := by
  rcases h with rfl | ⟨b, o, rfl, h⟩
  · exact ⟨fun _ _ => undef, fun i hi => by omega, .inl rfl⟩
  · refine ⟨fun i => if hi : i < m then (h i hi).choose else fun _ => undef, fun i hi => ?_, .inr ⟨b, o, rfl, fun j u hu => ?_⟩⟩
    · simp only [dif_pos hi]; exact (h i hi).choose_spec.2
    · have hl : ∀ i, i < m → ((fun i => seven ((fun i => if hi : i < m then (h i hi).choose else fun _ => undef) i)) i).length = 7 := fun i hi => rfl
      have hj : j < m * 7 := by
        have := (List.getElem?_eq_some_iff.1 hu).1
        rwa [rowsN_length m hl] at this
      rw [rowsN_at hl (by decide) j hj] at hu
      have hd : j / 7 < m := by omega
      have hc := (h (j / 7) hd).choose_spec.1
      have e : o + j = o + j / 7 * 7 + j % 7 := by omega
      rw [e, hc (j % 7) (by omega), ← hu]
      simp only [dif_pos hd]
      have hr : j % 7 = 0 ∨ j % 7 = 1 ∨ j % 7 = 2 ∨ j % 7 = 3 ∨ j % 7 = 4 ∨ j % 7 = 5 ∨ j % 7 = 6 := by omega
      rcases hr with r | r | r | r | r | r | r <;> rw [r] <;> rfl

theorem CellR.ones {w : World} {c : CellD} {e : Nat → Value} (h : CellR w c e) : ∀ u ∈ seven e, u.oneCell' = true := by
  obtain ⟨h0, hL, h1, hK, ⟨h2, ⟨ao, ac, h3, ha⟩, ⟨bo, bc, h4, hb'⟩⟩, h5, hC, io, kc, h6, hk, hrow⟩ := h
  intro u hu
  unfold seven at hu
  rw [h0, h1, h2, h3, h4, h5, h6] at hu
  simp at hu
  rcases hu with rfl | rfl | rfl | rfl | rfl | rfl | rfl <;> rfl

theorem rows_ones {es : Nat → List Value} {m : Nat} (h : ∀ i, i < m → ∀ u ∈ es i, u.oneCell' = true) : ∀ u ∈ rowsN es m, u.oneCell' = true := by
  intro u hu
  obtain ⟨i, hi, hu⟩ := List.mem_flatMap.1 hu
  exact h i (List.mem_range.1 hi) u hu

def cellsF (cs : Nat → CellD) : CellF := fun x w Q e => CellRQ w Q (cs x) e

theorem cellsF_keep (cs : Nat → CellD) : KeepF (cellsF cs) := fun _ _ _ _ _ _ h hk hq => h.keep hk hq

end Go.Proofs.Ytmkjebembicljaa
