/-
  label.Join; array.alone, Simple, Size, Depth, Total.
  slices.Clone over limbs, ints, cells, arrays; array.numAnew.
  Arrays and cells told anew, with other labels: what is made (mapT, mapC), rows whose elements are put anew one behind the other (Mapped), the three functions of labels; array.cellsBy.
  array.cellsBy: cells told anew, one behind the other.
  array.cellBy: a cell told anew.
  array.arrayBy: an array told anew; arrayBy, cellsBy, cellBy of any array and any cells.
  array.Erase, Cover, Raise, Vector, Int, Chr.
  slices.Equal of any limbs; ratio.Int, Gcd; scrimref04.IsWhole, Gcd.
  ratio.Same, ratio.Right of any numbers.
  scrimref07.Places: the places of all cells, in order.
  scrimref07.Index: which cell stands at a place.
-/
import Derived.Test.YtmkjebembicljaaGreatMrgG
import Derived.Lib.SliceRun
namespace Go.Proofs.YtmkjebembicljaaGreat
open Go.RowKit Num

set_option maxRecDepth 20000 in
theorem join_any (a b : Nat) (ha : IsL a) (hb : IsL b) (w : World) : Calls Tryz.prog 29 #[.int .u64 a, .int .u64 b] w fun e w' => e = .returned (.int .u64 (orL a b : Nat)) ∧ w = w' := by
  have h : bits .or .u64 (a : Int) (b : Int) = ((orL a b : Nat) : Int) := or64 a b ha hb
  go_enter Tryz.func29, Tryz.ntmps29
  go_wp2_with fail
  go_ret
  exact ⟨rfl, rfl⟩

/-- One cell without axes. -/
def aloneT : Tree → Bool
  | .leaf => false
  | .arr _ n _ m _ _ _ _ _ _ => decide (n = 0) && decide (m = 1)

set_option maxRecDepth 20000 in
set_option maxHeartbeats 2000000 in
theorem alone_any (A : Tree) (c0 c1 c2 : Value) (w : World) (h : ArrP w A c0 c1 c2) :
    Calls Tryz.prog 25 #[.agg #[c0, c1, c2]] w (Tell (.bool (aloneT A)) w) := by
  obtain _ | ⟨S, n, sh, m, L, K, C, N, k, sub⟩ := A
  · exact (ArrP.leaf h).elim
  obtain ⟨rfl, _, ⟨ao, nc, rfl, hn, _⟩, co, mc, rfl, hm, _⟩ := h
  have hnn := hn.1; have hnc := hn.2.1; have hmm := hm.1; have hmc := hm.2.1
  have hb := Lib.hid ((Below.refl w.heap.size w).alloc (Nat.le_refl _) (.cells #[.int .u64 S, .slice ao n nc, .slice co m mc] 26))
  by_cases h1 : n = 0
  · subst h1
    by_cases h2 : m = 1
    · subst h2
      go_enter Tryz.func25, Tryz.ntmps25
      go_wp2_with fail
      go_ret
      exact ⟨rfl, hb.out⟩
    · have hs : aloneT (.arr S 0 sh m L K C N k sub) = false := by
        unfold aloneT
        simp [h2]
      rw [hs]
      have h2' : ((m : Int) == 1) = false := by rw [beq_eq_false_iff_ne]; omega
      clear hs
      go_enter Tryz.func25, Tryz.ntmps25
      go_wp2_with fail
      go_ret
      exact ⟨rfl, hb.out⟩
  · have hs : aloneT (.arr S n sh m L K C N k sub) = false := by
      unfold aloneT
      simp [h1]
    rw [hs]
    have h2' : ((n : Int) == 0) = false := by rw [beq_eq_false_iff_ne]; omega
    clear hs
    go_enter Tryz.func25, Tryz.ntmps25
    go_wp2_with fail
    go_ret
    exact ⟨rfl, hb.out⟩

set_option maxRecDepth 20000 in
set_option maxHeartbeats 2000000 in
theorem simple_any (A : Tree) (c0 c1 c2 : Value) (w : World) (h : ArrP w A c0 c1 c2) :
    Calls Tryz.prog 42 #[.agg #[c0, c1, c2]] w (Tell (.bool (simpleT A)) w) := by
  obtain _ | ⟨S, n, sh, m, L, K, C, N, k, sub⟩ := A
  · exact (ArrP.leaf h).elim
  have hA := Lib.hid h
  obtain ⟨si, hsi⟩ : ∃ si, si = simpleT (.arr S n sh m L K C N k sub) := ⟨_, rfl⟩
  have hsi' := Lib.hid hsi
  rw [← hsi]
  clear hsi
  obtain ⟨rfl, _, ⟨ao, nc, rfl, hn, _⟩, co, mc, rfl, hm, hc⟩ := h
  have hnn := hn.1; have hnc := hn.2.1; have hmm := hm.1; have hmc := hm.2.1
  have hb := Lib.hid ((Below.refl w.heap.size w).alloc (Nat.le_refl _) (.cells #[.int .u64 S, .slice ao n nc, .slice co m mc] 26))
  have hx := Lib.hid (Box3.new (w := w) (B := w.heap.size) (.int .u64 S) (.slice ao n nc) (.slice co m mc) 26 rfl)
  have z0 := hx.out.c0; have z1 := hx.out.c1; have z2 := hx.out.c2
  go_enter Tryz.func42, Tryz.ntmps42
  go_wp2_with fail
  refine (alone_any (.arr S n sh m L K C N k sub) _ _ _ _ (ArrP.below _ _ _ _ hA.out hb.out)).mono ?_
  rintro e w1 ⟨rfl, hb1⟩
  replace hx := Lib.hid (hx.out.later hb1); replace hb := Lib.hid (hb.out.trans (hb1.mono hb.out.size))
  clear z0 z1 z2 hb1
  have z2 := hx.out.c2
  by_cases hnm : n = 0 ∧ m = 1
  · obtain ⟨rfl, rfl⟩ := hnm
    have ht : aloneT (.arr S 0 sh 1 L K C N k sub) = true := rfl
    rw [ht]
    rcases hc with hc | ⟨b, o, rfl, hc⟩
    · omega
    · obtain ⟨e, he, hcell⟩ := hc 0 (by decide)
      have c1 := he 1 (by decide)
      rw [hcell.2.2.1, Nat.zero_mul, Nat.add_zero] at c1
      have c2 := cell_below c1 hb.out
      obtain ⟨x, hx⟩ : ∃ x, x = K 0 := ⟨_, rfl⟩
      have hs := Lib.hid (show si = !decide (x = 2) by rw [hsi'.out, hx]; rfl)
      rw [← hx] at c1 c2
      clear hx hc he hcell ht hsi'
      go_wp2_with fail
      go_ret
      refine ⟨congrArg (fun b => Ending.returned (.bool b)) ?_, hb.out⟩
      rw [hs.out]
      by_cases hx2 : x = 2
      · simp [hx2]
      · simp [hx2]
  · have ht : aloneT (.arr S n sh m L K C N k sub) = false := by
      unfold aloneT
      rw [← Bool.not_eq_true, Bool.and_eq_true, decide_eq_true_eq, decide_eq_true_eq]
      exact hnm
    have hs := Lib.hid (show si = false by
      have e : simpleT (.arr S n sh m L K C N k sub) = (aloneT (.arr S n sh m L K C N k sub) && !decide (K 0 = 2)) := rfl
      rw [hsi'.out, e, ht]; rfl)
    rw [ht]
    clear ht hc hsi'
    go_wp2_with fail
    go_ret
    exact ⟨by rw [hs.out]; rfl, hb.out⟩

theorem simpleC : SimpleC := fun A c0 c1 c2 w h => simple_any A c0 c1 c2 w h

set_option maxRecDepth 20000 in
set_option maxHeartbeats 4000000 in
theorem size_any : ∀ (A : Tree) (c0 c1 c2 : Value) (w : World), ArrP w A c0 c1 c2 → partsT A ≤ 4000 →
    Calls Tryz.prog 24 #[.agg #[c0, c1, c2]] w (Tell (.int .i64 (sizeT A : Nat)) w) := by
  intro A
  induction A with
  | leaf => intros; exact (ArrP.leaf ‹ArrP _ Tree.leaf _ _ _›).elim
  | arr S n sh m L K C N k sub ih =>
    intro c0 c1 c2 w h hfew
    have hfew' := Lib.hid hfew
    have hAw := Lib.hid h
    obtain ⟨rfl, hS, ⟨ao, nc, rfl, hp, _⟩, co, mc, rfl, hm, hc⟩ := h
    have hp1 := hp.1; have hp2 := hp.2.1; have hp3 := hp.2.2; have hm1 := hm.1; have hm2 := hm.2.1; have hm3 := hm.2.2
    have hbox := Lib.hid (Box3.new (.int .u64 S) (.slice ao n nc) (.slice co m mc) 26 (show w.heap.size = w.heap.size from rfl))
    have hbel := Lib.hid ((Below.refl w.heap.size w).alloc (Nat.le_refl _) (.cells #[.int .u64 S, .slice ao n nc, .slice co m mc] 26))
    have hc' := Lib.hid hc
    clear hc hfew
    go_enter Tryz.func24, Tryz.ntmps24
    have z2 := hbox.out.c2
    go_wp2_with fail
    clear z2
    go_loopw [3, 14] (fun q i wr => ∃ t : Nat, t ≤ m ∧ i = .int .i64 t ∧ q = .int .i64 ((m + sumN (fun i => sumN (fun j => sizeT (sub i j)) (k i)) t : Nat) : Int) ∧ Hid (Box3 wr w.heap.size (.int .u64 S) (.slice ao n nc) (.slice co m mc)) ∧ Hid (Below w.heap.size w wr)) (fun _ i _ => m - (intOfZ i).toNat)
    case atStart => exact ⟨0, Nat.zero_le _, rfl, by rfl, hbox, hbel⟩
    case round =>
      obtain ⟨t, ht, rfl, rfl, hbx, hbr⟩ := hrel
      clear hbox hbel
      by_cases hlt : t < m
      · have hm0 := Lib.hid hlt
        rcases hc'.out with h0 | ⟨b, o, rfl, hcells⟩
        · omega
        obtain ⟨e, he, q0, qL, q1, qK, ⟨q2, ⟨a1, ac, q3, ha, _, _⟩, ⟨b1, bc, q4, hb', _, _⟩⟩, q5, qC, io, kc, q6, hk, hrow⟩ := hcells t hlt
        have y0 := cell_below (he 0 (by decide)) hbr.out; have y1 := cell_below (he 1 (by decide)) hbr.out; have y2 := cell_below (he 2 (by decide)) hbr.out; have y3 := cell_below (he 3 (by decide)) hbr.out
        have y4 := cell_below (he 4 (by decide)) hbr.out; have y5 := cell_below (he 5 (by decide)) hbr.out; have y6 := cell_below (he 6 (by decide)) hbr.out
        rw [q0, Nat.add_zero] at y0; rw [q1] at y1; rw [q2] at y2; rw [q3] at y3; rw [q4] at y4; rw [q5] at y5; rw [q6] at y6
        have kk1 := hk.1; have kk2 := hk.2.1
        have hrow' := Lib.hid hrow; have hqL := Lib.hid qL
        clear hcells he q0 qL q1 qK q2 q3 q4 q5 qC q6 ha hb' hk hrow
        obtain ⟨U, hU⟩ : ∃ U, U = wr.heap.size := ⟨_, rfl⟩
        go_upto_region 5 with fail
        rw [← hU]
        refine told_wp (fun w' => Box3 w' w.heap.size (.int .u64 S) (.slice ao n nc) (.slice (some ⟨b, o, none⟩) m mc) ∧ Below w.heap.size w w' ∧ Box7 w' U (.int .u64 (L t)) (.int .i64 (K t)) (.bool (N t).neg) (.slice a1 (N t).an ac) (.slice b1 (N t).am bc) (.int .i64 (C t)) (.slice io (k t) kc)) ⟨hbx.out.alloc _, hbr.out.alloc (by have := hbr.out.size; omega) _, Box7.new _ _ _ _ _ _ _ _ hU⟩ ?_
        clear hbx hbr y0 y1 y2 y3 y4 y5 y6 hU
        rintro wa ⟨hxa, hba, x7⟩
        have g0 := x7.c0; have g6 := x7.c6
        have hbx := Lib.hid hxa; have hbr := Lib.hid hba; have hx7 := Lib.hid x7
        obtain ⟨kt, hkt⟩ : ∃ kt, kt = k t := ⟨_, rfl⟩
        rw [← hkt] at g6 hrow' kk1
        have hkt' := Lib.hid hkt
        clear hxa hba x7 hkt
        go_wp2_with fail
        go_loopw [3, 21] (fun q j wi => ∃ u : Nat, u ≤ kt ∧ j = .int .i64 u ∧ q = .int .i64 ((m + sumN (fun i => sumN (fun j => sizeT (sub i j)) (k i)) t + sumN (fun j => sizeT (sub t j)) u : Nat) : Int) ∧ Hid (Box3 wi w.heap.size (.int .u64 S) (.slice ao n nc) (.slice (some ⟨b, o, none⟩) m mc)) ∧ Hid (Below w.heap.size w wi)) (fun _ j _ => kt - (intOfZ j).toNat)
        case atStart => exact ⟨0, Nat.zero_le _, rfl, rfl, hbx, hbr⟩
        case round =>
          obtain ⟨u, hu, rfl, rfl, hbx3, hbr3⟩ := hrel
          clear hbx hbr g0 g6 hx7
          by_cases hul : u < kt
          · rcases hrow'.out with h0 | ⟨b', o', rfl, hrows⟩
            · omega
            obtain ⟨d0, d1, d2, r0, r1, r2, r3⟩ := hrows u hul
            obtain ⟨S', n', nc', m', mc', ao', co', rfl, rfl, rfl⟩ := (ArrP.within _ _ _ _ r3).form
            have s0 := cell_below r0 hbr3.out; have s1 := cell_below r1 hbr3.out; have s2 := cell_below r2 hbr3.out
            have hA := Lib.hid (ArrP.below _ _ _ _ r3 hbr3.out)
            have hps := parts_sub (S := S) (n := n) (sh := sh) (L := L) (K := K) (C := C) (N := N) (sub := sub) (k := k) hlt (by rw [← hkt'.out]; exact hul)
            have hps' := Lib.hid (show partsT (sub t u) ≤ 4000 by have := hfew'.out; omega)
            have hpt := Lib.hid hps
            have hih := Lib.hid (fun w h => ih t u (.int .u64 S') (.slice ao' n' nc') (.slice co' m' mc') w h hps'.out)
            clear hrows r0 r1 r2 r3 hps
            have hbd : m + sumN (fun i => sumN (fun j => sizeT (sub i j)) (k i)) t + sumN (fun j => sizeT (sub t j)) u + sizeT (sub t u) ≤ 4000 := by
              have e1 := sumN_mono (fun j => sizeT (sub t j)) (k t) (show u + 1 ≤ k t by rw [← hkt'.out]; omega)
              have e2 := sumN_mono (fun i => sumN (fun j => sizeT (sub i j)) (k i)) m (show t + 1 ≤ m by omega)
              have e3 : sumN (fun j => sizeT (sub t j)) (u + 1) = sumN (fun j => sizeT (sub t j)) u + sizeT (sub t u) := rfl
              have e4 : sumN (fun i => sumN (fun j => sizeT (sub i j)) (k i)) (t + 1) = sumN (fun i => sumN (fun j => sizeT (sub i j)) (k i)) t + sumN (fun j => sizeT (sub t j)) (k t) := rfl
              have e5 := size_le (.arr S n sh m L K C N k sub)
              have e6 : sizeT (.arr S n sh m L K C N k sub) = m + sumN (fun i => sumN (fun j => sizeT (sub i j)) (k i)) m := rfl
              have := hfew'.out
              omega
            obtain ⟨X, hX⟩ : ∃ X, X = m + sumN (fun i => sumN (fun j => sizeT (sub i j)) (k i)) t + sumN (fun j => sizeT (sub t j)) u := ⟨_, rfl⟩
            obtain ⟨Y, hY⟩ : ∃ Y, Y = sizeT (sub t u) := ⟨_, rfl⟩
            rw [← hX] at hbd ⊢
            rw [← hY] at hbd hih
            have hX' := Lib.hid hX; have hY' := Lib.hid hY
            clear hX hY
            have hb2 := (Below.refl wr.heap.size wr).alloc (Nat.le_refl _) (.cells #[.int .u64 S', .slice ao' n' nc', .slice co' m' mc'] 26)
            have hA2 := Lib.hid (ArrP.below _ _ _ _ hA.out hb2)
            have hbr4 := Lib.hid (hbr3.out.trans (hb2.mono hbr3.out.size))
            have hbx4 := Lib.hid (hbx3.out.later hb2)
            clear hb2 hbr3 hbx3 hA
            have v0 := World.cell?_alloc_new
            clear v0
            go_wp2_with fail
            refine (hih.out _ hA2.out).mono ?_
            rintro e2 w2 ⟨rfl, hb2⟩
            replace hbx4 := Lib.hid (hbx4.out.later hb2)
            replace hbr4 := Lib.hid (hbr4.out.trans (hb2.mono hbr4.out.size))
            clear hb2 s0 s1 s2 hA2
            go_wp2_with fail
            go_roundw
            case rel =>
              refine ⟨u + 1, by omega, by go_num, ?_, hbx4, hbr4⟩
              have e1 := hX'.out; have e2 := hY'.out
              exact congrArg (Value.int .i64) (by show (X : Int) + (Y : Int) = ((m + sumN _ t + (sumN _ u + sizeT (sub t u)) : Nat) : Int); omega)
            case measure => simp [intOfZ]; omega
          · obtain rfl : u = kt := by omega
            go_wp2_with fail
            go_roundw
            case rel =>
              refine ⟨t + 1, by omega, by go_num, ?_, hbx3, hbr3⟩
              rw [hkt'.out]; exact congrArg (fun x : Nat => Value.int .i64 (x : Int)) (by show _ = m + (sumN _ t + sumN _ (k t)); omega)
            case measure => simp [intOfZ]; omega
      · obtain rfl : t = m := by omega
        go_wp2_with fail
        go_ret
        exact ⟨rfl, hbr.out⟩

theorem fold_one {g h : Nat → Nat → Nat} {s : Nat} : ∀ n, (∀ i x, h i (x + 1) = g i x + 1) → foldN h (s + 1) n = foldN g s n + 1
  | 0, _ => rfl
  | n + 1, e => by
    show h n (foldN h (s + 1) n) = g n (foldN g s n) + 1
    rw [fold_one n e, e]

theorem depth_one {m : Nat} {k : Nat → Nat} {sub : Nat → Nat → Tree} : foldN (fun i s => foldN (fun j s => max s (depthT (sub i j) + 1)) s (k i)) 1 m = foldN (fun i s => foldN (fun j s => max s (depthT (sub i j))) s (k i)) 0 m + 1 :=
  fold_one m fun i x => fold_one (k i) fun j y => by omega

set_option maxRecDepth 20000 in
set_option maxHeartbeats 4000000 in
theorem depth_any : ∀ (A : Tree) (c0 c1 c2 : Value) (w : World), ArrP w A c0 c1 c2 → partsT A ≤ 4000 →
    Calls Tryz.prog 21 #[.agg #[c0, c1, c2]] w (Tell (.int .i64 (depthT A : Nat)) w) := by
  intro A
  induction A with
  | leaf => intros; exact (ArrP.leaf ‹ArrP _ Tree.leaf _ _ _›).elim
  | arr S n sh m L K C N k sub ih =>
    intro c0 c1 c2 w h hfew
    have hfew' := Lib.hid hfew
    have hAw := Lib.hid h
    obtain ⟨rfl, hS, ⟨ao, nc, rfl, hp, _⟩, co, mc, rfl, hm, hc⟩ := h
    have hp1 := hp.1; have hp2 := hp.2.1; have hp3 := hp.2.2; have hm1 := hm.1; have hm2 := hm.2.1; have hm3 := hm.2.2
    have hbox := Lib.hid (Box3.new (.int .u64 S) (.slice ao n nc) (.slice co m mc) 26 (show w.heap.size = w.heap.size from rfl))
    have hbel := Lib.hid ((Below.refl w.heap.size w).alloc (Nat.le_refl _) (.cells #[.int .u64 S, .slice ao n nc, .slice co m mc] 26))
    have hc' := Lib.hid hc
    clear hc hfew
    go_enter Tryz.func21, Tryz.ntmps21
    have z0 := hbox.out.c0; have z1 := hbox.out.c1; have z2 := hbox.out.c2
    have hAb := Lib.hid (ArrP.below _ _ _ _ hAw.out hbel.out)
    go_wp2_with fail
    refine (simple_any (.arr S n sh m L K C N k sub) _ _ _ _ hAb.out).mono ?_
    rintro e w1 ⟨rfl, hb1⟩
    replace hbox := Lib.hid (hbox.out.later hb1)
    replace hbel := Lib.hid (hbel.out.trans (hb1.mono hbel.out.size))
    clear hb1 z0 z1 z2
    by_cases hsi : simpleT (.arr S n sh m L K C N k sub) = true
    · have hz : depthT (.arr S n sh m L K C N k sub) = 0 := if_pos hsi
      rw [hsi]
      go_wp2_with fail
      go_ret
      exact ⟨by rw [hz]; rfl, hbel.out⟩
    have hz : depthT (.arr S n sh m L K C N k sub) = foldN (fun i s => foldN (fun j s => max s (depthT (sub i j) + 1)) s (k i)) 1 m := if_neg hsi
    have hsf : simpleT (.arr S n sh m L K C N k sub) = false := by simpa using hsi
    have hz' := Lib.hid (hz.trans depth_one)
    rw [hsf]
    clear hz hsf hsi
    have z2 := hbox.out.c2
    go_wp2_with fail
    clear z2
    have hX1 := Lib.hid (show ∀ t, t ≤ m → foldN (fun i s => foldN (fun j s => max s (depthT (sub i j))) s (k i)) 0 t ≤ 5000 from fun t ht => by
      refine foldN_le (Nat.zero_le _) t fun i x hi hx => foldN_le hx (k i) fun j y hj hy => Nat.max_le.2 ⟨hy, ?_⟩
      have a := depth_le (sub i j)
      have b := parts_sub (S := S) (n := n) (sh := sh) (L := L) (K := K) (C := C) (N := N) (sub := sub) (show i < m by omega) hj
      have := hfew'.out
      omega)
    go_loopw [3, 13] (fun q i wr => ∃ t : Nat, t ≤ m ∧ i = .int .i64 t ∧ q = .int .i64 ((foldN (fun i s => foldN (fun j s => max s (depthT (sub i j))) s (k i)) 0 t : Nat) : Int) ∧ Hid (Box3 wr w.heap.size (.int .u64 S) (.slice ao n nc) (.slice co m mc)) ∧ Hid (Below w.heap.size w wr)) (fun _ i _ => m - (intOfZ i).toNat)
    case atStart => exact ⟨0, Nat.zero_le _, rfl, by rfl, hbox, hbel⟩
    case round =>
      obtain ⟨t, ht, rfl, rfl, hbx, hbr⟩ := hrel
      clear hbox hbel
      by_cases hlt : t < m
      · have hm0 := Lib.hid hlt
        rcases hc'.out with h0 | ⟨b, o, rfl, hcells⟩
        · omega
        obtain ⟨e, he, q0, qL, q1, qK, ⟨q2, ⟨a1, ac, q3, ha, _, _⟩, ⟨b1, bc, q4, hb', _, _⟩⟩, q5, qC, io, kc, q6, hk, hrow⟩ := hcells t hlt
        have y0 := cell_below (he 0 (by decide)) hbr.out; have y1 := cell_below (he 1 (by decide)) hbr.out; have y2 := cell_below (he 2 (by decide)) hbr.out; have y3 := cell_below (he 3 (by decide)) hbr.out
        have y4 := cell_below (he 4 (by decide)) hbr.out; have y5 := cell_below (he 5 (by decide)) hbr.out; have y6 := cell_below (he 6 (by decide)) hbr.out
        rw [q0, Nat.add_zero] at y0; rw [q1] at y1; rw [q2] at y2; rw [q3] at y3; rw [q4] at y4; rw [q5] at y5; rw [q6] at y6
        have kk1 := hk.1; have kk2 := hk.2.1
        have hrow' := Lib.hid hrow; have hqL := Lib.hid qL
        clear hcells he q0 qL q1 qK q2 q3 q4 q5 qC q6 ha hb' hk hrow
        obtain ⟨U, hU⟩ : ∃ U, U = wr.heap.size := ⟨_, rfl⟩
        go_upto_region 7 with fail
        rw [← hU]
        refine told_wp (fun w' => Box3 w' w.heap.size (.int .u64 S) (.slice ao n nc) (.slice (some ⟨b, o, none⟩) m mc) ∧ Below w.heap.size w w' ∧ Box7 w' U (.int .u64 (L t)) (.int .i64 (K t)) (.bool (N t).neg) (.slice a1 (N t).an ac) (.slice b1 (N t).am bc) (.int .i64 (C t)) (.slice io (k t) kc)) ⟨hbx.out.alloc _, hbr.out.alloc (by have := hbr.out.size; omega) _, Box7.new _ _ _ _ _ _ _ _ hU⟩ ?_
        clear hbx hbr y0 y1 y2 y3 y4 y5 y6 hU
        rintro wa ⟨hxa, hba, x7⟩
        have g0 := x7.c0; have g6 := x7.c6
        have hbx := Lib.hid hxa; have hbr := Lib.hid hba; have hx7 := Lib.hid x7
        obtain ⟨kt, hkt⟩ : ∃ kt, kt = k t := ⟨_, rfl⟩
        rw [← hkt] at g6 hrow' kk1
        have hkt' := Lib.hid hkt
        clear hxa hba x7 hkt
        go_wp2_with fail
        go_loopw [3, 20] (fun q j wi => ∃ u : Nat, u ≤ kt ∧ j = .int .i64 u ∧ q = .int .i64 ((foldN (fun j s => max s (depthT (sub t j))) (foldN (fun i s => foldN (fun j s => max s (depthT (sub i j))) s (k i)) 0 t) u : Nat) : Int) ∧ Hid (Box3 wi w.heap.size (.int .u64 S) (.slice ao n nc) (.slice (some ⟨b, o, none⟩) m mc)) ∧ Hid (Below w.heap.size w wi)) (fun _ j _ => kt - (intOfZ j).toNat)
        case atStart => exact ⟨0, Nat.zero_le _, rfl, rfl, hbx, hbr⟩
        case round =>
          obtain ⟨u, hu, rfl, rfl, hbx3, hbr3⟩ := hrel
          clear hbx hbr g0 g6 hx7
          by_cases hul : u < kt
          · rcases hrow'.out with h0 | ⟨b', o', rfl, hrows⟩
            · omega
            obtain ⟨d0, d1, d2, r0, r1, r2, r3⟩ := hrows u hul
            obtain ⟨S', n', nc', m', mc', ao', co', rfl, rfl, rfl⟩ := (ArrP.within _ _ _ _ r3).form
            have s0 := cell_below r0 hbr3.out; have s1 := cell_below r1 hbr3.out; have s2 := cell_below r2 hbr3.out
            have hA := Lib.hid (ArrP.below _ _ _ _ r3 hbr3.out)
            have hps := parts_sub (S := S) (n := n) (sh := sh) (L := L) (K := K) (C := C) (N := N) (sub := sub) (k := k) hlt (by rw [← hkt'.out]; exact hul)
            have hps' := Lib.hid (show partsT (sub t u) ≤ 4000 by have := hfew'.out; omega)
            have hpt := Lib.hid hps
            have hih := Lib.hid (fun w h => ih t u (.int .u64 S') (.slice ao' n' nc') (.slice co' m' mc') w h hps'.out)
            clear hrows r0 r1 r2 r3 hps
            have hX0 : foldN (fun j s => max s (depthT (sub t j))) (foldN (fun i s => foldN (fun j s => max s (depthT (sub i j))) s (k i)) 0 t) u ≤ 5000 := by
              refine foldN_le (hX1.out t ht) u fun j y hj hy => Nat.max_le.2 ⟨hy, ?_⟩
              have a := depth_le (sub t j)
              have b := parts_sub (S := S) (n := n) (sh := sh) (L := L) (K := K) (C := C) (N := N) (sub := sub) (k := k) hlt (show j < k t by rw [← hkt'.out]; omega)
              have := hfew'.out
              omega
            have hY0 : depthT (sub t u) ≤ 5000 := by have a := depth_le (sub t u); have := hps'.out; omega
            obtain ⟨X, hX⟩ : ∃ X, X = foldN (fun j s => max s (depthT (sub t j))) (foldN (fun i s => foldN (fun j s => max s (depthT (sub i j))) s (k i)) 0 t) u := ⟨_, rfl⟩
            obtain ⟨Y, hY⟩ : ∃ Y, Y = depthT (sub t u) := ⟨_, rfl⟩
            rw [← hX] at hX0 ⊢
            rw [← hY] at hY0 hih
            have hX' := Lib.hid hX; have hY' := Lib.hid hY
            clear hX hY
            have hb2 := (Below.refl wr.heap.size wr).alloc (Nat.le_refl _) (.cells #[.int .u64 S', .slice ao' n' nc', .slice co' m' mc'] 26)
            have hA2 := Lib.hid (ArrP.below _ _ _ _ hA.out hb2)
            have hbr4 := Lib.hid (hbr3.out.trans (hb2.mono hbr3.out.size))
            have hbx4 := Lib.hid (hbx3.out.later hb2)
            clear hb2 hbr3 hbx3 hA
            have v0 := World.cell?_alloc_new
            clear v0
            go_wp2_with fail
            refine (hih.out _ hA2.out).mono ?_
            rintro e2 w2 ⟨rfl, hb2⟩
            replace hbx4 := Lib.hid (hbx4.out.later hb2)
            replace hbr4 := Lib.hid (hbr4.out.trans (hb2.mono hbr4.out.size))
            clear hb2 s0 s1 s2 hA2
            have hst := Lib.hid (show foldN (fun j s => max s (depthT (sub t j))) (foldN (fun i s => foldN (fun j s => max s (depthT (sub i j))) s (k i)) 0 t) (u + 1) = max X Y by rw [hX'.out, hY'.out]; rfl)
            by_cases hgt : X < Y
            · have hm' := Lib.hid (show max X Y = Y by omega)
              have hgi : ((X : Int) < (Y : Int)) := by omega
              go_wp2_with fail
              go_roundw
              case rel =>
                refine ⟨u + 1, by omega, by go_num, ?_, hbx4, hbr4⟩
                rw [hst.out, hm'.out]
                exact congrArg (Value.int .i64) (by omega)
              case measure => simp [intOfZ]; omega
            · have hm' := Lib.hid (show max X Y = X by omega)
              have hgi : ¬ ((X : Int) < (Y : Int)) := by omega
              go_wp2_with fail
              go_roundw
              case rel =>
                refine ⟨u + 1, by omega, by go_num, ?_, hbx4, hbr4⟩
                rw [hst.out, hm'.out]
                exact congrArg (Value.int .i64) (by omega)
              case measure => simp [intOfZ]; omega
          · obtain rfl : u = kt := by omega
            go_wp2_with fail
            go_roundw
            case rel =>
              refine ⟨t + 1, by omega, by go_num, ?_, hbx3, hbr3⟩
              rw [hkt'.out]; rfl
            case measure => simp [intOfZ]; omega
      · obtain rfl : t = m := by omega
        obtain ⟨X, hX⟩ : ∃ X, X = foldN (fun i s => foldN (fun j s => max s (depthT (sub i j))) s (k i)) 0 t := ⟨_, rfl⟩
        have hX0 : X ≤ 5000 := by rw [hX]; exact hX1.out t (Nat.le_refl _)
        rw [← hX] at hz' ⊢
        clear hX
        go_wp2_with fail
        go_ret
        exact ⟨by rw [hz'.out]; exact congrArg (fun x => Ending.returned (.int .i64 x)) (by omega), hbr.out⟩

set_option maxRecDepth 20000 in
set_option maxHeartbeats 4000000 in
theorem total_any : ∀ (A : Tree) (c0 c1 c2 : Value) (w : World), ArrP w A c0 c1 c2 → partsT A ≤ 4000 →
    Calls Tryz.prog 22 #[.agg #[c0, c1, c2]] w (Tell (.int .u64 (totalT A : Nat)) w) := by
  intro A
  induction A with
  | leaf => intros; exact (ArrP.leaf ‹ArrP _ Tree.leaf _ _ _›).elim
  | arr S n sh m L K C N k sub ih =>
    intro c0 c1 c2 w h hfew
    have hfew' := Lib.hid hfew
    have hAw := Lib.hid h
    obtain ⟨rfl, hS, ⟨ao, nc, rfl, hp, _⟩, co, mc, rfl, hm, hc⟩ := h
    have hp1 := hp.1; have hp2 := hp.2.1; have hp3 := hp.2.2; have hm1 := hm.1; have hm2 := hm.2.1; have hm3 := hm.2.2
    have hbox := Lib.hid (Box3.new (.int .u64 S) (.slice ao n nc) (.slice co m mc) 26 (show w.heap.size = w.heap.size from rfl))
    have hbel := Lib.hid ((Below.refl w.heap.size w).alloc (Nat.le_refl _) (.cells #[.int .u64 S, .slice ao n nc, .slice co m mc] 26))
    have hc' := Lib.hid hc
    clear hc hfew
    go_enter Tryz.func22, Tryz.ntmps22
    have hlab := Lib.hid (arr_labels hAw.out)
    have hsubl := Lib.hid (show ∀ i j, i < m → j < k i → IsL (totalT (sub i j)) from fun i j hi hj => by
      obtain ⟨d0, d1, d2, r⟩ := hlab.out.2.2 i hi j hj
      exact total_is _ _ _ _ r)
    have hOut := Lib.hid (show ∀ t, t ≤ m → IsL (foldN (fun i s => foldN (fun j s => orL s (totalT (sub i j))) (orL s (L i)) (k i)) S t) from fun t ht => foldN_is hlab.out.1 t fun i x hi hx => foldN_is (orL_is hx (hlab.out.2.1 i (by omega))) (k i) fun j y hj hy => orL_is hy (hsubl.out i j (by omega) hj))
    have z0 := hbox.out.c0; have z2 := hbox.out.c2
    go_wp2_with fail
    clear z0 z2
    go_loopw [3, 13] (fun q i wr => ∃ t : Nat, t ≤ m ∧ i = .int .i64 t ∧ q = .int .u64 ((foldN (fun i s => foldN (fun j s => orL s (totalT (sub i j))) (orL s (L i)) (k i)) S t : Nat) : Int) ∧ Hid (Box3 wr w.heap.size (.int .u64 S) (.slice ao n nc) (.slice co m mc)) ∧ Hid (Below w.heap.size w wr)) (fun _ i _ => m - (intOfZ i).toNat)
    case atStart => exact ⟨0, Nat.zero_le _, rfl, by rfl, hbox, hbel⟩
    case round =>
      obtain ⟨t, ht, rfl, rfl, hbx, hbr⟩ := hrel
      clear hbox hbel
      by_cases hlt : t < m
      · have hm0 := Lib.hid hlt
        rcases hc'.out with h0 | ⟨b, o, rfl, hcells⟩
        · omega
        obtain ⟨e, he, q0, qL, q1, qK, ⟨q2, ⟨a1, ac, q3, ha, _, _⟩, ⟨b1, bc, q4, hb', _, _⟩⟩, q5, qC, io, kc, q6, hk, hrow⟩ := hcells t hlt
        have y0 := cell_below (he 0 (by decide)) hbr.out; have y1 := cell_below (he 1 (by decide)) hbr.out; have y2 := cell_below (he 2 (by decide)) hbr.out; have y3 := cell_below (he 3 (by decide)) hbr.out
        have y4 := cell_below (he 4 (by decide)) hbr.out; have y5 := cell_below (he 5 (by decide)) hbr.out; have y6 := cell_below (he 6 (by decide)) hbr.out
        rw [q0, Nat.add_zero] at y0; rw [q1] at y1; rw [q2] at y2; rw [q3] at y3; rw [q4] at y4; rw [q5] at y5; rw [q6] at y6
        have kk1 := hk.1; have kk2 := hk.2.1
        have hrow' := Lib.hid hrow; have hqL := Lib.hid qL
        clear hcells he q0 qL q1 qK q2 q3 q4 q5 qC q6 ha hb' hk hrow
        obtain ⟨U, hU⟩ : ∃ U, U = wr.heap.size := ⟨_, rfl⟩
        go_upto_region 5 with fail
        rw [← hU]
        refine told_wp (fun w' => Box3 w' w.heap.size (.int .u64 S) (.slice ao n nc) (.slice (some ⟨b, o, none⟩) m mc) ∧ Below w.heap.size w w' ∧ Box7 w' U (.int .u64 (L t)) (.int .i64 (K t)) (.bool (N t).neg) (.slice a1 (N t).an ac) (.slice b1 (N t).am bc) (.int .i64 (C t)) (.slice io (k t) kc)) ⟨hbx.out.alloc _, hbr.out.alloc (by have := hbr.out.size; omega) _, Box7.new _ _ _ _ _ _ _ _ hU⟩ ?_
        clear hbx hbr y0 y1 y2 y3 y4 y5 y6 hU
        rintro wa ⟨hxa, hba, x7⟩
        have g0 := x7.c0; have g6 := x7.c6
        have hbx := Lib.hid hxa; have hbr := Lib.hid hba; have hx7 := Lib.hid x7
        obtain ⟨kt, hkt⟩ : ∃ kt, kt = k t := ⟨_, rfl⟩
        rw [← hkt] at g6 hrow' kk1
        have hkt' := Lib.hid hkt
        clear hxa hba x7 hkt
        obtain ⟨X, hX⟩ : ∃ X, X = foldN (fun i s => foldN (fun j s => orL s (totalT (sub i j))) (orL s (L i)) (k i)) S t := ⟨_, rfl⟩
        have hXl : IsL X := by rw [hX]; exact hOut.out t ht
        have hX' := Lib.hid hX
        rw [← hX]
        clear hX
        go_wp2_with fail
        refine (join_any X (L t) hXl hqL.out _).mono ?_
        rintro e2 w2 ⟨rfl, rfl⟩
        go_wp2_with fail
        go_loopw [3, 24] (fun q j wi => ∃ u : Nat, u ≤ kt ∧ j = .int .i64 u ∧ q = .int .u64 ((foldN (fun j s => orL s (totalT (sub t j))) (orL X (L t)) u : Nat) : Int) ∧ Hid (Box3 wi w.heap.size (.int .u64 S) (.slice ao n nc) (.slice (some ⟨b, o, none⟩) m mc)) ∧ Hid (Below w.heap.size w wi)) (fun _ j _ => kt - (intOfZ j).toNat)
        case atStart => exact ⟨0, Nat.zero_le _, rfl, rfl, hbx, hbr⟩
        case round =>
          obtain ⟨u, hu, rfl, rfl, hbx3, hbr3⟩ := hrel
          clear hbx hbr g0 g6 hx7
          by_cases hul : u < kt
          · rcases hrow'.out with h0 | ⟨b', o', rfl, hrows⟩
            · omega
            obtain ⟨d0, d1, d2, r0, r1, r2, r3⟩ := hrows u hul
            obtain ⟨S', n', nc', m', mc', ao', co', rfl, rfl, rfl⟩ := (ArrP.within _ _ _ _ r3).form
            have s0 := cell_below r0 hbr3.out; have s1 := cell_below r1 hbr3.out; have s2 := cell_below r2 hbr3.out
            have hA := Lib.hid (ArrP.below _ _ _ _ r3 hbr3.out)
            have hps := parts_sub (S := S) (n := n) (sh := sh) (L := L) (K := K) (C := C) (N := N) (sub := sub) (k := k) hlt (by rw [← hkt'.out]; exact hul)
            have hps' := Lib.hid (show partsT (sub t u) ≤ 4000 by have := hfew'.out; omega)
            have hpt := Lib.hid hps
            have hih := Lib.hid (fun w h => ih t u (.int .u64 S') (.slice ao' n' nc') (.slice co' m' mc') w h hps'.out)
            clear hrows r0 r1 r2 r3 hps
            obtain ⟨Z, hZ⟩ : ∃ Z, Z = foldN (fun j s => orL s (totalT (sub t j))) (orL X (L t)) u := ⟨_, rfl⟩
            have hZl : IsL Z := by rw [hZ]; exact foldN_is (orL_is hXl hqL.out) u fun j y hj hy => orL_is hy (hsubl.out t j hlt (by rw [← hkt'.out]; omega))
            have hYl := hsubl.out t u hlt (by rw [← hkt'.out]; exact hul)
            have hZ' := Lib.hid hZ
            rw [← hZ]
            clear hZ
            have hb2 := (Below.refl wr.heap.size wr).alloc (Nat.le_refl _) (.cells #[.int .u64 S', .slice ao' n' nc', .slice co' m' mc'] 26)
            have hA2 := Lib.hid (ArrP.below _ _ _ _ hA.out hb2)
            have hbr4 := Lib.hid (hbr3.out.trans (hb2.mono hbr3.out.size))
            have hbx4 := Lib.hid (hbx3.out.later hb2)
            clear hb2 hbr3 hbx3 hA
            have v0 := World.cell?_alloc_new
            clear v0
            go_wp2_with fail
            refine (hih.out _ hA2.out).mono ?_
            rintro e2 w2 ⟨rfl, hb2⟩
            replace hbx4 := Lib.hid (hbx4.out.later hb2)
            replace hbr4 := Lib.hid (hbr4.out.trans (hb2.mono hbr4.out.size))
            clear hb2 s0 s1 s2 hA2
            go_wp2_with fail
            refine (join_any Z (totalT (sub t u)) hZl hYl _).mono ?_
            rintro e3 w3 ⟨rfl, rfl⟩
            go_wp2_with fail
            go_roundw
            case rel =>
              refine ⟨u + 1, by omega, by go_num, ?_, hbx4, hbr4⟩
              rw [hZ'.out]
              rfl
            case measure => simp [intOfZ]; omega
          · obtain rfl : u = kt := by omega
            go_wp2_with fail
            go_roundw
            case rel =>
              refine ⟨t + 1, by omega, by go_num, ?_, hbx3, hbr3⟩
              rw [hX'.out, hkt'.out]; rfl
            case measure => simp [intOfZ]; omega
      · obtain rfl : t = m := by omega
        go_wp2_with fail
        go_ret
        exact ⟨rfl, hbr.out⟩

theorem sizeC : SizeC := fun A c0 c1 c2 w h hf => size_any A c0 c1 c2 w h hf.1

theorem depthC : DepthC := fun A c0 c1 c2 w h hf => depth_any A c0 c1 c2 w h hf.1

theorem totalC : TotalC := fun A c0 c1 c2 w h hf => total_any A c0 c1 c2 w h hf.1

end Go.Proofs.YtmkjebembicljaaGreat

namespace Go.Proofs.YtmkjebembicljaaGreat
open Go.RowKit Num

/-- Cells of memory in a row behind an address. -/
def LiesL (w : World) (ao : Option Addr) (L : List Value) : Prop := L = [] ∨ ∃ b o, ao = some ⟨b, o, none⟩ ∧ ∀ j u, L[j]? = some u → w.cell? ⟨b, o + j, none⟩ = some u

theorem LiesL.below {w w' : World} {ao : Option Addr} {L : List Value} (h : LiesL w ao L) (hb : Below w.heap.size w w') : LiesL w' ao L := by
  rcases h with h | ⟨b, o, e, h⟩
  · exact .inl h
  · exact .inr ⟨b, o, e, fun j u hu => cell_below (h j u hu) hb⟩

theorem wpList_append_lie {P : Program} {w : World} {ops : Array Oper} {rest : List Oper} {o : Oper} {a : Act} {Q : Exit → Act → World → Prop} (hgd : o.guard = none) (s x : Operand) (t : TypeId)
    (ho : o.op = .call { callee := .builtin .append, args := #[s, x], argTypes := #[t, t] })
    (base : Nat) (e : TypeId) (i : TypeInfo) (z : Value) (size bytes : Nat) (ht : P.underlying t = some (.slice e)) (hi : P.info? e = some i) (hz : i.zero = some z) (hsize : i.size = size) (hby : i.bytes = bytes) (hzs : z.cells.size = size) (hsz : 0 < size)
    (v : Value) (n : Nat) (xs : List Value) (hs : a.eval s = v) (hown : w.ownsRow base e size v n xs) (ad : Addr) (m c : Nat) (L : List Value) (hx : a.eval x = .slice (some ad) m c) (hl : L.length = m * size) (hf : LiesL w (some ad) L) (h1 : ∀ u ∈ L, u.oneCell' = true)
    (h63 : n + m ≤ maxLen) (hbytes : (n + m) * bytes ≤ 140737488355328) (hbase : base ≤ w.heap.size)
    (h : ∀ v' w', w'.ownsRow base e size v' (n + m) (xs ++ L) → w.grownBy w' v.ownBlock → wpList P ops Q rest (a.put o.dst v') w') : wpList P ops Q (o :: rest) a w := by
  refine wpList_plain hgd fun K hK => ?_
  have hnews : ∀ j u, L[j]? = some u → w.cell? (ad.add j) = some u := by
    intro j u hu
    rcases hf with h | ⟨b, off, e1, hc⟩
    · rw [h] at hu; simp at hu
    · cases e1
      rw [← hc j u hu, Addr.add_lit]
  obtain ⟨v', w', hr, h2, h3, _⟩ := run_append_own (P := P) w base t o.type e i z size bytes ht hi hz hsize hby hzs hsz v n xs hown ad m c L hl hnews h1 h63 hbytes hbase
  unfold Oper.wp execOp
  simp only [ho, resolve, invoke, builtin, Sem.run_bind, Sem.run_pure, Result.andThen_ok, List.map_toArray, List.map_cons, List.map_nil, hs, hx, hr]
  exact hK _ _ (h v' w' h2 h3)

/-- A row of its own, as a slice. -/
structure Row (w : World) (B : Nat) (E : TypeId) (s : Nat) (ao : Option Addr) (n cap : Nat) (L : List Value) : Prop where
  own : w.ownsRow B E s (.slice ao n cap) n L

theorem Row.later {w w' : World} {B : Nat} {E : TypeId} {s : Nat} {ao : Option Addr} {n cap : Nat} {L : List Value} (h : Row w B E s ao n cap L) (hb : Below w.heap.size w w') : Row w' B E s ao n cap L := ⟨owns_later h.own hb⟩

/-- What Clone tells. -/
def ClonePost (E : TypeId) (s n : Nat) (L : List Value) (w : World) (e : Ending) (w' : World) : Prop :=
  ∃ ao cap, e = .returned (.slice ao n cap) ∧ Row w' w.heap.size E s ao n cap L ∧ Below w.heap.size w w'

theorem clone_post {E : TypeId} {s n : Nat} {L : List Value} {w w' : World} {v : Value} (h : w'.ownsRow w.heap.size E s v n L) (hb : Below w.heap.size w w') : ClonePost E s n L w (.returned v) w' := by
  obtain ⟨ao, cap, rfl, _⟩ := own_form h
  exact ⟨ao, cap, rfl, ⟨h⟩, hb⟩

theorem lies_none {w : World} {L : List Value} (h : LiesL w none L) : L = [] := by
  rcases h with h | ⟨b, o, e, _⟩
  · exact h
  · cases e

theorem infoU32 : (Tryz.prog.info? 79).map (fun i => (i.zero, i.size, i.bytes)) = some (some (.int .u32 0), 1, 4) := by kernel_rfl

theorem eqlNilU (w : World) (a : Option Addr) (n c n' c' : Nat) : (binOp .eql 27 (.slice a n c) (.slice none n' c')).run Tryz.prog w = .ok (.bool a.isNone) w :=
  Lib.run_eql_slice_nil w _ _ a n c n' c' Tryz.underlying27

set_option maxRecDepth 20000 in
set_option maxHeartbeats 1000000 in
theorem cloneU_any (ao : Option Addr) (n nc : Nat) (L : List Value) (w : World) (hn : n ≤ 6000) (hl : L.length = n * 1) (hf : LiesL w ao L) (h1 : ∀ u ∈ L, u.oneCell' = true) :
    Calls Tryz.prog 62 #[.slice ao n nc] w (ClonePost 79 1 n L w) := by
  obtain ⟨iE, hi0, hz0, hz1, hz2⟩ := info_parts infoU32
  have hq := eqlNilU
  have hl' := Lib.hid hl; have h1' := Lib.hid h1
  cases ao with
  | none =>
    have e := lies_none hf
    have hn0 : n = 0 := by rw [e] at hl; simp at hl; omega
    subst hn0
    have e' := Lib.hid e
    clear hl hf h1 e
    go_enter Tryz.func62, Tryz.ntmps62
    go_wp2_with fail
    go_ret
    rw [e'.out]
    exact clone_post (World.ownsRow_nil _ _ _ _) (Below.refl _ _)
  | some ad =>
    have hf' := Lib.hid (hf.below (w' := w.alloc (.cells #[] 79)) ((Below.refl _ _).alloc (Nat.le_refl _) _))
    clear hl hf h1
    go_enter Tryz.func62, Tryz.ntmps62
    go_wp2_with (at_builtin; refine wpList_append_lie rfl (.tmp 5) (.tmp 6) 27 rfl w.heap.size 79 iE (.int .u32 0) 1 4 Tryz.underlying27 hi0 hz0 hz1 hz2 rfl (by decide) _ 0 [] rfl (World.ownsRow_made w #[] 0 (Nat.le_refl _) (Nat.zero_le _) rfl) ad n nc L rfl hl'.out hf'.out h1'.out (by unfold maxLen; omega) (by omega) (by simp) ?_)
    intro v' w1 hown hgr
    have ho1 := Lib.hid hown
    have hb1 := Lib.hid (((Below.refl _ w).alloc (Nat.le_refl _) _).grown hgr (by simp) (by intro k hk; simp [Value.ownBlock] at hk; omega))
    clear hown hgr hq
    go_wp2_with fail
    go_ret
    exact clone_post ho1.out hb1.out

theorem eqlNilI (w : World) (a : Option Addr) (n c n' c' : Nat) : (binOp .eql 23 (.slice a n c) (.slice none n' c')).run Tryz.prog w = .ok (.bool a.isNone) w :=
  Lib.run_eql_slice_nil w _ _ a n c n' c' Tryz.underlying23

set_option maxRecDepth 20000 in
set_option maxHeartbeats 1000000 in
theorem cloneI_any (ao : Option Addr) (n nc : Nat) (L : List Value) (w : World) (hn : n ≤ 6000) (hl : L.length = n * 1) (hf : LiesL w ao L) (h1 : ∀ u ∈ L, u.oneCell' = true) :
    Calls Tryz.prog 44 #[.slice ao n nc] w (ClonePost 3 1 n L w) := by
  obtain ⟨iE, hi0, hz0, hz1, hz2⟩ := info_parts info64
  have hq := eqlNilI
  have hl' := Lib.hid hl; have h1' := Lib.hid h1
  cases ao with
  | none =>
    have e := lies_none hf
    have hn0 : n = 0 := by rw [e] at hl; simp at hl; omega
    subst hn0
    have e' := Lib.hid e
    clear hl hf h1 e
    go_enter Tryz.func44, Tryz.ntmps44
    go_wp2_with fail
    go_ret
    rw [e'.out]
    exact clone_post (World.ownsRow_nil _ _ _ _) (Below.refl _ _)
  | some ad =>
    have hf' := Lib.hid (hf.below (w' := w.alloc (.cells #[] 3)) ((Below.refl _ _).alloc (Nat.le_refl _) _))
    clear hl hf h1
    go_enter Tryz.func44, Tryz.ntmps44
    go_wp2_with (at_builtin; refine wpList_append_lie rfl (.tmp 5) (.tmp 6) 23 rfl w.heap.size 3 iE (.int .i64 0) 1 8 Tryz.underlying23 hi0 hz0 hz1 hz2 rfl (by decide) _ 0 [] rfl (World.ownsRow_made w #[] 0 (Nat.le_refl _) (Nat.zero_le _) rfl) ad n nc L rfl hl'.out hf'.out h1'.out (by unfold maxLen; omega) (by omega) (by simp) ?_)
    intro v' w1 hown hgr
    have ho1 := Lib.hid hown
    have hb1 := Lib.hid (((Below.refl _ w).alloc (Nat.le_refl _) _).grown hgr (by simp) (by intro k hk; simp [Value.ownBlock] at hk; omega))
    clear hown hgr hq
    go_wp2_with fail
    go_ret
    exact clone_post ho1.out hb1.out

theorem eqlNilC (w : World) (a : Option Addr) (n c n' c' : Nat) : (binOp .eql 24 (.slice a n c) (.slice none n' c')).run Tryz.prog w = .ok (.bool a.isNone) w :=
  Lib.run_eql_slice_nil w _ _ a n c n' c' Tryz.underlying24

set_option maxRecDepth 20000 in
set_option maxHeartbeats 1000000 in
theorem cloneC_any (ao : Option Addr) (n nc : Nat) (L : List Value) (w : World) (hn : n ≤ 6000) (hl : L.length = n * 7) (hf : LiesL w ao L) (h1 : ∀ u ∈ L, u.oneCell' = true) :
    Calls Tryz.prog 59 #[.slice ao n nc] w (ClonePost 32 7 n L w) := by
  obtain ⟨iE, hi0, hz0, hz1, hz2⟩ := info_parts infoCell
  have hq := eqlNilC
  have hl' := Lib.hid hl; have h1' := Lib.hid h1
  cases ao with
  | none =>
    have e := lies_none hf
    have hn0 : n = 0 := by rw [e] at hl; simp at hl; omega
    subst hn0
    have e' := Lib.hid e
    clear hl hf h1 e
    go_enter Tryz.func59, Tryz.ntmps59
    go_wp2_with fail
    go_ret
    rw [e'.out]
    exact clone_post (World.ownsRow_nil _ _ _ _) (Below.refl _ _)
  | some ad =>
    have hf' := Lib.hid (hf.below (w' := w.alloc (.cells #[] 32)) ((Below.refl _ _).alloc (Nat.le_refl _) _))
    clear hl hf h1
    go_enter Tryz.func59, Tryz.ntmps59
    go_wp2_with (at_builtin; refine wpList_append_lie rfl (.tmp 5) (.tmp 6) 24 rfl w.heap.size 32 iE (.agg #[.int .u64 0, .int .i64 0, .bool false, .slice none 0 0, .slice none 0 0, .int .i64 0, .slice none 0 0]) 7 104 Tryz.underlying24 hi0 hz0 hz1 hz2 rfl (by decide) _ 0 [] rfl (World.ownsRow_made w #[] 0 (Nat.le_refl _) (Nat.zero_le _) rfl) ad n nc L rfl hl'.out hf'.out h1'.out (by unfold maxLen; omega) (by omega) (by simp) ?_)
    intro v' w1 hown hgr
    have ho1 := Lib.hid hown
    have hb1 := Lib.hid (((Below.refl _ w).alloc (Nat.le_refl _) _).grown hgr (by simp) (by intro k hk; simp [Value.ownBlock] at hk; omega))
    clear hown hgr hq
    go_wp2_with fail
    go_ret
    exact clone_post ho1.out hb1.out

theorem eqlNilA (w : World) (a : Option Addr) (n c n' c' : Nat) : (binOp .eql 30 (.slice a n c) (.slice none n' c')).run Tryz.prog w = .ok (.bool a.isNone) w :=
  Lib.run_eql_slice_nil w _ _ a n c n' c' Tryz.underlying30

set_option maxRecDepth 20000 in
set_option maxHeartbeats 1000000 in
theorem cloneA_any (ao : Option Addr) (n nc : Nat) (L : List Value) (w : World) (hn : n ≤ 6000) (hl : L.length = n * 3) (hf : LiesL w ao L) (h1 : ∀ u ∈ L, u.oneCell' = true) :
    Calls Tryz.prog 45 #[.slice ao n nc] w (ClonePost 26 3 n L w) := by
  obtain ⟨iE, hi0, hz0, hz1, hz2⟩ := info_parts infoArr
  have hq := eqlNilA
  have hl' := Lib.hid hl; have h1' := Lib.hid h1
  cases ao with
  | none =>
    have e := lies_none hf
    have hn0 : n = 0 := by rw [e] at hl; simp at hl; omega
    subst hn0
    have e' := Lib.hid e
    clear hl hf h1 e
    go_enter Tryz.func45, Tryz.ntmps45
    go_wp2_with fail
    go_ret
    rw [e'.out]
    exact clone_post (World.ownsRow_nil _ _ _ _) (Below.refl _ _)
  | some ad =>
    have hf' := Lib.hid (hf.below (w' := w.alloc (.cells #[] 26)) ((Below.refl _ _).alloc (Nat.le_refl _) _))
    clear hl hf h1
    go_enter Tryz.func45, Tryz.ntmps45
    go_wp2_with (at_builtin; refine wpList_append_lie rfl (.tmp 5) (.tmp 6) 30 rfl w.heap.size 26 iE (.agg #[.int .u64 0, .slice none 0 0, .slice none 0 0]) 3 56 Tryz.underlying30 hi0 hz0 hz1 hz2 rfl (by decide) _ 0 [] rfl (World.ownsRow_made w #[] 0 (Nat.le_refl _) (Nat.zero_le _) rfl) ad n nc L rfl hl'.out hf'.out h1'.out (by unfold maxLen; omega) (by omega) (by simp) ?_)
    intro v' w1 hown hgr
    have ho1 := Lib.hid hown
    have hb1 := Lib.hid (((Below.refl _ w).alloc (Nat.le_refl _) _).grown hgr (by simp) (by intro k hk; simp [Value.ownBlock] at hk; omega))
    clear hown hgr hq
    go_wp2_with fail
    go_ret
    exact clone_post ho1.out hb1.out

theorem Sl.lies {w : World} {ao : Option Addr} {n : Nat} {f : Nat → Nat} (h : Sl w ao n f) : LiesL w ao (limbCells f n) := by
  rcases h with h | ⟨b, o, e, h⟩
  · subst h; exact .inl rfl
  · refine .inr ⟨b, o, e, fun j u hu => ?_⟩
    have hj : j < n := by
      have := (List.getElem?_eq_some_iff.1 hu).1
      rwa [limbCells_length] at this
    rw [limbCells_get f n j hj] at hu
    rw [← hu]
    exact h j hj

theorem SlZ.lies {w : World} {ao : Option Addr} {n : Nat} {f : Nat → Int} (h : SlZ w ao n f) : LiesL w ao (intCells f n) := by
  rcases h with h | ⟨b, o, e, h⟩
  · subst h; exact .inl rfl
  · refine .inr ⟨b, o, e, fun j u hu => ?_⟩
    have hj : j < n := by
      have := (List.getElem?_eq_some_iff.1 hu).1
      rwa [intCells_length] at this
    rw [intCells_get f n j hj] at hu
    rw [← hu]
    exact h j hj

theorem intCells_one (f : Nat → Int) (n : Nat) : ∀ u ∈ intCells f n, u.oneCell' = true := by intro u hu; obtain ⟨x, _, rfl⟩ := List.mem_map.1 hu; rfl

theorem Row.slQ {w : World} {B : Nat} {E : TypeId} {ao : Option Addr} {n cap : Nat} {f : Nat → Nat} (h : Row w B E 1 ao n cap (limbCells f n)) (hn : n ≤ 6000) : IsN n cap ∧ SlQ w (B ≤ ·) ao n f := by
  obtain ⟨ao', cap', e, h1, h2, h3⟩ := own_form h.own
  injection e with e1 e2 e3
  subst e1; subst e3
  refine ⟨⟨h1, h2, by omega⟩, ?_⟩
  rcases h3 with h0 | ⟨g, rfl, _, hg, _⟩
  · exact .inl h0
  · refine .inr ⟨g, 0, rfl, hg, fun j hj => ?_⟩
    rw [Nat.zero_add, h.own.cellAt j (by omega), limbCells_get f n j hj]

theorem Row.slzQ {w : World} {B : Nat} {E : TypeId} {ao : Option Addr} {n cap : Nat} {f : Nat → Int} (h : Row w B E 1 ao n cap (intCells f n)) (hn : n ≤ 6000) : IsN n cap ∧ SlZQ w (B ≤ ·) ao n f := by
  obtain ⟨ao', cap', e, h1, h2, h3⟩ := own_form h.own
  injection e with e1 e2 e3
  subst e1; subst e3
  refine ⟨⟨h1, h2, by omega⟩, ?_⟩
  rcases h3 with h0 | ⟨g, rfl, _, hg, _⟩
  · exact .inl h0
  · refine .inr ⟨g, 0, rfl, hg, fun j hj => ?_⟩
    rw [Nat.zero_add, h.own.cellAt j (by omega), intCells_get f n j hj]

theorem heap_set3 {w : World} {B b : Nat} (h : b ≠ B) (u0 u1 u2 : Value) : (((w.setCell ⟨B, 0, none⟩ u0).setCell ⟨B, 1, none⟩ u1).setCell ⟨B, 2, none⟩ u2).heap[b]? = w.heap[b]? := by
  rw [Below.heap_setCell _ _ _ _ h, Below.heap_setCell _ _ _ _ h, Below.heap_setCell _ _ _ _ h]

theorem heap_set7 {w : World} {B b : Nat} (h : b ≠ B) (u0 u1 u2 u3 u4 u5 u6 : Value) : (((((((w.setCell ⟨B, 0, none⟩ u0).setCell ⟨B, 1, none⟩ u1).setCell ⟨B, 2, none⟩ u2).setCell ⟨B, 3, none⟩ u3).setCell ⟨B, 4, none⟩ u4).setCell ⟨B, 5, none⟩ u5).setCell ⟨B, 6, none⟩ u6).heap[b]? = w.heap[b]? := by
  rw [Below.heap_setCell _ _ _ _ h, Below.heap_setCell _ _ _ _ h, Below.heap_setCell _ _ _ _ h, Below.heap_setCell _ _ _ _ h, Below.heap_setCell _ _ _ _ h, Below.heap_setCell _ _ _ _ h, Below.heap_setCell _ _ _ _ h]

/-- A number, told anew. -/
def NumNew (N : NumF) (w : World) (e : Ending) (w' : World) : Prop :=
  ∃ ao ac bo bc, e = .returned (.agg #[.bool N.neg, .slice ao N.an ac, .slice bo N.am bc]) ∧ NumQ w' (w.heap.size ≤ ·) N (.bool N.neg) (.slice ao N.an ac) (.slice bo N.am bc) ∧ Below w.heap.size w w'

set_option maxRecDepth 20000 in
set_option maxHeartbeats 2000000 in
theorem numAnew_any (N : NumF) (c0 c1 c2 : Value) (w : World) (h : NumP w N c0 c1 c2) (ha6 : N.an ≤ 6000) (hb6 : N.am ≤ 6000) :
    Calls Tryz.prog 46 #[.agg #[c0, c1, c2]] w (NumNew N w) := by
  obtain ⟨rfl, ⟨ao, ac, rfl, hn, hs, hl⟩, ⟨bo, bc, rfl, hm, hs', hl'⟩⟩ := h
  have n1 := hn.1; have n2 := hn.2.1; have m1 := hm.1; have m2 := hm.2.1
  have hsL := Lib.hid hs.lies; have htL := Lib.hid hs'.lies
  have hlim := Lib.hid hl; have hlim' := Lib.hid hl'
  have hx := (Box3.new (w := w) (B := w.heap.size) (.bool N.neg) (.slice ao N.an ac) (.slice bo N.am bc) 29 rfl).alloc (.cells #[.bool false, .slice none 0 0, .slice none 0 0] 29)
  have hy := Box3.new (w := w.alloc (.cells #[.bool N.neg, .slice ao N.an ac, .slice bo N.am bc] 29)) (B := w.heap.size + 1) (.bool false) (.slice none 0 0) (.slice none 0 0) 29 (by simp)
  have hbel := (((Below.refl w.heap.size w).alloc (Nat.le_refl _) (.cells #[.bool N.neg, .slice ao N.an ac, .slice bo N.am bc] 29)).alloc (by simp) (.cells #[.bool false, .slice none 0 0, .slice none 0 0] 29))
  clear hs hs' hl hl' hn hm
  go_enter Tryz.func46, Tryz.ntmps46
  go_upto_region 1 with fail
  refine told_wp (fun w' => Below w.heap.size w w' ∧ Box3 w' w.heap.size (.bool N.neg) (.slice ao N.an ac) (.slice bo N.am bc) ∧ Box3 w' (w.heap.size + 1) (.bool false) (.slice none 0 0) (.slice none 0 0)) ⟨hbel, hx, hy⟩ ?_
  clear hbel hx hy
  rintro w2 ⟨bb, x0, y0⟩
  have sa0 := True.intro
  go_region_held3 (fun w' => w'.cell? ⟨w.heap.size, 0, none⟩ = some (.bool N.neg) ∧ w'.cell? ⟨w.heap.size, 1, none⟩ = some (.slice ao N.an ac) ∧ w'.cell? ⟨w.heap.size, 2, none⟩ = some (.slice bo N.am bc))
    (first | with_reducible exact ⟨x0.drew.c0, x0.drew.c1, x0.drew.c2⟩ | with_reducible exact ⟨x0.c0, x0.c1, x0.c2⟩ | go_keep)
    (first
    | (go_at_call 62; clear sa0; have bb := bb.drew; have x0 := x0.drew; have y0 := y0.drew; refine (cloneU_any ao N.an ac (limbCells N.fa N.an) _ ha6 (by rw [limbCells_length, Nat.mul_one]) (hsL.out.below bb) (limbCells_one _ _)).mono ?_; rintro e w' ⟨po, pc, rfl, hr1, hb⟩; have hB1 := y0.lt; have bb := below_then bb (Nat.le_refl _) hb; have x0 := x0.later hb; have y0 := y0.later hb; clear hb; have sa1 := True.intro)
    | (go_at_call 62; clear sa1; refine (cloneU_any bo N.am bc (limbCells N.ga N.am) _ hb6 (by rw [limbCells_length, Nat.mul_one]) (htL.out.below bb) (limbCells_one _ _)).mono ?_; rintro e w' ⟨qo, qc, rfl, hr2, hb2⟩; have hB2 := y0.lt; have bb := below_then bb (Nat.le_refl _) hb2; have x0 := x0.later hb2; have y0 := y0.later hb2; have hr1 := hr1.later hb2; clear hb2; have q0 := y0.c0; have q1 := y0.c1; have q2 := y0.c2; have q3 := y0.fr 0; have q4 := y0.fr 1; have q5 := y0.fr 2; have sa2 := True.intro))
  have z := y0.set (.bool N.neg) (.slice po N.an pc) (.slice qo N.am qc)
  have e0 := z.c0; have e1 := z.c1; have e2 := z.c2
  have hbw := Lib.hid (below_set3 bb (B := w.heap.size + 1) (by omega) (.bool N.neg) (.slice po N.an pc) (.slice qo N.am qc))
  obtain ⟨hp1, hp2⟩ := hr1.slQ ha6
  obtain ⟨hq1, hq2⟩ := hr2.slQ hb6
  have hne := fun b (hb : w.heap.size + 1 < b) => heap_set3 (w := w') (B := w.heap.size + 1) (b := b) (by omega) (.bool N.neg) (.slice po N.an pc) (.slice qo N.am qc)
  have hres := Lib.hid (show NumQ (((w'.setCell ⟨w.heap.size + 1, 0, none⟩ (.bool N.neg)).setCell ⟨w.heap.size + 1, 1, none⟩ (.slice po N.an pc)).setCell ⟨w.heap.size + 1, 2, none⟩ (.slice qo N.am qc)) (w.heap.size ≤ ·) N (.bool N.neg) (.slice po N.an pc) (.slice qo N.am qc) from
    ⟨rfl, ⟨po, pc, rfl, hp1, hp2.keep (fun b hb _ => hne b (by omega)) (fun b hb _ => by omega), hlim.out⟩, ⟨qo, qc, rfl, hq1, hq2.keep (fun b hb _ => hne b (by omega)) (fun b hb _ => by omega), hlim'.out⟩⟩)
  clear z y0 bb hr1 hr2 hp1 hp2 hq1 hq2 hne
  go_wp2_with fail
  refine bodyPost_ret (v := .agg #[.bool N.neg, .slice po N.an pc, .slice qo N.am qc]) (by simp [results, Tryz.results46, go_sem, e0, e1, e2]) rfl ?_
  exact ⟨_, _, _, _, rfl, hres.out, hbw.out⟩

end Go.Proofs.YtmkjebembicljaaGreat

namespace Go.Proofs.YtmkjebembicljaaGreat
open Go.RowKit Num

/-- Which label another one becomes: the same; none; its join with the one that lies in a block. -/
inductive Md where
  | same

def Md.fn : Md → Value
  | .same => .func (.func 27) #[] #[]

def Md.g : Md → Nat → Nat
  | .same, x => x

def Md.Env (_ : World) : Md → Prop
  | _ => True

theorem Md.Env.later {w w' : World} {md : Md} (h : md.Env w) (_ : Below w.heap.size w w') : md.Env w' := h

theorem Md.g_is {w : World} {md : Md} (_ : md.Env w) {x : Nat} (hx : IsL x) : IsL (md.g x) := by
  cases md
  exact hx

def mapT (g : Nat → Nat) : Tree → Tree
  | .leaf => .leaf
  | .arr S n sh m L K C N k sub => .arr (g S) n sh m (fun i => g (L i)) K C N k (fun i j => mapT g (sub i j))

def mapC (g : Nat → Nat) (c : CellD) : CellD := ⟨g c.L, c.K, c.N, c.C, c.k, fun j => mapT g (c.sub j)⟩

def partsC (c : CellD) : Nat := 1 + c.N.an + c.N.am + sumN (fun j => partsT (c.sub j)) c.k

theorem map_same : ∀ A, mapT Md.same.g A = A := by
  intro A
  induction A with
  | leaf => rfl
  | arr S n sh m L K C N k sub ih =>
    have e : (fun i j => mapT Md.same.g (sub i j)) = sub := funext fun i => funext fun j => ih i j
    show Tree.arr S n sh m (fun i => L i) K C N k (fun i j => mapT Md.same.g (sub i j)) = _
    rw [e]

theorem mapC_same (c : CellD) : mapC Md.same.g c = c := by
  have e : (fun j => mapT Md.same.g (c.sub j)) = c.sub := funext fun j => map_same _
  show CellD.mk c.L c.K c.N c.C c.k (fun j => mapT Md.same.g (c.sub j)) = c
  rw [e]

set_option maxRecDepth 20000 in
theorem asItIs_any (x : Nat) (w : World) : Calls Tryz.prog 27 #[.int .u64 x] w (Tell (.int .u64 (Md.same.g x : Nat)) w) := by
  go_enter Tryz.func27, Tryz.ntmps27
  go_wp2_with fail
  go_ret
  exact ⟨rfl, Below.refl _ _⟩

/-- Cells as they lie, in the blocks that Q tells. -/
def CellRQ (w : World) (Q : Nat → Prop) (c : CellD) (e : Nat → Value) : Prop := CellQ w Q c.L c.K c.N c.C c.k (fun j d0 d1 d2 => ArrQ w Q (c.sub j) d0 d1 d2) e

def CellsQ (w : World) (Q : Nat → Prop) (co : Option Addr) (m : Nat) (cs : Nat → CellD) : Prop :=
  m = 0 ∨ ∃ b o, co = some ⟨b, o, none⟩ ∧ Q b ∧ ∀ i, i < m → ∃ e : Nat → Value, (∀ t, t < 7 → w.cell? ⟨b, o + i * 7 + t, none⟩ = some (e t)) ∧ CellRQ w Q (cs i) e

theorem CellRQ.keep {w w' : World} {Q Q' : Nat → Prop} {c : CellD} {e : Nat → Value} (h : CellRQ w Q c e) (hk : ∀ b, Q b → b < w.heap.size → w'.heap[b]? = w.heap[b]?) (hq : ∀ b, Q b → b < w.heap.size → Q' b) : CellRQ w' Q' c e :=
  CellQ.keep h hk hq fun _ d0 d1 d2 hd => ArrQ.keep hk hq _ d0 d1 d2 hd

def TreeNew (T : Tree) (w : World) (e : Ending) (w' : World) : Prop := ∃ d0 d1 d2, e = .returned (.agg #[d0, d1, d2]) ∧ ArrQ w' (w.heap.size ≤ ·) T d0 d1 d2 ∧ Below w.heap.size w w'

def CellNew (c : CellD) (w : World) (e : Ending) (w' : World) : Prop := ∃ v : Nat → Value, e = .returned (.agg #[v 0, v 1, v 2, v 3, v 4, v 5, v 6]) ∧ CellRQ w' (w.heap.size ≤ ·) c v ∧ Below w.heap.size w w'

def CellsNew (m : Nat) (cs : Nat → CellD) (w : World) (e : Ending) (w' : World) : Prop := ∃ co mc, e = .returned (.slice co m mc) ∧ IsN m mc ∧ CellsQ w' (w.heap.size ≤ ·) co m cs ∧ Below w.heap.size w w'

/-- The seven values of a cell. -/
def seven (v : Nat → Value) : List Value := [v 0, v 1, v 2, v 3, v 4, v 5, v 6]

theorem TreeNew.form {T : Tree} {w w' : World} {e : Ending} (h : TreeNew T w e w') : ∃ (S n nc m mc : Nat) (ao co : Option Addr),
    e = .returned (.agg #[.int .u64 S, .slice ao n nc, .slice co m mc]) ∧ ArrQ w' (w.heap.size ≤ ·) T (.int .u64 S) (.slice ao n nc) (.slice co m mc) ∧ Below w.heap.size w w' := by
  obtain ⟨d0, d1, d2, rfl, hA, hb⟩ := h
  obtain ⟨S, n, nc, m, mc, ao, co, rfl, rfl, rfl⟩ := hA.form
  exact ⟨S, n, nc, m, mc, ao, co, rfl, hA, hb⟩

theorem CellNew.form {c : CellD} {w w' : World} {e : Ending} (h : CellNew c w e w') : ∃ (bo co io : Option Addr) (bc cc kc : Nat),
    e = .returned (.agg #[.int .u64 c.L, .int .i64 c.K, .bool c.N.neg, .slice bo c.N.an bc, .slice co c.N.am cc, .int .i64 c.C, .slice io c.k kc]) ∧
    CellRQ w' (w.heap.size ≤ ·) c (fun q => [Value.int .u64 c.L, .int .i64 c.K, .bool c.N.neg, .slice bo c.N.an bc, .slice co c.N.am cc, .int .i64 c.C, .slice io c.k kc].getD q undef) ∧ Below w.heap.size w w' := by
  obtain ⟨v, rfl, hv, hb⟩ := h
  obtain ⟨h0, hL, h1, hK, ⟨h2, ⟨ao, ac, h3, ha⟩, ⟨bo, bc, h4, hb'⟩⟩, h5, hC, io, kc, h6, hk, hrow⟩ := hv
  rw [h0, h1, h2, h3, h4, h5, h6]
  exact ⟨ao, bo, io, ac, bc, kc, rfl, ⟨rfl, hL, rfl, hK, ⟨rfl, ⟨ao, ac, rfl, ha⟩, ⟨bo, bc, rfl, hb'⟩⟩, rfl, hC, io, kc, rfl, hk, hrow⟩, hb⟩

def ArrBy (md : Md) (A : Tree) : Prop := ∀ (c0 c1 c2 : Value) (w : World), ArrP w A c0 c1 c2 → md.Env w → partsT A ≤ 5000 → Calls Tryz.prog 26 #[.agg #[c0, c1, c2], md.fn] w (TreeNew (mapT md.g A) w)

def CellBy (md : Md) (c : CellD) : Prop := ∀ (e : Nat → Value) (w : World), CellR w c e → md.Env w → partsC c ≤ 5000 → Calls Tryz.prog 28 #[.agg #[e 0, e 1, e 2, e 3, e 4, e 5, e 6], md.fn] w (CellNew (mapC md.g c) w)

def CellsBy (md : Md) (m : Nat) (cs : Nat → CellD) : Prop := ∀ (co : Option Addr) (mc : Nat) (w : World), IsN m mc → CellsP w co m cs → md.Env w → m ≤ 5000 → (∀ i, i < m → partsC (cs i) ≤ 5000) → Calls Tryz.prog 41 #[.slice co m mc, md.fn] w (CellsNew m (fun i => mapC md.g (cs i)) w)

theorem rowsN_at {es : Nat → List Value} {s m : Nat} (hl : ∀ i, i < m → (es i).length = s) (hs : 0 < s) (j : Nat) (hj : j < m * s) : (rowsN es m)[j]? = (es (j / s))[j % s]? := by
  have e : j / s * s + j % s = j := by rw [Nat.mul_comm]; exact Nat.div_add_mod j s
  have hd : j / s < m := by rw [Nat.div_lt_iff_lt_mul hs]; exact hj
  have := rowsN_get m hl (j / s) (j % s) hd (Nat.mod_lt _ hs)
  rwa [e] at this

/-- A row whose first t elements are put anew (as P tells), in blocks of their own. -/
structure Mapped (P : CellF) (w wr : World) (E : TypeId) (s g : Nat) (ao : Option Addr) (m cap t : Nat) (es es0 : Nat → List Value) : Prop where
  row : wr.ownsRow w.heap.size E s (.slice ao m cap) m (rowsN es m)
  len : ∀ x, x < m → (es x).length = s
  done : ∀ x, x < t → P x wr (fun b => w.heap.size ≤ b ∧ b ≠ g) (fun q => (es x).getD q undef)
  todo : ∀ x, t ≤ x → x < m → es x = es0 x
  bel : Below w.heap.size w wr

theorem Mapped.later {P : CellF} (hP : KeepF P) {w wr w' : World} {E : TypeId} {s g : Nat} {ao : Option Addr} {m cap t : Nat} {es es0 : Nat → List Value} (h : Mapped P w wr E s g ao m cap t es es0) (hb : Below wr.heap.size wr w') : Mapped P w w' E s g ao m cap t es es0 :=
  ⟨owns_later h.row hb, h.len, fun x hx => hP x _ _ _ _ _ (h.done x hx) (fun b _ hlt => hb.block b hlt) (fun _ hq _ => hq), h.todo, h.bel.trans (hb.mono h.bel.size)⟩

theorem Mapped.put {P : CellF} (hP : KeepF P) {w wr W : World} {E : TypeId} {s g m cap t : Nat} {es es0 : Nat → List Value} (h : Mapped P w wr E s g (some ⟨g, 0, none⟩) m cap t es es0) (x : List Value) (hx : x.length = s) (hW : ∀ b, b ≠ g → W.heap[b]? = wr.heap[b]?)
    (hown : W.ownsRow w.heap.size E s (.slice (some ⟨g, 0, none⟩) m cap) m (rowsN (putL es t x) m)) (hbel : Below w.heap.size w W) (hnew : P t wr (fun b => w.heap.size ≤ b ∧ b ≠ g) (fun q => x.getD q undef)) :
    Mapped P w W E s g (some ⟨g, 0, none⟩) m cap (t + 1) (putL es t x) es0 := by
  refine ⟨hown, fun y hy => ?_, fun y hy => ?_, fun y hy1 hy2 => ?_, hbel⟩
  · unfold putL; split
    · exact hx
    · exact h.len y hy
  · by_cases e : y = t
    · subst e
      unfold putL; rw [if_pos rfl]
      exact hP y _ _ _ _ _ hnew (fun b hq _ => hW b hq.2) (fun _ hq _ => hq)
    · unfold putL; rw [if_neg e]
      exact hP y _ _ _ _ _ (h.done y (by omega)) (fun b hq _ => hW b hq.2) (fun _ hq _ => hq)
  · unfold putL; rw [if_neg (by omega)]; exact h.todo y (by omega) hy2

theorem Mapped.cell {P : CellF} {w wr : World} {E : TypeId} {s g m cap t : Nat} {es es0 : Nat → List Value} (h : Mapped P w wr E s g (some ⟨g, 0, none⟩) m cap t es es0) {q : Nat} (ht : t < m) (hq : q < s) {v : Value} (hv : (es0 t)[q]? = some v) : wr.cell? ⟨g, t * s + q, none⟩ = some v := by
  have hlt : t * s + q < m * s := by
    have := Nat.mul_le_mul_right s (show t + 1 ≤ m by omega)
    rw [Nat.succ_mul] at this
    omega
  rw [h.row.cellAt _ hlt, rowsN_get m h.len t q ht hq, h.todo t (Nat.le_refl _) ht, hv]

/-- Seven stores into a row are one element put anew. -/
theorem own_put7 {w : World} {B : Nat} {E : TypeId} {g m cap t : Nat} {es : Nat → List Value} (h : w.ownsRow B E 7 (.slice (some ⟨g, 0, none⟩) m cap) m (rowsN es m)) (hl : ∀ i, i < m → (es i).length = 7) (v0 v1 v2 v3 v4 v5 v6 : Value) :
    (((((((w.setCell ⟨g, t * 7, none⟩ v0).setCell ⟨g, t * 7 + 1, none⟩ v1).setCell ⟨g, t * 7 + 2, none⟩ v2).setCell ⟨g, t * 7 + 3, none⟩ v3).setCell ⟨g, t * 7 + 4, none⟩ v4).setCell ⟨g, t * 7 + 5, none⟩ v5).setCell ⟨g, t * 7 + 6, none⟩ v6).ownsRow B E 7 (.slice (some ⟨g, 0, none⟩) m cap) m (rowsN (putL es t [v0, v1, v2, v3, v4, v5, v6]) m) := by
  have k := ((((((((h.stored (t * 7) v0).1).stored (t * 7 + 1) v1).1).stored (t * 7 + 2) v2).1.stored (t * 7 + 3) v3).1.stored (t * 7 + 4) v4).1.stored (t * 7 + 5) v5).1.stored (t * 7 + 6) v6 |>.1
  have e : (((((((rowsN es m).set (t * 7) v0).set (t * 7 + 1) v1).set (t * 7 + 2) v2).set (t * 7 + 3) v3).set (t * 7 + 4) v4).set (t * 7 + 5) v5).set (t * 7 + 6) v6 = rowsN (putL es t [v0, v1, v2, v3, v4, v5, v6]) m := by
    have hl' : ∀ i, i < m → (putL es t [v0, v1, v2, v3, v4, v5, v6] i).length = 7 := fun i hi => by
      unfold putL; split
      · rfl
      · exact hl i hi
    have n1 := rowsN_length m hl; have n2 := rowsN_length m hl'
    refine List.ext_getElem? fun j => ?_
    by_cases hj : j < m * 7
    · rw [rowsN_at hl' (by decide) j hj]
      have ho := rowsN_at hl (by decide) j hj
      have hjl : j < (rowsN es m).length := by omega
      by_cases hd : j / 7 = t
      · have hr : j % 7 = 0 ∨ j % 7 = 1 ∨ j % 7 = 2 ∨ j % 7 = 3 ∨ j % 7 = 4 ∨ j % 7 = 5 ∨ j % 7 = 6 := by omega
        rw [hd]
        unfold putL
        rw [if_pos rfl]
        rcases hr with r | r | r | r | r | r | r
        · have e : j = t * 7 := by omega
          rw [r]; subst e; simp only [List.getElem?_set, List.length_set]; simp [hjl]
        · have e : j = t * 7 + 1 := by omega
          rw [r]; subst e; simp only [List.getElem?_set, List.length_set]; simp [hjl]
        · have e : j = t * 7 + 2 := by omega
          rw [r]; subst e; simp only [List.getElem?_set, List.length_set]; simp [hjl]
        · have e : j = t * 7 + 3 := by omega
          rw [r]; subst e; simp only [List.getElem?_set, List.length_set]; simp [hjl]
        · have e : j = t * 7 + 4 := by omega
          rw [r]; subst e; simp only [List.getElem?_set, List.length_set]; simp [hjl]
        · have e : j = t * 7 + 5 := by omega
          rw [r]; subst e; simp only [List.getElem?_set, List.length_set]; simp [hjl]
        · have e : j = t * 7 + 6 := by omega
          rw [r]; subst e; simp only [List.getElem?_set, List.length_set]; simp [hjl]
      · have hp : putL es t [v0, v1, v2, v3, v4, v5, v6] (j / 7) = es (j / 7) := by unfold putL; rw [if_neg hd]
        rw [hp, ← ho]
        simp only [List.getElem?_set]
        rw [if_neg (by omega), if_neg (by omega), if_neg (by omega), if_neg (by omega), if_neg (by omega), if_neg (by omega), if_neg (by omega)]
    · rw [List.getElem?_eq_none (by simp only [List.length_set]; omega), List.getElem?_eq_none (by omega)]
  rw [e] at k
  exact k

theorem own_put3 {w : World} {B : Nat} {E : TypeId} {g m cap t : Nat} {es : Nat → List Value} (h : w.ownsRow B E 3 (.slice (some ⟨g, 0, none⟩) m cap) m (rowsN es m)) (hl : ∀ i, i < m → (es i).length = 3) (v0 v1 v2 : Value) :
    (((w.setCell ⟨g, t * 3, none⟩ v0).setCell ⟨g, t * 3 + 1, none⟩ v1).setCell ⟨g, t * 3 + 2, none⟩ v2).ownsRow B E 3 (.slice (some ⟨g, 0, none⟩) m cap) m (rowsN (putL es t [v0, v1, v2]) m) := by
  have k := ((((h.stored (t * 3) v0).1).stored (t * 3 + 1) v1).1).stored (t * 3 + 2) v2 |>.1
  have e : (((rowsN es m).set (t * 3) v0).set (t * 3 + 1) v1).set (t * 3 + 2) v2 = rowsN (putL es t [v0, v1, v2]) m := by
    have hl' : ∀ i, i < m → (putL es t [v0, v1, v2] i).length = 3 := fun i hi => by
      unfold putL; split
      · rfl
      · exact hl i hi
    have n1 := rowsN_length m hl; have n2 := rowsN_length m hl'
    refine List.ext_getElem? fun j => ?_
    by_cases hj : j < m * 3
    · rw [rowsN_at hl' (by decide) j hj]
      have ho := rowsN_at hl (by decide) j hj
      have hjl : j < (rowsN es m).length := by omega
      by_cases hd : j / 3 = t
      · have hr : j % 3 = 0 ∨ j % 3 = 1 ∨ j % 3 = 2 := by omega
        rw [hd]
        unfold putL
        rw [if_pos rfl]
        rcases hr with r | r | r
        · have e : j = t * 3 := by omega
          rw [r]; subst e; simp only [List.getElem?_set, List.length_set]; simp [hjl]
        · have e : j = t * 3 + 1 := by omega
          rw [r]; subst e; simp only [List.getElem?_set, List.length_set]; simp [hjl]
        · have e : j = t * 3 + 2 := by omega
          rw [r]; subst e; simp only [List.getElem?_set, List.length_set]; simp [hjl]
      · have hp : putL es t [v0, v1, v2] (j / 3) = es (j / 3) := by unfold putL; rw [if_neg hd]
        rw [hp, ← ho]
        simp only [List.getElem?_set]
        rw [if_neg (by omega), if_neg (by omega), if_neg (by omega)]
    · rw [List.getElem?_eq_none (by simp only [List.length_set]; omega), List.getElem?_eq_none (by omega)]
  rw [e] at k
  exact k

theorem far7 {w : World} {g o b : Nat} (h : b ≠ g) (v0 v1 v2 v3 v4 v5 v6 : Value) :
    (((((((w.setCell ⟨g, o, none⟩ v0).setCell ⟨g, o + 1, none⟩ v1).setCell ⟨g, o + 2, none⟩ v2).setCell ⟨g, o + 3, none⟩ v3).setCell ⟨g, o + 4, none⟩ v4).setCell ⟨g, o + 5, none⟩ v5).setCell ⟨g, o + 6, none⟩ v6).heap[b]? = w.heap[b]? := by
  rw [Below.heap_setCell _ _ _ _ h, Below.heap_setCell _ _ _ _ h, Below.heap_setCell _ _ _ _ h, Below.heap_setCell _ _ _ _ h, Below.heap_setCell _ _ _ _ h, Below.heap_setCell _ _ _ _ h, Below.heap_setCell _ _ _ _ h]

theorem far3 {w : World} {g o b : Nat} (h : b ≠ g) (v0 v1 v2 : Value) : (((w.setCell ⟨g, o, none⟩ v0).setCell ⟨g, o + 1, none⟩ v1).setCell ⟨g, o + 2, none⟩ v2).heap[b]? = w.heap[b]? := by
  rw [Below.heap_setCell _ _ _ _ h, Below.heap_setCell _ _ _ _ h, Below.heap_setCell _ _ _ _ h]

theorem below_far7 {w w' : World} {A g o : Nat} (h : Below A w w') (hg : A ≤ g) (v0 v1 v2 v3 v4 v5 v6 : Value) :
    Below A w (((((((w'.setCell ⟨g, o, none⟩ v0).setCell ⟨g, o + 1, none⟩ v1).setCell ⟨g, o + 2, none⟩ v2).setCell ⟨g, o + 3, none⟩ v3).setCell ⟨g, o + 4, none⟩ v4).setCell ⟨g, o + 5, none⟩ v5).setCell ⟨g, o + 6, none⟩ v6) :=
  ((((((h.setCell (p := ⟨g, o, none⟩) hg v0).setCell (p := ⟨g, o + 1, none⟩) hg v1).setCell (p := ⟨g, o + 2, none⟩) hg v2).setCell (p := ⟨g, o + 3, none⟩) hg v3).setCell (p := ⟨g, o + 4, none⟩) hg v4).setCell (p := ⟨g, o + 5, none⟩) hg v5).setCell (p := ⟨g, o + 6, none⟩) hg v6

theorem below_far3 {w w' : World} {A g o : Nat} (h : Below A w w') (hg : A ≤ g) (v0 v1 v2 : Value) : Below A w (((w'.setCell ⟨g, o, none⟩ v0).setCell ⟨g, o + 1, none⟩ v1).setCell ⟨g, o + 2, none⟩ v2) :=
  ((h.setCell (p := ⟨g, o, none⟩) hg v0).setCell (p := ⟨g, o + 1, none⟩) hg v1).setCell (p := ⟨g, o + 2, none⟩) hg v2

/-- Cells that came, each by its values. -/
theorem CellsP.vals {w : World} {co : Option Addr} {m : Nat} {cs : Nat → CellD} (h : CellsP w co m cs) : ∃ E : Nat → Nat → Value, (∀ i, i < m → CellR w (cs i) (E i)) ∧ LiesL w co (rowsN (fun i => seven (E i)) m) := by
  rcases h with rfl | ⟨b, o, rfl, h⟩
  · exact ⟨fun _ _ => undef, fun i hi => by omega, .inl rfl⟩
  · refine ⟨fun i => if hi : i < m then (h i hi).choose else fun _ => undef, fun i hi => ?_, .inr ⟨b, o, rfl, fun j u hu => ?_⟩⟩
    · simp only [dif_pos hi]; exact (h i hi).choose_spec.2
    · have hl : ∀ i, i < m → ((fun i => seven ((fun i => if hi : i < m then (h i hi).choose else fun _ => undef) i)) i).length = 7 := fun i hi => rfl
      have hj : j < m * 7 := by
        have := (List.getElem?_eq_some_iff.1 hu).1
        rwa [rowsN_length m hl] at this
      rw [rowsN_at hl (by decide) j hj] at hu
      have hd : j / 7 < m := by omega
      have hc := (h (j / 7) hd).choose_spec.1
      have e : o + j = o + j / 7 * 7 + j % 7 := by omega
      rw [e, hc (j % 7) (by omega), ← hu]
      simp only [dif_pos hd]
      have hr : j % 7 = 0 ∨ j % 7 = 1 ∨ j % 7 = 2 ∨ j % 7 = 3 ∨ j % 7 = 4 ∨ j % 7 = 5 ∨ j % 7 = 6 := by omega
      rcases hr with r | r | r | r | r | r | r <;> rw [r] <;> rfl

theorem CellR.ones {w : World} {c : CellD} {e : Nat → Value} (h : CellR w c e) : ∀ u ∈ seven e, u.oneCell' = true := by
  obtain ⟨h0, hL, h1, hK, ⟨h2, ⟨ao, ac, h3, ha⟩, ⟨bo, bc, h4, hb'⟩⟩, h5, hC, io, kc, h6, hk, hrow⟩ := h
  intro u hu
  unfold seven at hu
  rw [h0, h1, h2, h3, h4, h5, h6] at hu
  simp at hu
  rcases hu with rfl | rfl | rfl | rfl | rfl | rfl | rfl <;> rfl

theorem rows_ones {es : Nat → List Value} {m : Nat} (h : ∀ i, i < m → ∀ u ∈ es i, u.oneCell' = true) : ∀ u ∈ rowsN es m, u.oneCell' = true := by
  intro u hu
  obtain ⟨i, hi, hu⟩ := List.mem_flatMap.1 hu
  exact h i (List.mem_range.1 hi) u hu

def cellsF (cs : Nat → CellD) : CellF := fun x w Q e => CellRQ w Q (cs x) e

theorem cellsF_keep (cs : Nat → CellD) : KeepF (cellsF cs) := fun _ _ _ _ _ _ h hk hq => h.keep hk hq

end Go.Proofs.YtmkjebembicljaaGreat

namespace Go.Proofs.YtmkjebembicljaaGreat
open Go.RowKit Num

theorem Mapped.start {P : CellF} {w w' : World} {E : TypeId} {s g : Nat} {ao : Option Addr} {m cap : Nat} {es : Nat → List Value} (h : Row w' w.heap.size E s ao m cap (rowsN es m)) (hl : ∀ i, i < m → (es i).length = s) (hb : Below w.heap.size w w') : Mapped P w w' E s g ao m cap 0 es es :=
  ⟨h.own, hl, fun _ hx => absurd hx (Nat.not_lt_zero _), fun _ _ _ => rfl, hb⟩

theorem Mapped.cellsQ {w wr : World} {E : TypeId} {g m cap : Nat} {ao : Option Addr} {es es0 : Nat → List Value} {cs : Nat → CellD} (h : Mapped (cellsF cs) w wr E 7 g ao m cap m es es0) : CellsQ wr (w.heap.size ≤ ·) ao m cs := by
  obtain ⟨ao', cap', e, _, _, hf⟩ := own_form h.row
  injection e with e1 e2 e3
  subst e1; subst e3
  rcases hf with h0 | ⟨g', rfl, _, hg, _⟩
  · exact .inl h0
  · refine .inr ⟨g', 0, rfl, hg, fun i hi => ?_⟩
    refine ⟨fun q => (es i).getD q undef, fun q hq => ?_, (h.done i hi).keep (fun _ _ _ => rfl) fun _ hq _ => hq.1⟩
    have hlt : i * 7 + q < m * 7 := by omega
    rw [Nat.zero_add, h.row.cellAt (i * 7 + q) hlt, rowsN_get m h.len i q hi hq]
    show (es i)[q]? = some ((es i).getD q undef)
    have := h.len i hi
    rw [List.getD_eq_getElem?_getD, List.getElem?_eq_getElem (by omega)]
    rfl

set_option maxRecDepth 20000 in
set_option maxHeartbeats 4000000 in
theorem cellsBy_of (md : Md) (m : Nat) (cs : Nat → CellD) (hcs : ∀ i, i < m → CellBy md (cs i)) : CellsBy md m cs := by
  intro co mc w hm hc hE h50 hp
  obtain ⟨E, hE1, hE2⟩ := hc.vals
  have m1 := hm.1; have m2 := hm.2.1
  have hcs' := Lib.hid hcs; have hE1' := Lib.hid hE1; have hE2' := Lib.hid hE2; have hp' := Lib.hid hp; have hEnv := Lib.hid hE
  have hl : ∀ i, i < m → ((fun i => seven (E i)) i).length = 7 := fun _ _ => rfl
  obtain ⟨F, hF⟩ : ∃ F, F = md.fn := ⟨_, rfl⟩
  have hF' := Lib.hid hF
  rw [← hF]
  clear hcs hc hE hE1 hE2 hp hF hm
  go_enter Tryz.func41, Tryz.ntmps41
  go_wp2_with fail
  refine (cloneC_any co m mc (rowsN (fun i => seven (E i)) m) _ (by omega) (rowsN_length m hl) hE2'.out (rows_ones fun i hi => (hE1'.out i hi).ones)).mono ?_
  rintro e w1 ⟨ao, cap, rfl, hrow, hb1⟩
  obtain ⟨ao', cap', e', hcap1, hcap2, hform⟩ := own_form hrow.own
  injection e' with e1 e2 e3
  subst e1; subst e3
  obtain ⟨g, hg⟩ : ∃ g, m = 0 ∨ (ao = some ⟨g, 0, none⟩ ∧ w.heap.size ≤ g ∧ g < w1.heap.size) := by
    rcases hform with h | ⟨g, h1, _, h2, h3⟩
    · exact ⟨0, .inl h⟩
    · exact ⟨g, .inr ⟨h1, h2, h3⟩⟩
  have hP := cellsF_keep (fun i => mapC md.g (cs i))
  have hM0 := Lib.hid (Mapped.start (P := cellsF (fun i => mapC md.g (cs i))) (g := g) hrow hl hb1)
  have hg' := Lib.hid hg
  have hsz1 := Lib.hid (Nat.le_refl w1.heap.size)
  clear hform hrow hb1 hg
  go_wp2_with fail
  go_loopw [12] (fun i wr => ∃ (t : Nat) (es : Nat → List Value), t ≤ m ∧ i = .int .i64 t ∧ Hid (Mapped (cellsF (fun i => mapC md.g (cs i))) w wr 32 7 g ao m cap t es (fun i => seven (E i))) ∧ Hid (w1.heap.size ≤ wr.heap.size)) (fun i _ => m - (intOfZ i).toNat)
  case atStart => exact ⟨0, _, Nat.zero_le _, rfl, hM0, hsz1⟩
  case round =>
    obtain ⟨t, es, ht, rfl, hM, hsz⟩ := hrel
    clear hM0 hsz1
    by_cases hlt : t < m
    · rcases hg'.out with h0 | ⟨rfl, hg1, hg2⟩
      · omega
      have hR := hE1'.out t hlt
      have hRb := Lib.hid (hR.later hM.out.bel)
      obtain ⟨q0, qL, q1, qK, ⟨q2, ⟨a1, ac, q3, ha, _, _⟩, ⟨b1, bc, q4, hb', _, _⟩⟩, q5, qC, io, kc, q6, hk, _⟩ := hR
      have y0 := hM.out.cell (q := 0) hlt (by decide) (v := E t 0) rfl
      have y1 := hM.out.cell (q := 1) hlt (by decide) (v := E t 1) rfl
      have y2 := hM.out.cell (q := 2) hlt (by decide) (v := E t 2) rfl
      have y3 := hM.out.cell (q := 3) hlt (by decide) (v := E t 3) rfl
      have y4 := hM.out.cell (q := 4) hlt (by decide) (v := E t 4) rfl
      have y5 := hM.out.cell (q := 5) hlt (by decide) (v := E t 5) rfl
      have y6 := hM.out.cell (q := 6) hlt (by decide) (v := E t 6) rfl
      have hv := Lib.hid (show (Value.agg #[.int .u64 (cs t).L, .int .i64 (cs t).K, .bool (cs t).N.neg, .slice a1 (cs t).N.an ac, .slice b1 (cs t).N.am bc, .int .i64 (cs t).C, .slice io (cs t).k kc]) = .agg #[E t 0, E t 1, E t 2, E t 3, E t 4, E t 5, E t 6] from by rw [q0, q1, q2, q3, q4, q5, q6])
      have hq := Lib.hid (And.intro q0 (And.intro q1 (And.intro q2 (And.intro q3 (And.intro q4 (And.intro q5 q6))))))
      rw [q0, Nat.add_zero] at y0; rw [q1] at y1; rw [q2] at y2; rw [q3] at y3; rw [q4] at y4; rw [q5] at y5; rw [q6] at y6
      have hbz := (Below.refl wr.heap.size wr).alloc (Nat.le_refl _) (.cells #[.int .u64 (cs t).L, .int .i64 (cs t).K, .bool (cs t).N.neg, .slice a1 (cs t).N.an ac, .slice b1 (cs t).N.am bc, .int .i64 (cs t).C, .slice io (cs t).k kc] 32)
      have hM2 := hM.out.later hP hbz
      have hR2 := hRb.out.later hbz
      have hx7 := Box7.new (w := wr) (B := wr.heap.size) (.int .u64 (cs t).L) (.int .i64 (cs t).K) (.bool (cs t).N.neg) (.slice a1 (cs t).N.an ac) (.slice b1 (cs t).N.am bc) (.int .i64 (cs t).C) (.slice io (cs t).k kc) 32 rfl
      have hsz2 : w1.heap.size ≤ (wr.alloc (.cells #[.int .u64 (cs t).L, .int .i64 (cs t).K, .bool (cs t).N.neg, .slice a1 (cs t).N.an ac, .slice b1 (cs t).N.am bc, .int .i64 (cs t).C, .slice io (cs t).k kc] 32)).heap.size := Nat.le_trans hsz.out hbz.size
      obtain ⟨U, hU⟩ : ∃ U, U = wr.heap.size := ⟨_, rfl⟩
      clear q0 qL q1 qK q2 q3 q4 q5 qC q6 ha hb' hk
      go_upto_region 5 with fail
      rw [← hU] at hx7 ⊢
      refine told_wp (fun w' => Mapped (cellsF (fun i => mapC md.g (cs i))) w w' 32 7 g (some ⟨g, 0, none⟩) m cap t es (fun i => seven (E i)) ∧ CellR w' (cs t) (E t) ∧ Box7 w' U (.int .u64 (cs t).L) (.int .i64 (cs t).K) (.bool (cs t).N.neg) (.slice a1 (cs t).N.an ac) (.slice b1 (cs t).N.am bc) (.int .i64 (cs t).C) (.slice io (cs t).k kc) ∧ w1.heap.size ≤ w'.heap.size) ⟨hM2, hR2, hx7, hsz2⟩ ?_
      clear hM hRb hM2 hR2 hx7 hsz2 hbz y0 y1 y2 y3 y4 y5 y6 hU hsz
      rintro wa ⟨hMa, hRa, hxa, hsa⟩
      have g0 := hxa.c0; have g1 := hxa.c1; have g2 := hxa.c2; have g3 := hxa.c3; have g4 := hxa.c4; have g5 := hxa.c5; have g6 := hxa.c6
      have hM := Lib.hid hMa
      have hcall := Lib.hid (hcs'.out t hlt (E t) wa hRa (hEnv.out.later (by have := hMa.bel; exact this)) (hp'.out t hlt))
      have hga := Lib.hid (show g < wa.heap.size by omega)
      replace hcall := hcall.out
      rw [← hv.out, ← hF'.out] at hcall
      replace hcall := Lib.hid hcall
      clear hMa hRa hxa
      go_wp2_with fail
      refine hcall.out.mono ?_
      intro e w2 hnew
      obtain ⟨bo, co', io', bc', cc', kc', rfl, hres, hb2⟩ := hnew.form
      have hMb := hM.out.later hP hb2
      obtain ⟨q0, q1, q2, q3, q4, q5, q6⟩ := hq.out
      have y0 := hMb.cell (q := 0) hlt (by decide) (v := E t 0) rfl
      have y1 := hMb.cell (q := 1) hlt (by decide) (v := E t 1) rfl
      have y2 := hMb.cell (q := 2) hlt (by decide) (v := E t 2) rfl
      have y3 := hMb.cell (q := 3) hlt (by decide) (v := E t 3) rfl
      have y4 := hMb.cell (q := 4) hlt (by decide) (v := E t 4) rfl
      have y5 := hMb.cell (q := 5) hlt (by decide) (v := E t 5) rfl
      have y6 := hMb.cell (q := 6) hlt (by decide) (v := E t 6) rfl
      rw [q0, Nat.add_zero] at y0; rw [q1] at y1; rw [q2] at y2; rw [q3] at y3; rw [q4] at y4; rw [q5] at y5; rw [q6] at y6
      clear q0 q1 q2 q3 q4 q5 q6
      have f0 := hMb.row.frozenAt (t * 7); have f1 := hMb.row.frozenAt (t * 7 + 1); have f2 := hMb.row.frozenAt (t * 7 + 2); have f3 := hMb.row.frozenAt (t * 7 + 3)
      have f4 := hMb.row.frozenAt (t * 7 + 4); have f5 := hMb.row.frozenAt (t * 7 + 5); have f6 := hMb.row.frozenAt (t * 7 + 6)
      obtain ⟨X, hX⟩ : ∃ X : List Value, X = [.int .u64 (mapC md.g (cs t)).L, .int .i64 (mapC md.g (cs t)).K, .bool (mapC md.g (cs t)).N.neg, .slice bo (mapC md.g (cs t)).N.an bc', .slice co' (mapC md.g (cs t)).N.am cc', .int .i64 (mapC md.g (cs t)).C, .slice io' (mapC md.g (cs t)).k kc'] := ⟨_, rfl⟩
      have hfar := fun b (hb : b ≠ g) => far7 (w := w2) (o := t * 7) hb (.int .u64 (mapC md.g (cs t)).L) (.int .i64 (mapC md.g (cs t)).K) (.bool (mapC md.g (cs t)).N.neg) (.slice bo (mapC md.g (cs t)).N.an bc') (.slice co' (mapC md.g (cs t)).N.am cc') (.int .i64 (mapC md.g (cs t)).C) (.slice io' (mapC md.g (cs t)).k kc')
      have hput := own_put7 hMb.row hMb.len (t := t) (.int .u64 (mapC md.g (cs t)).L) (.int .i64 (mapC md.g (cs t)).K) (.bool (mapC md.g (cs t)).N.neg) (.slice bo (mapC md.g (cs t)).N.an bc') (.slice co' (mapC md.g (cs t)).N.am cc') (.int .i64 (mapC md.g (cs t)).C) (.slice io' (mapC md.g (cs t)).k kc')
      have hbel2 := below_far7 (o := t * 7) hMb.bel hg1 (.int .u64 (mapC md.g (cs t)).L) (.int .i64 (mapC md.g (cs t)).K) (.bool (mapC md.g (cs t)).N.neg) (.slice bo (mapC md.g (cs t)).N.an bc') (.slice co' (mapC md.g (cs t)).N.am cc') (.int .i64 (mapC md.g (cs t)).C) (.slice io' (mapC md.g (cs t)).k kc')
      have hM3 := Lib.hid (hMb.put hP _ rfl hfar hput hbel2 (hres.keep (fun _ _ _ => rfl) fun b hq _ => ⟨by have := hM.out.bel.size; omega, by have := hga.out; omega⟩))
      have hs3 := Lib.hid (show w1.heap.size ≤ _ from Nat.le_trans hsa (Nat.le_trans hb2.size (by simp [World.setCell] : w2.heap.size ≤ (((((((w2.setCell ⟨g, t * 7, none⟩ (.int .u64 (mapC md.g (cs t)).L)).setCell ⟨g, t * 7 + 1, none⟩ (.int .i64 (mapC md.g (cs t)).K)).setCell ⟨g, t * 7 + 2, none⟩ (.bool (mapC md.g (cs t)).N.neg)).setCell ⟨g, t * 7 + 3, none⟩ (.slice bo (mapC md.g (cs t)).N.an bc')).setCell ⟨g, t * 7 + 4, none⟩ (.slice co' (mapC md.g (cs t)).N.am cc')).setCell ⟨g, t * 7 + 5, none⟩ (.int .i64 (mapC md.g (cs t)).C)).setCell ⟨g, t * 7 + 6, none⟩ (.slice io' (mapC md.g (cs t)).k kc')).heap.size)))
      clear hX X hfar hput hbel2 hres hb2 hMb hM hcall hnew g0 g1 g2 g3 g4 g5 g6
      go_wp2_with fail
      go_roundw
      case rel => exact ⟨t + 1, _, by omega, by go_num, hM3, hs3⟩
      case measure => simp [intOfZ]; omega
    · obtain rfl : t = m := by omega
      have hfin := Lib.hid hM.out.cellsQ
      have hbf := Lib.hid hM.out.bel
      go_wp2_with fail
      go_ret
      exact ⟨_, _, rfl, ⟨hcap1, hcap2, by omega⟩, hfin.out, hbf.out⟩

end Go.Proofs.YtmkjebembicljaaGreat

namespace Go.Proofs.YtmkjebembicljaaGreat
open Go.RowKit Num

def three (v : Nat → Value) : List Value := [v 0, v 1, v 2]

/-- Arrays that came, each by its values. -/
theorem rows_vals {w : World} {ao : Option Addr} {k : Nat} {sub : Nat → Tree} (h : RowP w ao k fun j d0 d1 d2 => ArrP w (sub j) d0 d1 d2) : ∃ E : Nat → Nat → Value, (∀ j, j < k → ArrP w (sub j) (E j 0) (E j 1) (E j 2)) ∧ LiesL w ao (rowsN (fun j => three (E j)) k) := by
  rcases h with rfl | ⟨b, o, rfl, h⟩
  · exact ⟨fun _ _ => undef, fun j hj => by omega, .inl rfl⟩
  · have h' : ∀ j, j < k → ∃ v : Nat → Value, (∀ t, t < 3 → w.cell? ⟨b, o + j * 3 + t, none⟩ = some (v t)) ∧ ArrP w (sub j) (v 0) (v 1) (v 2) := fun j hj => by
      obtain ⟨d0, d1, d2, r0, r1, r2, r3⟩ := h j hj
      refine ⟨fun t => [d0, d1, d2].getD t undef, fun t ht => ?_, r3⟩
      have : t = 0 ∨ t = 1 ∨ t = 2 := by omega
      rcases this with rfl | rfl | rfl
      · exact r0
      · exact r1
      · exact r2
    refine ⟨fun i => if hi : i < k then (h' i hi).choose else fun _ => undef, fun i hi => ?_, .inr ⟨b, o, rfl, fun j u hu => ?_⟩⟩
    · simp only [dif_pos hi]; exact (h' i hi).choose_spec.2
    · have hl : ∀ i, i < k → ((fun i => three ((fun i => if hi : i < k then (h' i hi).choose else fun _ => undef) i)) i).length = 3 := fun i hi => rfl
      have hj : j < k * 3 := by
        have := (List.getElem?_eq_some_iff.1 hu).1
        rwa [rowsN_length k hl] at this
      rw [rowsN_at hl (by decide) j hj] at hu
      have hd : j / 3 < k := by omega
      have hc := (h' (j / 3) hd).choose_spec.1
      have e : o + j = o + j / 3 * 3 + j % 3 := by omega
      rw [e, hc (j % 3) (by omega), ← hu]
      simp only [dif_pos hd]
      have hr : j % 3 = 0 ∨ j % 3 = 1 ∨ j % 3 = 2 := by omega
      rcases hr with r | r | r <;> rw [r] <;> rfl

theorem arr_ones {w : World} {A : Tree} {e : Nat → Value} (h : ArrP w A (e 0) (e 1) (e 2)) : ∀ u ∈ three e, u.oneCell' = true := by
  obtain ⟨S, n, nc, m, mc, ao, co, h0, h1, h2⟩ := (ArrP.within _ _ _ _ h).form
  intro u hu
  unfold three at hu
  rw [h0, h1, h2] at hu
  simp at hu
  rcases hu with rfl | rfl | rfl <;> rfl

def arrsF (T : Nat → Tree) : CellF := fun x w Q e => ArrQ w Q (T x) (e 0) (e 1) (e 2)

theorem arrsF_keep (T : Nat → Tree) : KeepF (arrsF T) := fun _ _ _ _ _ _ h hk hq => ArrQ.keep hk hq _ _ _ _ h

/-- Arrays in a cell, in new blocks. -/
structure InRow (w : World) (B : Nat) (ao : Option Addr) (k : Nat) (T : Nat → Tree) : Prop where
  q : RowQ w (B ≤ ·) ao k fun j d0 d1 d2 => ArrQ w (B ≤ ·) (T j) d0 d1 d2

theorem InRow.later {w w' : World} {B : Nat} {ao : Option Addr} {k : Nat} {T : Nat → Tree} (h : InRow w B ao k T) (hb : Below w.heap.size w w') : InRow w' B ao k T :=
  ⟨h.q.keep (fun b _ hlt => hb.block b hlt) (fun _ hq _ => hq) fun _ _ _ _ hd => ArrQ.keep (fun b _ hlt => hb.block b hlt) (fun _ hq _ => hq) _ _ _ _ hd⟩

theorem Mapped.inRow {w wr : World} {E : TypeId} {g k cap B : Nat} {ao : Option Addr} {es es0 : Nat → List Value} {T : Nat → Tree} (h : Mapped (arrsF T) w wr E 3 g ao k cap k es es0) (hB : B ≤ w.heap.size) : InRow wr B ao k T := by
  obtain ⟨ao', cap', e, _, _, hf⟩ := own_form h.row
  injection e with e1 e2 e3
  subst e1; subst e3
  refine ⟨?_⟩
  rcases hf with h0 | ⟨g', rfl, _, hg, _⟩
  · exact .inl h0
  · refine .inr ⟨g', 0, rfl, by omega, fun i hi => ?_⟩
    have hc : ∀ q, q < 3 → wr.cell? ⟨g', 0 + i * 3 + q, none⟩ = some ((es i).getD q undef) := fun q hq => by
      have hlt : i * 3 + q < k * 3 := by omega
      rw [Nat.zero_add, h.row.cellAt (i * 3 + q) hlt, rowsN_get k h.len i q hi hq]
      have := h.len i hi
      rw [List.getD_eq_getElem?_getD, List.getElem?_eq_getElem (by omega)]
      rfl
    exact ⟨_, _, _, hc 0 (by decide), hc 1 (by decide), hc 2 (by decide), ArrQ.keep (fun _ _ _ => rfl) (fun b hq _ => by have := hq.1; omega) _ _ _ _ (h.done i hi)⟩

theorem cell_res {md : Md} {c : CellD} {w : World} {Q : Nat → Prop} {po qo ro : Option Addr} {pc qc rc : Nat} (hL : IsL (md.g c.L)) (hK : IsZ c.K) (hC : IsZ c.C) (hN : NumQ w Q c.N (.bool c.N.neg) (.slice po c.N.an pc) (.slice qo c.N.am qc)) (hr : IsN c.k rc)
    (hI : RowQ w Q ro c.k fun j d0 d1 d2 => ArrQ w Q (mapT md.g (c.sub j)) d0 d1 d2) : CellRQ w Q (mapC md.g c) (fun q => [Value.int .u64 (md.g c.L : Nat), .int .i64 c.K, .bool c.N.neg, .slice po c.N.an pc, .slice qo c.N.am qc, .int .i64 c.C, .slice ro c.k rc].getD q undef) :=
  ⟨rfl, hL, rfl, hK, hN, rfl, hC, ro, rc, rfl, hr, hI⟩

theorem partsC_sub {c : CellD} {j : Nat} (hj : j < c.k) : partsT (c.sub j) ≤ partsC c := by
  have a : partsT (c.sub j) ≤ sumN (fun j => partsT (c.sub j)) c.k := sumN_one (fun j => partsT (c.sub j)) hj
  unfold partsC
  omega

theorem partsC_here (c : CellD) : c.N.an + c.N.am + c.k ≤ partsC c := by
  have a := sumN_le (f := fun _ => 1) (g := fun j => partsT (c.sub j)) c.k fun j _ => parts_pos _
  rw [sumN_const] at a
  unfold partsC
  omega

set_option maxRecDepth 20000 in
set_option maxHeartbeats 8000000 in
theorem cellBy_of (md : Md) (c : CellD) (hsub : ∀ j, j < c.k → ArrBy md (c.sub j)) : CellBy md c := by
  intro e w hR hE hp
  have hRw := Lib.hid hR
  obtain ⟨q0, qL, q1, qK, hNum, q5, qC, io, kc, q6, hk, hrow⟩ := hR
  have hNw := hNum
  obtain ⟨q2, ⟨a1, ac, q3, ha, _, _⟩, ⟨b1, bc, q4, hb', _, _⟩⟩ := hNum
  rw [q2, q3, q4] at hNw
  rw [q0, q1, q2, q3, q4, q5, q6]
  have k1 := hk.1; have k2 := hk.2.1
  have hph := partsC_here c
  have hna : c.N.an ≤ 6000 := by omega
  have hnb : c.N.am ≤ 6000 := by omega
  have hk5 : c.k ≤ 6000 := by omega
  obtain ⟨E, hE1, hE2⟩ := rows_vals hrow
  have hl : ∀ i, i < c.k → ((fun i => three (E i)) i).length = 3 := fun _ _ => rfl
  have hE1' := Lib.hid hE1; have hE2' := Lib.hid hE2; have hsub' := Lib.hid hsub; have hEnv := Lib.hid hE; have hNw' := Lib.hid hNw
  have hsp := Lib.hid (fun j (hj : j < c.k) => Nat.le_trans (partsC_sub hj) hp)
  have hL0 := Lib.hid qL
  have hgl := Lib.hid (show IsL (md.g c.L) ∧ IsZ c.K ∧ IsZ c.C from ⟨Md.g_is hE qL, qK, qC⟩)
  obtain ⟨F, hF⟩ : ∃ F, F = md.fn := ⟨_, rfl⟩
  have hF' := Lib.hid hF
  rw [← hF]
  have hbel := (((Below.refl w.heap.size w).alloc (Nat.le_refl _) (.cells #[.int .u64 c.L, .int .i64 c.K, .bool c.N.neg, .slice a1 c.N.an ac, .slice b1 c.N.am bc, .int .i64 c.C, .slice io c.k kc] 32)).alloc (by simp) (.cells #[.int .u64 0, .int .i64 0, .bool false, .slice none 0 0, .slice none 0 0, .int .i64 0, .slice none 0 0] 32))
  have hx := (Box7.new (w := w) (B := w.heap.size) (.int .u64 c.L) (.int .i64 c.K) (.bool c.N.neg) (.slice a1 c.N.an ac) (.slice b1 c.N.am bc) (.int .i64 c.C) (.slice io c.k kc) 32 rfl).alloc (.cells #[.int .u64 0, .int .i64 0, .bool false, .slice none 0 0, .slice none 0 0, .int .i64 0, .slice none 0 0] 32)
  have hy := Box7.new (w := w.alloc (.cells #[.int .u64 c.L, .int .i64 c.K, .bool c.N.neg, .slice a1 c.N.an ac, .slice b1 c.N.am bc, .int .i64 c.C, .slice io c.k kc] 32)) (B := w.heap.size + 1) (.int .u64 0) (.int .i64 0) (.bool false) (.slice none 0 0) (.slice none 0 0) (.int .i64 0) (.slice none 0 0) 32 (by simp)
  clear q0 qL q1 qK q2 q3 q4 q5 qC q6 ha hb' hk hrow hsub hE hE1 hE2 hF hNw hRw hp hph
  go_enter Tryz.func28, Tryz.ntmps28
  go_upto_region 1 with fail
  refine told_wp (fun w' => Below w.heap.size w w' ∧ Box7 w' w.heap.size (.int .u64 c.L) (.int .i64 c.K) (.bool c.N.neg) (.slice a1 c.N.an ac) (.slice b1 c.N.am bc) (.int .i64 c.C) (.slice io c.k kc) ∧ Box7 w' (w.heap.size + 1) (.int .u64 0) (.int .i64 0) (.bool false) (.slice none 0 0) (.slice none 0 0) (.int .i64 0) (.slice none 0 0)) ⟨hbel, hx, hy⟩ ?_
  clear hbel hx hy
  rintro w2 ⟨b2, x2, y2⟩
  have hb2 := Lib.hid b2; have hx2 := Lib.hid x2; have hy2 := Lib.hid y2
  have hlt2 : w.heap.size + 1 < w2.heap.size := y2.lt
  have g6 := x2.c6
  have hsrc := Lib.hid (hE2'.out.below b2)
  clear b2 x2 y2
  go_wp2_with fail
  refine (cloneA_any io c.k kc (rowsN (fun i => three (E i)) c.k) _ hk5 (rowsN_length c.k hl) hsrc.out (rows_ones fun i hi => arr_ones (hE1'.out i hi))).mono ?_
  rintro e w1 ⟨ro, rc, rfl, hrow, hb1⟩
  obtain ⟨ao', cap', e', hcap1, hcap2, hform⟩ := own_form hrow.own
  injection e' with e1 e2 e3
  subst e1; subst e3
  obtain ⟨g, hg⟩ : ∃ g, c.k = 0 ∨ (ro = some ⟨g, 0, none⟩ ∧ w2.heap.size ≤ g ∧ g < w1.heap.size) := by
    rcases hform with h | ⟨g, h1, _, h2, h3⟩
    · exact ⟨0, .inl h⟩
    · exact ⟨g, .inr ⟨h1, h2, h3⟩⟩
  have hP := arrsF_keep (fun j => mapT md.g (c.sub j))
  have hM0 := Lib.hid (Mapped.start (P := arrsF (fun j => mapT md.g (c.sub j))) (g := g) hrow hl hb1)
  have hg' := Lib.hid hg
  have hsz1 := Lib.hid (Nat.le_refl w1.heap.size)
  have hrn := Lib.hid (show IsN c.k rc from ⟨hcap1, hcap2, by omega⟩)
  obtain ⟨kk, hkk⟩ : ∃ kk, kk = c.k := ⟨_, rfl⟩
  have hkk' := Lib.hid hkk
  rw [← hkk] at hM0 g6 hcap1 hg' k1 ⊢
  clear hform hrow hb1 hg g6 hkk hsrc
  go_wp2_with fail
  go_loopw [13] (fun i wr => ∃ (t : Nat) (es : Nat → List Value), t ≤ kk ∧ i = .int .i64 t ∧ Hid (Mapped (arrsF (fun j => mapT md.g (c.sub j))) w2 wr 26 3 g ro kk rc t es (fun i => three (E i))) ∧ Hid (w1.heap.size ≤ wr.heap.size)) (fun i _ => kk - (intOfZ i).toNat)
  case atStart => exact ⟨0, _, Nat.zero_le _, rfl, hM0, hsz1⟩
  case round =>
    obtain ⟨t, es, ht, rfl, hM, hsz⟩ := hrel
    clear hM0 hsz1
    by_cases hlt : t < kk
    · have hltc := Lib.hid (show t < c.k by rw [← hkk'.out]; exact hlt)
      rcases hg'.out with h0 | ⟨rfl, hg1, hg2⟩
      · omega
      have hA := hE1'.out t hltc.out
      obtain ⟨S', n', nc', m', mc', ao', co', q0, q1, q2⟩ := (ArrP.within _ _ _ _ hA).form
      rw [q0, q1, q2] at hA
      have hAb := Lib.hid (ArrP.below _ _ _ _ (ArrP.below _ _ _ _ hA hb2.out) (hM.out.bel))
      have y0 := hM.out.cell (q := 0) hlt (by decide) (v := E t 0) rfl
      have y1 := hM.out.cell (q := 1) hlt (by decide) (v := E t 1) rfl
      have y2 := hM.out.cell (q := 2) hlt (by decide) (v := E t 2) rfl
      have hq := Lib.hid (And.intro q0 (And.intro q1 q2))
      rw [q0, Nat.add_zero] at y0; rw [q1] at y1; rw [q2] at y2
      have hbz := (Below.refl wr.heap.size wr).alloc (Nat.le_refl _) (.cells #[.int .u64 S', .slice ao' n' nc', .slice co' m' mc'] 26)
      have hM2 := hM.out.later hP hbz
      have hA2 := ArrP.below _ _ _ _ hAb.out hbz
      have hx3 := Box3.new (w := wr) (B := wr.heap.size) (.int .u64 S') (.slice ao' n' nc') (.slice co' m' mc') 26 rfl
      have hsz2 : w1.heap.size ≤ (wr.alloc (.cells #[.int .u64 S', .slice ao' n' nc', .slice co' m' mc'] 26)).heap.size := Nat.le_trans hsz.out hbz.size
      obtain ⟨U, hU⟩ : ∃ U, U = wr.heap.size := ⟨_, rfl⟩
      clear q0 q1 q2 hA
      go_upto_region 5 with fail
      rw [← hU] at hx3 ⊢
      refine told_wp (fun w' => Mapped (arrsF (fun j => mapT md.g (c.sub j))) w2 w' 26 3 g (some ⟨g, 0, none⟩) kk rc t es (fun i => three (E i)) ∧ ArrP w' (c.sub t) (.int .u64 S') (.slice ao' n' nc') (.slice co' m' mc') ∧ Box3 w' U (.int .u64 S') (.slice ao' n' nc') (.slice co' m' mc') ∧ w1.heap.size ≤ w'.heap.size) ⟨hM2, hA2, hx3, hsz2⟩ ?_
      clear hM hAb hM2 hA2 hx3 hsz2 hbz y0 y1 y2 hU hsz
      rintro wa ⟨hMa, hAa, hxa, hsa⟩
      have g0 := hxa.c0; have g1 := hxa.c1; have g2 := hxa.c2
      have hM := Lib.hid hMa
      have hcall := hsub'.out t hltc.out _ _ _ wa hAa ((hEnv.out.later hb2.out).later hMa.bel) (hsp.out t hltc.out)
      have hga := Lib.hid (show g < wa.heap.size by omega)
      rw [← hF'.out] at hcall
      replace hcall := Lib.hid hcall
      clear hMa hAa hxa
      go_wp2_with fail
      refine hcall.out.mono ?_
      intro e w4 hnew
      obtain ⟨S5, n5, nc5, m5, mc5, ao5, co5, rfl, hres, hb4⟩ := hnew.form
      have hMb := hM.out.later hP hb4
      obtain ⟨q0, q1, q2⟩ := hq.out
      have y0 := hMb.cell (q := 0) hlt (by decide) (v := E t 0) rfl
      have y1 := hMb.cell (q := 1) hlt (by decide) (v := E t 1) rfl
      have y2 := hMb.cell (q := 2) hlt (by decide) (v := E t 2) rfl
      rw [q0, Nat.add_zero] at y0; rw [q1] at y1; rw [q2] at y2
      clear q0 q1 q2
      have f0 := hMb.row.frozenAt (t * 3); have f1 := hMb.row.frozenAt (t * 3 + 1); have f2 := hMb.row.frozenAt (t * 3 + 2)
      have hfar := fun b (hb : b ≠ g) => far3 (w := w4) (o := t * 3) hb (.int .u64 (S5 : Nat)) (.slice ao5 n5 nc5) (.slice co5 m5 mc5)
      have hput := own_put3 hMb.row hMb.len (t := t) (.int .u64 (S5 : Nat)) (.slice ao5 n5 nc5) (.slice co5 m5 mc5)
      have hbel2 := below_far3 (o := t * 3) hMb.bel hg1 (.int .u64 (S5 : Nat)) (.slice ao5 n5 nc5) (.slice co5 m5 mc5)
      have hM3 := Lib.hid (hMb.put hP _ rfl hfar hput hbel2 (ArrQ.keep (Q' := fun b => w2.heap.size ≤ b ∧ b ≠ g) (fun _ _ _ => rfl) (fun b hq _ => ⟨by have := hM.out.bel.size; omega, by have := hga.out; omega⟩) _ _ _ _ hres))
      have hs3 := Lib.hid (show w1.heap.size ≤ _ from Nat.le_trans hsa (Nat.le_trans hb4.size (by simp [World.setCell] : w4.heap.size ≤ (((w4.setCell ⟨g, t * 3, none⟩ (.int .u64 (S5 : Nat))).setCell ⟨g, t * 3 + 1, none⟩ (.slice ao5 n5 nc5)).setCell ⟨g, t * 3 + 2, none⟩ (.slice co5 m5 mc5)).heap.size)))
      clear hfar hput hbel2 hres hb4 hMb hM hcall hnew g0 g1 g2
      go_wp2_with fail
      go_roundw
      case rel => exact ⟨t + 1, _, by omega, by go_num, hM3, hs3⟩
      case measure => simp [intOfZ]; omega
    · obtain rfl : t = kk := by omega
      have hmb := hM.out.bel
      have hI0 := hM.out.inRow (B := w.heap.size + 2) (by omega)
      have hx3 := hx2.out.later hmb
      have hy3 := hy2.out.later hmb
      have hb3 := hb2.out.trans (hmb.mono (by omega))
      have hN3 := (hNw'.out.below hb2.out).below hmb
      have hE3 := (hEnv.out.later hb2.out).later hmb
      rw [hkk'.out] at hI0
      obtain rfl := hkk'.out
      go_upto_region 7 with fail
      refine told_wp (fun w' => Below w.heap.size w w' ∧ Box7 w' w.heap.size (.int .u64 c.L) (.int .i64 c.K) (.bool c.N.neg) (.slice a1 c.N.an ac) (.slice b1 c.N.am bc) (.int .i64 c.C) (.slice io c.k kc) ∧ Box7 w' (w.heap.size + 1) (.int .u64 0) (.int .i64 0) (.bool false) (.slice none 0 0) (.slice none 0 0) (.int .i64 0) (.slice none 0 0) ∧ NumP w' c.N (.bool c.N.neg) (.slice a1 c.N.an ac) (.slice b1 c.N.am bc) ∧ InRow w' (w.heap.size + 2) ro c.k (fun j => mapT md.g (c.sub j)) ∧ md.Env w') ⟨hb3, hx3, hy3, hN3, hI0, hE3⟩ ?_
      clear hM hmb hI0 hx3 hy3 hb3 hN3 hE3 hsz
      rintro w3 ⟨bb, x, y, hN, hI, hEv⟩
      cases md with
      | same =>
        obtain rfl : F = .func (.func 27) #[] #[] := hF'.out
        have ssamex0 := True.intro
        go_region_held3 (fun w' => w'.cell? ⟨w.heap.size, 0, none⟩ = some (.int .u64 c.L) ∧ w'.cell? ⟨w.heap.size, 1, none⟩ = some (.int .i64 c.K) ∧ w'.cell? ⟨w.heap.size, 2, none⟩ = some (.bool c.N.neg) ∧ w'.cell? ⟨w.heap.size, 3, none⟩ = some (.slice a1 c.N.an ac) ∧ w'.cell? ⟨w.heap.size, 4, none⟩ = some (.slice b1 c.N.am bc) ∧ w'.cell? ⟨w.heap.size, 5, none⟩ = some (.int .i64 c.C))
          (first | with_reducible exact ⟨x.drew.c0, x.drew.c1, x.drew.c2, x.drew.c3, x.drew.c4, x.drew.c5⟩ | with_reducible exact ⟨x.c0, x.c1, x.c2, x.c3, x.c4, x.c5⟩ | go_keep)
          (first
          | (go_at_call 27; clear ssamex0; have hd := (Below.refl w3.heap.size w3).drew; have bb := bb.drew; have x := x.drew; have y := y.drew; have hN := hN.below hd; have hI := hI.later hd; have hEv := hEv.later hd; clear hd; refine (asItIs_any c.L _).mono ?_; rintro e w' ⟨rfl, hb⟩; have bb := below_then bb (Nat.le_refl _) hb; have x := x.later hb; have y := y.later hb; have hN := hN.below hb; have hI := hI.later hb; clear hb hEv; have ssamex1 := True.intro)
          | (go_at_call 46; clear ssamex1; have hlt1 := y.lt; refine (numAnew_any c.N _ _ _ _ hN hna hnb).mono ?_; rintro e w' ⟨po, pc, qo, qc, rfl, hQ, hb⟩; have bb := below_then bb (Nat.le_refl _) hb; have x := x.later hb; have y := y.later hb; have hI := hI.later hb; clear hb hN; have d0 := y.c0; have d1 := y.c1; have d2 := y.c2; have d3 := y.c3; have d4 := y.c4; have d5 := y.c5; have d6 := y.c6; have f0 := y.fr 0; have f1 := y.fr 1; have f2 := y.fr 2; have f3 := y.fr 3; have f4 := y.fr 4; have f5 := y.fr 5; have f6 := y.fr 6; have ssamex2 := True.intro))
        have z := y.setAll (.int .u64 (Md.same.g c.L : Nat)) (.int .i64 c.K) (.bool c.N.neg) (.slice po c.N.an pc) (.slice qo c.N.am qc) (.int .i64 c.C) (.slice ro c.k rc)
        have e0 := z.c0; have e1 := z.c1; have e2 := z.c2; have e3 := z.c3; have e4 := z.c4; have e5 := z.c5; have e6 := z.c6
        have hbw := Lib.hid (below_setAll bb (B := w.heap.size + 1) (by omega) (.int .u64 (Md.same.g c.L : Nat)) (.int .i64 c.K) (.bool c.N.neg) (.slice po c.N.an pc) (.slice qo c.N.am qc) (.int .i64 c.C) (.slice ro c.k rc))
        have hne := fun b (hb : w.heap.size + 2 ≤ b) => heap_set7 (w := w') (B := w.heap.size + 1) (b := b) (by omega) (.int .u64 (Md.same.g c.L : Nat)) (.int .i64 c.K) (.bool c.N.neg) (.slice po c.N.an pc) (.slice qo c.N.am qc) (.int .i64 c.C) (.slice ro c.k rc)
        have hres := Lib.hid (cell_res (md := .same) hgl.out.1 hgl.out.2.1 hgl.out.2.2 (hQ.keep (Q' := (w.heap.size ≤ ·)) (fun b hb _ => hne b (by omega)) (fun b hb _ => by omega)) hrn.out (hI.q.keep (Q' := (w.heap.size ≤ ·)) (fun b hb _ => hne b hb) (fun b hb _ => by omega) (fun j d0 d1 d2 hd => ArrQ.keep (fun b hb _ => hne b hb) (fun b hb _ => by omega) _ _ _ _ hd)))
        clear z x y bb hI hQ hne
        go_wp2_with fail
        refine bodyPost_ret (v := .agg #[.int .u64 (Md.same.g c.L : Nat), .int .i64 c.K, .bool c.N.neg, .slice po c.N.an pc, .slice qo c.N.am qc, .int .i64 c.C, .slice ro c.k rc]) (by simp [results, Tryz.results28, go_sem, e0, e1, e2, e3, e4, e5, e6]) rfl ?_
        exact ⟨fun q => [Value.int .u64 (Md.same.g c.L : Nat), .int .i64 c.K, .bool c.N.neg, .slice po c.N.an pc, .slice qo c.N.am qc, .int .i64 c.C, .slice ro c.k rc].getD q undef, rfl, hres.out, hbw.out⟩
end Go.Proofs.YtmkjebembicljaaGreat

namespace Go.Proofs.YtmkjebembicljaaGreat
open Go.RowKit Num

theorem CellsQ.keep {w w' : World} {Q Q' : Nat → Prop} {co : Option Addr} {m : Nat} {cs : Nat → CellD} (h : CellsQ w Q co m cs) (hk : ∀ b, Q b → b < w.heap.size → w'.heap[b]? = w.heap[b]?) (hq : ∀ b, Q b → b < w.heap.size → Q' b) : CellsQ w' Q' co m cs := by
  by_cases h0 : m = 0
  · exact .inl h0
  rcases h with h | ⟨b, o, rfl, h1, h2⟩
  · exact .inl h
  · have hb : b < w.heap.size := by
      obtain ⟨e, h3, _⟩ := h2 0 (by omega)
      exact World.block_lt_of_cell? w _ (h3 0 (by decide))
    refine .inr ⟨b, o, rfl, hq b h1 hb, fun i hi => ?_⟩
    obtain ⟨e, h3, h4⟩ := h2 i hi
    exact ⟨e, fun t ht => cell_kept (h3 t ht) (hk b h1 hb), h4.keep hk hq⟩

theorem arr_res {md : Md} {S n m : Nat} {sh : Nat → Int} {L : Nat → Nat} {K C : Nat → Int} {N : Nat → NumF} {k : Nat → Nat} {sub : Nat → Nat → Tree} {w : World} {Q : Nat → Prop} {po qo : Option Addr} {pc qc : Nat} (hS : IsL (md.g S)) (hz : ∀ j, j < n → IsZ (sh j)) (hn : IsN n pc) (hs : SlZQ w Q po n sh) (hm : IsN m qc)
    (hc : CellsQ w Q qo m (fun i => mapC md.g ((fun i => ⟨L i, K i, N i, C i, k i, sub i⟩) i))) : ArrQ w Q (mapT md.g (.arr S n sh m L K C N k sub)) (.int .u64 (md.g S : Nat)) (.slice po n pc) (.slice qo m qc) :=
  ⟨rfl, hS, ⟨po, pc, rfl, hn, hs, hz⟩, qo, qc, rfl, hm, hc⟩

theorem partsC_in {S n m : Nat} {sh : Nat → Int} {L : Nat → Nat} {K C : Nat → Int} {N : Nat → NumF} {k : Nat → Nat} {sub : Nat → Nat → Tree} {i : Nat} (hi : i < m) : partsC ((fun i => ⟨L i, K i, N i, C i, k i, sub i⟩) i) ≤ partsT (.arr S n sh m L K C N k sub) := by
  have b := sumN_one (fun i => 1 + (N i).an + (N i).am + sumN (fun j => partsT (sub i j)) (k i)) hi
  show 1 + (N i).an + (N i).am + sumN (fun j => partsT (sub i j)) (k i) ≤ 1 + n + sumN (fun i => 1 + (N i).an + (N i).am + sumN (fun j => partsT (sub i j)) (k i)) m
  have b' : 1 + (N i).an + (N i).am + sumN (fun j => partsT (sub i j)) (k i) ≤ sumN (fun i => 1 + (N i).an + (N i).am + sumN (fun j => partsT (sub i j)) (k i)) m := b
  omega

set_option maxRecDepth 20000 in
set_option maxHeartbeats 8000000 in
theorem arrayBy_of (md : Md) (S n : Nat) (sh : Nat → Int) (m : Nat) (L : Nat → Nat) (K C : Nat → Int) (N : Nat → NumF) (k : Nat → Nat) (sub : Nat → Nat → Tree) (h : CellsBy md m (fun i => ⟨L i, K i, N i, C i, k i, sub i⟩)) : ArrBy md (.arr S n sh m L K C N k sub) := by
  intro c0 c1 c2 w hA hE hp
  obtain ⟨rfl, hS, ⟨ao, nc, rfl, hn, hsh, hz⟩, co, mc, rfl, hm, hc⟩ := hA
  have n1 := hn.1; have n2 := hn.2.1; have m1 := hm.1; have m2 := hm.2.1
  have hph := parts_here (S := S) (n := n) (m := m) (sh := sh) (L := L) (K := K) (C := C) (N := N) (k := k) (sub := sub)
  have hm50 : m ≤ 5000 := by omega
  have hn6 : n ≤ 6000 := by omega
  have hp' := Lib.hid (show ∀ i, i < m → partsC ((fun i => ⟨L i, K i, N i, C i, k i, sub i⟩) i) ≤ 5000 from fun i hi => Nat.le_trans (partsC_in hi) hp)
  have hgl := Lib.hid (show IsL (md.g S) ∧ ∀ j, j < n → IsZ (sh j) from ⟨Md.g_is hE hS, hz⟩)
  have hL0 := Lib.hid hS; have hmn := Lib.hid hm
  obtain ⟨F, hF⟩ : ∃ F, F = md.fn := ⟨_, rfl⟩
  have hF' := Lib.hid hF
  rw [← hF]
  have hbel := (((Below.refl w.heap.size w).alloc (Nat.le_refl _) (.cells #[.int .u64 S, .slice ao n nc, .slice co m mc] 26)).alloc (by simp) (.cells #[.int .u64 0, .slice none 0 0, .slice none 0 0] 26))
  have hx := (Box3.new (w := w) (B := w.heap.size) (.int .u64 S) (.slice ao n nc) (.slice co m mc) 26 rfl).alloc (.cells #[.int .u64 0, .slice none 0 0, .slice none 0 0] 26)
  have hy := Box3.new (w := w.alloc (.cells #[.int .u64 S, .slice ao n nc, .slice co m mc] 26)) (B := w.heap.size + 1) (.int .u64 0) (.slice none 0 0) (.slice none 0 0) 26 (by simp)
  have hs0 := Lib.hid hsh
  have hc0 : Hid (CellsP w co m (fun i => ⟨L i, K i, N i, C i, k i, sub i⟩)) := Lib.hid hc
  have hE0 := Lib.hid hE
  have h' := h
  clear hph hp hn hm hsh hz hc hE hS hF
  go_enter Tryz.func26, Tryz.ntmps26
  go_upto_region 1 with fail
  refine told_wp (fun w' => Below w.heap.size w w' ∧ Box3 w' w.heap.size (.int .u64 S) (.slice ao n nc) (.slice co m mc) ∧ Box3 w' (w.heap.size + 1) (.int .u64 0) (.slice none 0 0) (.slice none 0 0)) ⟨hbel, hx, hy⟩ ?_
  clear hbel hx hy
  rintro w3 ⟨bb, x, y⟩
  have hs := hs0.out.below bb
  have hcl := hc0.out.later bb
  have hEv := hE0.out.later bb
  cases md with
  | same =>
    obtain rfl : F = .func (.func 27) #[] #[] := hF'.out
    have hcells : ∀ w, CellsP w co m (fun i => ⟨L i, K i, N i, C i, k i, sub i⟩) → (Md.same).Env w → Calls Tryz.prog 41 #[.slice co m mc, .func (.func 27) #[] #[]] w (CellsNew m (fun i => mapC (Md.same).g ((fun i => ⟨L i, K i, N i, C i, k i, sub i⟩) i)) w) := fun w a b => h' co mc w hmn.out a b hm50 hp'.out
    replace hcells := Lib.hid hcells
    have ssame0 := True.intro
    go_region_held3 (fun w' => w'.cell? ⟨w.heap.size, 0, none⟩ = some (.int .u64 S) ∧ w'.cell? ⟨w.heap.size, 1, none⟩ = some (.slice ao n nc) ∧ w'.cell? ⟨w.heap.size, 2, none⟩ = some (.slice co m mc))
      (first | with_reducible exact ⟨x.drew.c0, x.drew.c1, x.drew.c2⟩ | with_reducible exact ⟨x.c0, x.c1, x.c2⟩ | go_keep)
      (first
      | (go_at_call 27; clear ssame0; have hd := (Below.refl w3.heap.size w3).drew; have bb := bb.drew; have x := x.drew; have y := y.drew; have hs := hs.below hd; have hcl := hcl.later hd; have hEv := hEv.later hd; clear hd; refine (asItIs_any S _).mono ?_; rintro e w' ⟨rfl, hb⟩; have bb := below_then bb (Nat.le_refl _) hb; have x := x.later hb; have y := y.later hb; have hs := hs.below hb; have hcl := hcl.later hb; have hEv := hEv.later hb; clear hb; have ssame1 := True.intro)
      | (go_at_call 44; clear ssame1; have hlt1 := y.lt; refine (cloneI_any ao n nc (intCells sh n) _ hn6 (by rw [intCells_length, Nat.mul_one]) hs.lies (intCells_one _ _)).mono ?_; rintro e w' ⟨po, pc, rfl, hr, hb⟩; have bb := below_then bb (Nat.le_refl _) hb; have x := x.later hb; have y := y.later hb; have hcl := hcl.later hb; have hEv := hEv.later hb; clear hb hs; have ssame2 := True.intro)
      | (go_at_call 41; clear ssame2; have hlt2 := y.lt; refine (hcells.out _ hcl hEv).mono ?_; rintro e w' ⟨qo, qc, rfl, hqn, hQ, hb⟩; have bb := below_then bb (Nat.le_refl _) hb; have x := x.later hb; have y := y.later hb; have hr := hr.later hb; clear hb hcl hEv; have d0 := y.c0; have d1 := y.c1; have d2 := y.c2; have f0 := y.fr 0; have f1 := y.fr 1; have f2 := y.fr 2; have ssame3 := True.intro))
    have z := y.set (.int .u64 ((Md.same).g S : Nat)) (.slice po n pc) (.slice qo m qc)
    have e0 := z.c0; have e1 := z.c1; have e2 := z.c2
    have hbw := Lib.hid (below_set3 bb (B := w.heap.size + 1) (by omega) (.int .u64 ((Md.same).g S : Nat)) (.slice po n pc) (.slice qo m qc))
    have hne := fun b (hb : w.heap.size + 1 < b) => heap_set3 (w := w') (B := w.heap.size + 1) (b := b) (by omega) (.int .u64 ((Md.same).g S : Nat)) (.slice po n pc) (.slice qo m qc)
    obtain ⟨hpn, hpq⟩ := hr.slzQ hn6
    have hres := Lib.hid (arr_res (md := Md.same) hgl.out.1 hgl.out.2 hpn (hpq.keep (Q' := (w.heap.size ≤ ·)) (fun b hb _ => hne b (by omega)) (fun b hb _ => by omega)) hqn (hQ.keep (Q' := (w.heap.size ≤ ·)) (fun b hb _ => hne b (by omega)) (fun b hb _ => by omega)))
    clear z x y bb hr hQ hne hpq hpn
    go_wp2_with fail
    refine bodyPost_ret (v := .agg #[.int .u64 ((Md.same).g S : Nat), .slice po n pc, .slice qo m qc]) (by simp [results, Tryz.results26, go_sem, e0, e1, e2]) rfl ?_
    exact ⟨_, _, _, rfl, hres.out, hbw.out⟩

/-- Of any array, and any label's function. -/
theorem arrayBy_any (md : Md) : ∀ A, ArrBy md A := by
  intro A
  induction A with
  | leaf => intro c0 c1 c2 w h; exact (ArrP.leaf h).elim
  | arr S n sh m L K C N k sub ih => exact arrayBy_of md S n sh m L K C N k sub (cellsBy_of md m (fun i => ⟨L i, K i, N i, C i, k i, sub i⟩) fun i _ => cellBy_of md ((fun i => ⟨L i, K i, N i, C i, k i, sub i⟩) i) fun _ _ => ih i _)

theorem cellBy_any (md : Md) (c : CellD) : CellBy md c := cellBy_of md c fun _ _ => arrayBy_any md _

theorem cellsBy_any (md : Md) (m : Nat) (cs : Nat → CellD) : CellsBy md m cs := cellsBy_of md m cs fun _ _ => cellBy_any md _

end Go.Proofs.YtmkjebembicljaaGreat

namespace Go.Proofs.YtmkjebembicljaaGreat
open Go.RowKit Num

/-- What is made lies in new blocks: a store into an older one leaves it. -/
theorem tree_stored {w : World} {T : Tree} {c0 c1 c2 : Value} {U B : Nat} (h : ArrQ w (U ≤ ·) T c0 c1 c2) (hB : B < U) (u0 u1 u2 : Value) : ArrP (((w.setCell ⟨B, 0, none⟩ u0).setCell ⟨B, 1, none⟩ u1).setCell ⟨B, 2, none⟩ u2) T c0 c1 c2 :=
  ArrQ.plain _ _ _ _ (ArrQ.keep (Q' := fun _ => True) (fun b hb _ => heap_set3 (by omega) u0 u1 u2) (fun _ _ _ => trivial) _ _ _ _ h)

theorem tree_storedQ {w : World} {T : Tree} {c0 c1 c2 : Value} {U B D : Nat} (h : ArrQ w (U ≤ ·) T c0 c1 c2) (hB : B < U) (hD : D ≤ U) (u0 u1 u2 : Value) : ArrQ (((w.setCell ⟨B, 0, none⟩ u0).setCell ⟨B, 1, none⟩ u1).setCell ⟨B, 2, none⟩ u2) (D ≤ ·) T c0 c1 c2 :=
  ArrQ.keep (fun b hb _ => heap_set3 (by omega) u0 u1 u2) (fun b hb _ => by omega) _ _ _ _ h

theorem ArrQ.raise {w : World} {Q : Nat → Prop} {A : Tree} {c0 c1 c2 : Value} {l : Nat} (h : ArrQ w Q A c0 c1 c2) (hl : IsL l) : ∃ S, c0 = .int .u64 (S : Nat) ∧ IsL S ∧ ArrQ w Q (raiseT A l) (.int .u64 (orL S l : Nat)) c1 c2 := by
  obtain _ | ⟨S, n, sh, m, L, K, C, N, k, sub⟩ := A
  · exact (ArrQ.leaf h).elim
  obtain ⟨h0, h1, h2⟩ := h
  exact ⟨S, h0, h1, rfl, orL_is h1 hl, h2⟩

theorem TreeNew.plain {T : Tree} {w w' : World} {e : Ending} (h : TreeNew T w e w') : TreePost T w e w' := by
  obtain ⟨d0, d1, d2, rfl, hQ, hb⟩ := h
  exact ⟨d0, d1, d2, rfl, ArrQ.plain _ _ _ _ hQ, hb⟩


set_option maxRecDepth 20000 in
set_option maxHeartbeats 2000000 in
theorem raiseW (A : Tree) (l : Nat) (c0 c1 c2 : Value) (w : World) (h : ArrP w A c0 c1 c2) (hf : partsT A ≤ 5000) (hl : IsL l) : Calls Tryz.prog 30 #[.agg #[c0, c1, c2], .int .u64 l] w (TreeNew (raiseT A l) w) := by
  obtain ⟨S, n, nc, m, mc, ao, co, rfl, rfl, rfl⟩ := (ArrP.within _ _ _ _ h).form
  have h' := Lib.hid h
  have hS : IsL S := by
    obtain _ | ⟨S0, n0, sh, m0, L, K, C, N, k, sub⟩ := A
    · exact (ArrP.leaf h).elim
    · obtain ⟨e0, e1, _⟩ := h
      injection e0 with _ e0
      have : S = S0 := by omega
      rw [this]; exact e1
  have hbel := (((Below.refl w.heap.size w).alloc (Nat.le_refl _) (.cells #[.int .u64 S, .slice ao n nc, .slice co m mc] 26)).alloc (by simp) (.cells #[.int .u64 0, .slice none 0 0, .slice none 0 0] 26))
  have hx := (Box3.new (w := w) (B := w.heap.size) (.int .u64 S) (.slice ao n nc) (.slice co m mc) 26 rfl).alloc (.cells #[.int .u64 0, .slice none 0 0, .slice none 0 0] 26)
  have hy := Box3.new (w := w.alloc (.cells #[.int .u64 S, .slice ao n nc, .slice co m mc] 26)) (B := w.heap.size + 1) (.int .u64 0) (.slice none 0 0) (.slice none 0 0) 26 (by simp)
  clear h
  go_enter Tryz.func30, Tryz.ntmps30
  go_upto_region 1 with fail
  refine told_wp (fun w' => Below w.heap.size w w' ∧ Box3 w' w.heap.size (.int .u64 S) (.slice ao n nc) (.slice co m mc) ∧ Box3 w' (w.heap.size + 1) (.int .u64 0) (.slice none 0 0) (.slice none 0 0)) ⟨hbel, hx, hy⟩ ?_
  clear hbel hx hy
  rintro w2 ⟨b2, x2, y2⟩
  have z0 := x2.c0; have z1 := x2.c1; have z2 := x2.c2
  have hcall : Calls Tryz.prog 26 #[.agg #[.int .u64 S, .slice ao n nc, .slice co m mc], .func (.func 27) #[] #[]] w2 (TreeNew (mapT Md.same.g A) w2) := arrayBy_any .same A _ _ _ w2 (ArrP.below _ _ _ _ h'.out b2) trivial hf
  replace hcall := Lib.hid hcall
  have hy1 := y2.lt
  go_wp2_with fail
  refine hcall.out.mono ?_
  intro e w3 hnew
  obtain ⟨S', n', nc', m', mc', ao', co', rfl, hQ, hb3⟩ := hnew.form
  rw [map_same] at hQ
  obtain ⟨R, hR⟩ : ∃ R, R = w3.heap.size := ⟨_, rfl⟩
  have hb4 := (Below.refl w3.heap.size w3).alloc (Nat.le_refl _) (.cells #[.int .u64 (S' : Nat), .slice ao' n' nc', .slice co' m' mc'] 26)
  have hA4 := ArrP.below _ _ _ _ (ArrQ.plain _ _ _ _ hQ) hb4
  have hQ4 := ArrQ.keep (w' := w3.alloc (.cells #[.int .u64 (S' : Nat), .slice ao' n' nc', .slice co' m' mc'] 26)) (fun b _ hlt => hb4.block b hlt) (Q' := fun b => w.heap.size + 2 ≤ b ∧ b < R) (fun b hq hlt => ⟨by omega, by omega⟩) _ _ _ _ hQ
  have hx4 := (x2.later hb3).later hb4
  have hy4 := (y2.later hb3).later hb4
  have hbb := (b2.trans (hb3.mono b2.size)).trans (hb4.mono (Nat.le_trans b2.size hb3.size))
  have hr4 := Box3.new (w := w3) (B := R) (.int .u64 (S' : Nat)) (.slice ao' n' nc') (.slice co' m' mc') 26 hR
  have hlt : w.heap.size + 1 < R := by have := hb3.size; omega
  clear z0 z1 z2 hcall hnew x2 y2 b2 hb3 hb4 hA4 hQ
  go_upto_region 2 with fail
  rw [← hR]
  refine told_wp (fun w' => Below w.heap.size w w' ∧ Box3 w' w.heap.size (.int .u64 S) (.slice ao n nc) (.slice co m mc) ∧ Box3 w' (w.heap.size + 1) (.int .u64 0) (.slice none 0 0) (.slice none 0 0) ∧ Box3 w' R (.int .u64 (S' : Nat)) (.slice ao' n' nc') (.slice co' m' mc') ∧ ArrQ w' (fun b => w.heap.size + 2 ≤ b ∧ b < R) A (.int .u64 (S' : Nat)) (.slice ao' n' nc') (.slice co' m' mc')) ⟨hbb, hx4, hy4, hr4, hQ4⟩ ?_
  clear hbb hx4 hy4 hr4 hQ4 hR
  rintro w5 ⟨b5, x5, y5, r5, hQ5⟩
  have z0 := x5.c0
  have p0 := r5.c0; have p1 := r5.fr 0
  have hSS : S' = S := by
    obtain _ | ⟨S0, n0, sh, m0, L, K, C, N, k, sub⟩ := A
    · exact (ArrQ.leaf hQ5).elim
    · obtain ⟨e0, _⟩ := hQ5
      obtain ⟨e1, _⟩ := h'.out
      injection e0 with _ e0
      injection e1 with _ e1
      omega
  subst hSS
  have r6 := r5.set0 (.int .u64 (orL S' l : Nat))
  have y6 := y5.aside (show w.heap.size + 1 ≠ R by omega) 0 (.int .u64 (orL S' l : Nat))
  have b6 := b5.setCell (p := ⟨R, 0, none⟩) (show w.heap.size ≤ R by omega) (.int .u64 (orL S' l : Nat))
  have hQ6 : ArrQ (w5.setCell ⟨R, 0, none⟩ (.int .u64 (orL S' l : Nat))) (fun b => w.heap.size + 2 ≤ b ∧ b < R) A (.int .u64 (S' : Nat)) (.slice ao' n' nc') (.slice co' m' mc') := ArrQ.keep (fun b hq _ => Below.heap_setCell _ _ _ _ (by show b ≠ R; omega)) (fun _ hq _ => hq) _ _ _ _ hQ5
  have H := Lib.hid (And.intro b6 (And.intro y6 (And.intro r6 hQ6)))
  clear b5 x5 y5 r5 hQ5 b6 y6 r6 hQ6
  go_wp2_with fail
  refine (join_any S' l hS hl _).mono ?_
  rintro e w6 ⟨rfl, rfl⟩
  go_upto_region 3 with fail
  refine told_wp (fun w' => Below w.heap.size w w' ∧ Box3 w' (w.heap.size + 1) (.int .u64 0) (.slice none 0 0) (.slice none 0 0) ∧ Box3 w' R (.int .u64 (orL S' l : Nat)) (.slice ao' n' nc') (.slice co' m' mc') ∧ ArrQ w' (fun b => w.heap.size + 2 ≤ b ∧ b < R) A (.int .u64 (S' : Nat)) (.slice ao' n' nc') (.slice co' m' mc')) H.out ?_
  clear H z0 p0 p1
  rintro w7 ⟨b7, y7, r7, hQ7⟩
  have p0 := r7.c0; have p1 := r7.c1; have p2 := r7.c2
  have g0 := y7.c0; have g1 := y7.c1; have g2 := y7.c2
  have f0 := y7.fr 0; have f1 := y7.fr 1; have f2 := y7.fr 2
  have z := y7.set (.int .u64 (orL S' l : Nat)) (.slice ao' n' nc') (.slice co' m' mc')
  have e0 := z.c0; have e1 := z.c1; have e2 := z.c2
  have hbw := Lib.hid (below_set3 b7 (B := w.heap.size + 1) (by omega) (.int .u64 (orL S' l : Nat)) (.slice ao' n' nc') (.slice co' m' mc'))
  have hA7 : ArrQ _ (w.heap.size ≤ ·) A (.int .u64 (S' : Nat)) (.slice ao' n' nc') (.slice co' m' mc') := ArrQ.keep (fun b hq _ => heap_set3 (w := w7) (B := w.heap.size + 1) (b := b) (by omega) (.int .u64 (orL S' l : Nat)) (.slice ao' n' nc') (.slice co' m' mc')) (fun b hq _ => by omega) _ _ _ _ hQ7
  obtain ⟨S9, e9, _, hA9⟩ := hA7.raise hl
  obtain rfl : S' = S9 := by injection e9 with _ e; omega
  have hres := Lib.hid hA9
  clear z y7 r7 b7 hQ7 hA7 hA9 e9
  go_wp2_with fail
  refine bodyPost_ret (v := .agg #[.int .u64 (orL S' l : Nat), .slice ao' n' nc', .slice co' m' mc']) (by simp [results, Tryz.results30, go_sem, e0, e1, e2]) rfl ?_
  exact ⟨_, _, _, rfl, hres.out, hbw.out⟩

theorem raiseC : RaiseC := fun A l c0 c1 c2 w h hf hl => (raiseW A l c0 c1 c2 w h hf hl).mono fun _ _ h => h.plain

theorem isZ0 : IsZ 0 := ⟨by decide, by decide⟩

theorem isZ1 : IsZ 1 := ⟨by decide, by decide⟩

theorem isL0 : IsL 0 := by show (0 : Nat) < 18446744073709551616; decide

theorem isN0 : IsN 0 0 := ⟨Nat.le_refl _, by decide, by decide⟩

theorem cell_aside7 {w : World} {B : Nat} {x : Int} {p : Addr} (z : Box7 w B (.int .u64 0) (.int .i64 0) (.bool false) (.slice none 0 0) (.slice none 0 0) (.int .i64 0) (.slice none 0 0)) (u0 u1 u2 u3 u4 u5 u6 : Value) (h : w.cell? p = some (.int .u32 x)) :
    (((((((w.setCell ⟨B, 0, none⟩ u0).setCell ⟨B, 1, none⟩ u1).setCell ⟨B, 2, none⟩ u2).setCell ⟨B, 3, none⟩ u3).setCell ⟨B, 4, none⟩ u4).setCell ⟨B, 5, none⟩ u5).setCell ⟨B, 6, none⟩ u6).cell? p = some (.int .u32 x) := by
  have n0 : p ≠ ⟨B, 0, none⟩ := fun e => by rw [e, z.c0] at h; injection h with h; injection h with h; cases h
  have n1 : p ≠ ⟨B, 1, none⟩ := fun e => by rw [e, z.c1] at h; injection h with h; injection h with h; cases h
  have n2 : p ≠ ⟨B, 2, none⟩ := fun e => by rw [e, z.c2] at h; injection h with h; cases h
  have n3 : p ≠ ⟨B, 3, none⟩ := fun e => by rw [e, z.c3] at h; injection h with h; cases h
  have n4 : p ≠ ⟨B, 4, none⟩ := fun e => by rw [e, z.c4] at h; injection h with h; cases h
  have n5 : p ≠ ⟨B, 5, none⟩ := fun e => by rw [e, z.c5] at h; injection h with h; injection h with h; cases h
  have n6 : p ≠ ⟨B, 6, none⟩ := fun e => by rw [e, z.c6] at h; injection h with h; cases h
  rw [cell_set_ne n6, cell_set_ne n5, cell_set_ne n4, cell_set_ne n3, cell_set_ne n2, cell_set_ne n1, cell_set_ne n0]
  exact h

theorem Sl.aside7 {w : World} {B n : Nat} {ao : Option Addr} {f : Nat → Nat} (h : Sl w ao n f) (z : Box7 w B (.int .u64 0) (.int .i64 0) (.bool false) (.slice none 0 0) (.slice none 0 0) (.int .i64 0) (.slice none 0 0)) (u0 u1 u2 u3 u4 u5 u6 : Value) :
    Sl (((((((w.setCell ⟨B, 0, none⟩ u0).setCell ⟨B, 1, none⟩ u1).setCell ⟨B, 2, none⟩ u2).setCell ⟨B, 3, none⟩ u3).setCell ⟨B, 4, none⟩ u4).setCell ⟨B, 5, none⟩ u5).setCell ⟨B, 6, none⟩ u6) ao n f := by
  rcases h with h | ⟨b, o, e, h⟩
  · exact .inl h
  · exact .inr ⟨b, o, e, fun j hj => cell_aside7 z u0 u1 u2 u3 u4 u5 u6 (h j hj)⟩

set_option maxRecDepth 20000 in
set_option maxHeartbeats 2000000 in
theorem intAC : IntAC := by
  intro x w hx
  have hy := Box7.new (w := w) (B := w.heap.size) (.int .u64 0) (.int .i64 0) (.bool false) (.slice none 0 0) (.slice none 0 0) (.int .i64 0) (.slice none 0 0) 32 rfl
  have hbel := (Below.refl w.heap.size w).alloc (Nat.le_refl _) (.cells #[.int .u64 0, .int .i64 0, .bool false, .slice none 0 0, .slice none 0 0, .int .i64 0, .slice none 0 0] 32)
  have hx1 := hx.1; have hx2 := hx.2
  go_enter Tryz.func18, Tryz.ntmps18
  go_upto_region 1 with fail
  refine told_wp (fun w' => Below w.heap.size w w' ∧ Box7 w' w.heap.size (.int .u64 0) (.int .i64 0) (.bool false) (.slice none 0 0) (.slice none 0 0) (.int .i64 0) (.slice none 0 0)) ⟨hbel, hy⟩ ?_
  clear hbel hy
  rintro w2 ⟨b2, y2⟩
  replace b2 := Lib.hid b2; replace y2 := Lib.hid y2
  go_wp2_with fail
  refine (of_any x _ hx1 hx2).mono ?_
  rintro e w3 ⟨b, po, pn, pc, qo, qn, qc, rfl, hR, hb3⟩
  have y3 := y2.out.later hb3
  obtain ⟨f, h1, h2, h3, h4, h5⟩ := hR.top.ex
  obtain ⟨h, k1, k2, k3, k4, k5⟩ := hR.bot.ex
  clear k5
  have hpn := h4.len_le (int_32 hx1 hx2)
  rw [Int.natAbs_natCast] at k4
  have hqn := k4.len_le (k := 1) (by decide)
  have hA := h3.aside7 y3 (.int .u64 0) (.int .i64 0) (.bool b) (.slice po pn pc) (.slice qo qn qc) (.int .i64 0) (.slice none 0 0)
  have hB := k3.aside7 y3 (.int .u64 0) (.int .i64 0) (.bool b) (.slice po pn pc) (.slice qo qn qc) (.int .i64 0) (.slice none 0 0)
  have g0 := y3.c0; have g1 := y3.c1; have g2 := y3.c2; have g3 := y3.c3; have g4 := y3.c4; have g5 := y3.c5; have g6 := y3.c6
  have f0 := y3.fr 0; have f1 := y3.fr 1; have f2 := y3.fr 2; have f3 := y3.fr 3; have f4 := y3.fr 4; have f5 := y3.fr 5; have f6 := y3.fr 6
  have z := y3.setAll (.int .u64 0) (.int .i64 0) (.bool b) (.slice po pn pc) (.slice qo qn qc) (.int .i64 0) (.slice none 0 0)
  have e0 := z.c0; have e1 := z.c1; have e2 := z.c2; have e3 := z.c3; have e4 := z.c4; have e5 := z.c5; have e6 := z.c6
  have hbw := Lib.hid (below_setAll (b2.out.trans (hb3.mono b2.out.size)) (B := w.heap.size) (Nat.le_refl _) (.int .u64 0) (.int .i64 0) (.bool b) (.slice po pn pc) (.slice qo qn qc) (.int .i64 0) (.slice none 0 0))
  have hof := Lib.hid (show OfZ ⟨b, pn, f, qn, h⟩ x from ⟨h5, h4, k4⟩)
  have hn := Lib.hid (And.intro hA hB)
  have hlim := Lib.hid (And.intro h4.lim k4.lim)
  have hpi := Lib.hid (show IsN pn pc ∧ IsN qn qc from ⟨⟨h1, h2, by omega⟩, k1, k2, by omega⟩)
  clear z y3 hA hB hR hb3 h3 h4 k3 k4 h5 y2 b2 hx hpn hqn h1 h2 k1 k2
  go_wp2_with fail
  refine bodyPost_ret (v := .agg #[.int .u64 0, .int .i64 0, .bool b, .slice po pn pc, .slice qo qn qc, .int .i64 0, .slice none 0 0]) (by simp [results, Tryz.results18, go_sem, e0, e1, e2, e3, e4, e5, e6]) rfl ?_
  refine ⟨_, hof.out, fun q => [Value.int .u64 0, .int .i64 0, .bool b, .slice po pn pc, .slice qo qn qc, .int .i64 0, .slice none 0 0].getD q undef, rfl, ⟨rfl, isL0, rfl, isZ0, ⟨rfl, ⟨_, _, rfl, hpi.out.1, hn.out.1, hlim.out.1⟩, ⟨_, _, rfl, hpi.out.2, hn.out.2, hlim.out.2⟩⟩, rfl, isZ0, none, 0, rfl, isN0, .inl rfl⟩, hbw.out⟩

set_option maxRecDepth 20000 in
set_option maxHeartbeats 2000000 in
theorem chrC : ChrC := by
  intro x w hx
  have y3 := Box7.new (w := w) (B := w.heap.size) (.int .u64 0) (.int .i64 0) (.bool false) (.slice none 0 0) (.slice none 0 0) (.int .i64 0) (.slice none 0 0) 32 rfl
  have hbel := (Below.refl w.heap.size w).alloc (Nat.le_refl _) (.cells #[.int .u64 0, .int .i64 0, .bool false, .slice none 0 0, .slice none 0 0, .int .i64 0, .slice none 0 0] 32)
  have hx' := Lib.hid hx
  clear hx
  go_enter Tryz.func20, Tryz.ntmps20
  go_upto_region 1 with fail
  refine told_wp (fun w' => Below w.heap.size w w' ∧ Box7 w' w.heap.size (.int .u64 0) (.int .i64 0) (.bool false) (.slice none 0 0) (.slice none 0 0) (.int .i64 0) (.slice none 0 0)) ⟨hbel, y3⟩ ?_
  clear hbel y3
  rintro w2 ⟨b2, y3⟩
  have g0 := y3.c0; have g1 := y3.c1; have g2 := y3.c2; have g3 := y3.c3; have g4 := y3.c4; have g5 := y3.c5; have g6 := y3.c6
  have f0 := y3.fr 0; have f1 := y3.fr 1; have f2 := y3.fr 2; have f3 := y3.fr 3; have f4 := y3.fr 4; have f5 := y3.fr 5; have f6 := y3.fr 6
  have z := y3.setAll (.int .u64 0) (.int .i64 1) (.bool false) (.slice none 0 0) (.slice none 0 0) (.int .i64 x) (.slice none 0 0)
  have e0 := z.c0; have e1 := z.c1; have e2 := z.c2; have e3 := z.c3; have e4 := z.c4; have e5 := z.c5; have e6 := z.c6
  have hbw := Lib.hid (below_setAll b2 (B := w.heap.size) (Nat.le_refl _) (.int .u64 0) (.int .i64 1) (.bool false) (.slice none 0 0) (.slice none 0 0) (.int .i64 x) (.slice none 0 0))
  clear z y3 b2
  go_wp2_with fail
  refine bodyPost_ret (v := .agg #[.int .u64 0, .int .i64 1, .bool false, .slice none 0 0, .slice none 0 0, .int .i64 x, .slice none 0 0]) (by simp [results, Tryz.results20, go_sem, e0, e1, e2, e3, e4, e5, e6]) rfl ?_
  exact ⟨fun q => [Value.int .u64 0, .int .i64 1, .bool false, .slice none 0 0, .slice none 0 0, .int .i64 x, .slice none 0 0].getD q undef, rfl, ⟨rfl, isL0, rfl, isZ1, ⟨rfl, ⟨none, 0, rfl, isN0, .inl rfl, fun j hj => absurd hj (Nat.not_lt_zero _)⟩, ⟨none, 0, rfl, isN0, .inl rfl, fun j hj => absurd hj (Nat.not_lt_zero _)⟩⟩, rfl, hx'.out, none, 0, rfl, isN0, .inl rfl⟩, hbw.out⟩

theorem vec_parts_of {m : Nat} {cs : Nat → CellD} (h : partsT (vecT m cs) ≤ 5000) : m ≤ 5000 ∧ ∀ i, i < m → partsC (cs i) ≤ 5000 := by
  have a := parts_here (S := 0) (n := 1) (m := m) (sh := fun _ => (m : Int)) (L := fun i => (cs i).L) (K := fun i => (cs i).K) (C := fun i => (cs i).C) (N := fun i => (cs i).N) (k := fun i => (cs i).k) (sub := fun i => (cs i).sub)
  have h' : partsT (.arr 0 1 (fun _ => (m : Int)) m (fun i => (cs i).L) (fun i => (cs i).K) (fun i => (cs i).C) (fun i => (cs i).N) (fun i => (cs i).k) fun i => (cs i).sub) ≤ 5000 := h
  exact ⟨by omega, fun i hi => Nat.le_trans (partsC_in (S := 0) (n := 1) (sh := fun _ => (m : Int)) (L := fun i => (cs i).L) (K := fun i => (cs i).K) (C := fun i => (cs i).C) (N := fun i => (cs i).N) (k := fun i => (cs i).k) (sub := fun i => (cs i).sub) hi) h'⟩

set_option maxRecDepth 20000 in
set_option maxHeartbeats 2000000 in
theorem vectorC : VectorC := by
  intro cs co m mc w hm hc hp
  obtain ⟨h50, hpc⟩ := vec_parts_of hp
  have m1 := hm.1; have m2 := hm.2.1
  have hy := Box3.new (w := w) (B := w.heap.size) (.int .u64 0) (.slice none 0 0) (.slice none 0 0) 26 rfl
  have hbel := (Below.refl w.heap.size w).alloc (Nat.le_refl _) (.cells #[.int .u64 0, .slice none 0 0, .slice none 0 0] 26)
  have hc' := Lib.hid hc; have hm' := Lib.hid hm; have hpc' := Lib.hid hpc
  clear hc hp hpc hm
  go_enter Tryz.func19, Tryz.ntmps19
  go_upto_region 1 with fail
  refine told_wp (fun w' => Below w.heap.size w w' ∧ Box3 w' w.heap.size (.int .u64 0) (.slice none 0 0) (.slice none 0 0)) ⟨hbel, hy⟩ ?_
  clear hbel hy
  rintro w2 ⟨b2, y2⟩
  have b3 := b2.alloc b2.size (.cells #[.int .i64 (m : Int)] 3)
  have y3 := y2.alloc (.cells #[.int .i64 (m : Int)] 3)
  have s3 := slz_one w2 3 (m : Int)
  have hlt2 := y2.lt
  obtain ⟨U, hU⟩ : ∃ U, U = w2.heap.size := ⟨_, rfl⟩
  rw [← hU] at s3 hlt2
  have hU3 : U < (w2.alloc (.cells #[.int .i64 (m : Int)] 3)).heap.size := by simp [hU]
  have H := Lib.hid (And.intro b3 (And.intro y3 (And.intro s3 hU3)))
  clear b2 y2 b3 y3 s3 hU3
  go_wp2_with fail
  rw [← hU]
  refine told_calls (fun w' => Below w.heap.size w w' ∧ Box3 w' w.heap.size (.int .u64 0) (.slice none 0 0) (.slice none 0 0) ∧ SlZ w' (some ⟨U, 0, none⟩) 1 (fun _ => (m : Int)) ∧ U < w'.heap.size) H.out ?_
  clear H hU
  rintro w3 ⟨b3, y3, s3, hU3⟩
  have hcall : Calls Tryz.prog 41 #[.slice co m mc, .func (.func 27) #[] #[]] w3 (CellsNew m (fun i => mapC Md.same.g (cs i)) w3) := cellsBy_any .same m cs co mc w3 hm'.out (CellsP.later hc'.out b3) trivial h50 hpc'.out
  refine hcall.mono ?_
  rintro e w4 ⟨qo, qc, rfl, hqn, hQ, hb4⟩
  have y4 := y3.later hb4
  have g0 := y4.c0; have g1 := y4.c1; have g2 := y4.c2
  have f0 := y4.fr 0; have f1 := y4.fr 1; have f2 := y4.fr 2
  have z := y4.set (.int .u64 0) (.slice (some ⟨U, 0, none⟩) 1 1) (.slice qo m qc)
  have e0 := z.c0; have e1 := z.c1; have e2 := z.c2
  have hbw := Lib.hid (below_set3 (b3.trans (hb4.mono b3.size)) (B := w.heap.size) (Nat.le_refl _) (.int .u64 0) (.slice (some ⟨U, 0, none⟩) 1 1) (.slice qo m qc))
  have hs5 : SlZQ (((w4.setCell ⟨w.heap.size, 0, none⟩ (.int .u64 0)).setCell ⟨w.heap.size, 1, none⟩ (.slice (some ⟨U, 0, none⟩) 1 1)).setCell ⟨w.heap.size, 2, none⟩ (.slice qo m qc)) (fun _ => True) (some ⟨U, 0, none⟩) 1 (fun _ => (m : Int)) := by
    rcases SlZ.below s3 hb4 with h | ⟨b, o, e, h⟩
    · exact .inl h
    · injection e with e
      injection e with e1 e2 _
      subst e1; subst e2
      refine .inr ⟨U, 0, rfl, trivial, fun j hj => ?_⟩
      exact cell_kept (h j hj) (heap_set3 (by omega) _ _ _)
  have hq5 := hQ.keep (Q' := fun _ => True) (fun b hb _ => heap_set3 (w := w4) (B := w.heap.size) (b := b) (by omega) (.int .u64 0) (.slice (some ⟨U, 0, none⟩) 1 1) (.slice qo m qc)) (fun _ _ _ => trivial)
  have hcs : (fun i => mapC Md.same.g (cs i)) = cs := funext fun i => mapC_same _
  rw [hcs] at hq5
  have hm47 := hm'.out.2.2
  have hres := Lib.hid (show ArrP _ (vecT m cs) (.int .u64 ((0 : Nat) : Int)) (.slice (some ⟨U, 0, none⟩) 1 1) (.slice qo m qc) from ArrQ.plain (Q := fun _ => True) (vecT m cs) _ _ _ ⟨rfl, by show (0 : Nat) < 18446744073709551616; decide, ⟨_, _, rfl, ⟨Nat.le_refl _, by decide, by decide⟩, hs5, fun j hj => ⟨by show (-9223372036854775808 : Int) ≤ (m : Int); omega, by show (m : Int) ≤ 9223372036854775807; omega⟩⟩, _, _, rfl, hqn, hq5⟩)
  clear z y4 y3 hQ hs5 hq5 b3 hb4 s3
  go_wp2_with fail
  refine bodyPost_ret (v := .agg #[.int .u64 0, .slice (some ⟨U, 0, none⟩) 1 1, .slice qo m qc]) (by simp [results, Tryz.results19, go_sem, e0, e1, e2]) rfl ?_
  exact ⟨_, _, _, rfl, hres.out, hbw.out⟩

end Go.Proofs.YtmkjebembicljaaGreat

namespace Go.Proofs.YtmkjebembicljaaGreat
open Go.RowKit Num

set_option maxHeartbeats 1000000 in
/-- Equal, of any limbs. -/
theorem eqB_any (ao bo : Option Addr) (n nc m mc : Nat) (f g : Nat → Nat) (w : World) (hn : n ≤ 9223372036854775807) (hf : Sl w ao n f) (hg : Sl w bo m g) :
    Calls Tryz.prog 83 #[.slice ao n nc, .slice bo m mc] w (SameBPost n m f g w) := by
  by_cases hnm : n = m
  · subst hnm
    go_enter Tryz.func83, Tryz.ntmps83
    go_wp2_with fail
    go_loopw [13] (fun i wr => ∃ j : Nat, j ≤ n ∧ i = .int .i64 j ∧ Hid (∀ i, i < j → f i = g i) ∧ ∃ q, wr = w.drewN q) (fun i _ => n - (intOf i).toNat)
    case atStart => exact ⟨0, Nat.zero_le _, rfl, Lib.hid (fun i hi => absurd hi (Nat.not_lt_zero _)), 0, rfl⟩
    case round =>
      obtain ⟨j, hj, rfl, heq, q, rfl⟩ := hrel
      by_cases hlt : j < n
      · rcases hf with h | ⟨b, off, rfl, hc⟩
        · omega
        rcases hg with h | ⟨b', off', rfl, hc'⟩
        · omega
        have c1 := hc j hlt
        have c2 := hc' j hlt
        clear hc hc'
        by_cases he : f j = g j
        · rw [← he] at c2
          have heq' : Hid (∀ i, i < j + 1 → f i = g i) := Lib.hid (fun i hi => by
            by_cases hij : i < j
            · exact heq.out i hij
            · have : i = j := by omega
              subst this; exact he)
          clear he heq
          go_wp2_with fail
          go_quiet (fail)
          go_wp2_with fail
          go_roundw
          case rel => exact ⟨j + 1, by omega, by go_num, heq', _, rfl⟩
          case measure => simp [intOf]; omega
        · have he' : ((f j : Int) == (g j : Int)) = false := by rw [beq_eq_false_iff_ne]; omega
          have hid := Lib.hid he
          have hlt' := Lib.hid hlt
          go_wp2_with fail
          go_quiet (fail)
          go_wp2_with fail
          go_ret
          exact ⟨false, rfl, ⟨(fun h => by cases h), fun h => absurd (h.2 j hlt'.out) hid.out⟩, below_drewN (below_drewN (Below.refl _ _) _) _⟩
      · have : j = n := by omega
        subst this
        go_wp2_with fail
        go_ret
        exact ⟨true, rfl, ⟨fun _ => ⟨rfl, heq.out⟩, fun _ => rfl⟩, below_drewN (Below.refl _ _) _⟩
  · have hd : ((n : Int) == (m : Int)) = false := by rw [beq_eq_false_iff_ne]; omega
    have hnm' := Lib.hid hnm
    clear hf hg
    go_enter Tryz.func83, Tryz.ntmps83
    go_wp2_with fail
    go_ret
    exact ⟨false, rfl, ⟨(fun h => by cases h), fun h => absurd h.1 hnm'.out⟩, Below.refl _ _⟩

attribute [local go_sem ↓] Go.wp_at_zero Go.wp_at_succ

/-- A number's bottom is 1, or it isn't: the limbs. -/
theorem one_or {w : World} {b : Bool} {ao : Option Addr} {n nc Q : Nat} (h : Right w b ao n nc (Q : Int)) : ∃ f, n ≤ nc ∧ nc ≤ 9223372036854775807 ∧ Sl w ao n f ∧ Lim f n ∧ ((Q = 1 ∧ n = 1 ∧ f 0 = 1) ∨ (Q ≠ 1 ∧ (n = 1 → f 0 ≠ 1))) := by
  obtain ⟨f, h1, h2, h3, h4, _⟩ := h.ex
  rw [Int.natAbs_natCast] at h4
  refine ⟨f, h1, h2, h3, h4.lim, ?_⟩
  have c1 : Canon 1 1 (fun _ => 1) := ⟨fun _ _ => (by decide : 1 < 4294967296), .inr (by decide), rfl⟩
  by_cases hQ : Q = 1
  · subst hQ
    have e := h4.len c1
    exact .inl ⟨rfl, e, by have := h4.eq c1 0 (by omega); exact this⟩
  · refine .inr ⟨hQ, fun e h0 => hQ ?_⟩
    have := h4.val
    rw [e] at this
    simpa [val, pw, h0] using this.symm

/-- What Int tells: the top, if the bottom is 1. -/
def IntOfPost (P : Int) (Q : Nat) (w : World) (e : Ending) (w' : World) : Prop :=
  ∃ b ao n nc, e = .returned (.tuple #[.agg #[.bool b, .slice ao n nc], .bool (decide (Q = 1))]) ∧ Right w' b ao n nc (if Q = 1 then P else 0) ∧ Below w.heap.size w w'

end Go.Proofs.YtmkjebembicljaaGreat

namespace Go.Proofs.YtmkjebembicljaaGreat
open Go.RowKit Num

set_option maxRecDepth 20000 in
set_option maxHeartbeats 2000000 in
theorem sameP_any (ab cb : Bool) (ap aq cp cq : Option Addr) (an ac am ae cn cc cm ce : Nat) (f h g k : Nat → Nat) (w : World) (hn : an ≤ 9223372036854775807) (hm : am ≤ 9223372036854775807) (hf : Sl w ap an f) (hh : Sl w aq am h) (hg : Sl w cp cn g) (hk : Sl w cq cm k) :
    Calls Tryz.prog 67 #[.agg #[.bool ab, .slice ap an ac, .slice aq am ae], .agg #[.bool cb, .slice cp cn cc, .slice cq cm ce]] w (Same4BPost ab cb an cn am cm f g h k w) := by
  have hf' := Lib.hid hf; have hh' := Lib.hid hh; have hg' := Lib.hid hg; have hk' := Lib.hid hk
  clear hf hh hg hk
  by_cases hb : ab = cb
  · subst hb
    go_enter Tryz.func67, Tryz.ntmps67
    go_wp2_with fail
    refine told_calls (fun w' => Below w.heap.size w w' ∧ Box3 w' w.heap.size (.bool ab) (.slice ap an ac) (.slice aq am ae) ∧ Box3 w' (w.heap.size + 1) (.bool ab) (.slice cp cn cc) (.slice cq cm ce))
      ⟨(((Below.refl _ _).alloc (Nat.le_refl _) _).alloc (by first | (simp; done) | (simp; omega)) _), ((Box3.new _ _ _ _ rfl).alloc _), (Box3.new _ _ _ _ (by first | (simp; done) | (simp; omega)))⟩ ?_
    rintro w0 ⟨hb0, x0, x1⟩
    refine (eqB_any ap cp an ac cn cc f g _ hn (hf'.out.below hb0) (hg'.out.below hb0)).mono ?_
    rintro e w1 ⟨r, rfl, hr, hb⟩
    have bb := Lib.hid (below_then hb0 (Nat.le_refl _) hb)
    have x0 := x0.later hb; have x1 := x1.later hb
    have p0 := x0.c2; have p1 := x1.c2
    replace hr := Lib.hid hr
    clear hb hb0 x0 x1
    cases r
    · go_wp2_with fail
      go_ret
      exact ⟨false, rfl, ⟨(fun h => by cases h), fun h => absurd (hr.out.2 h.2.1) (by decide)⟩, bb.out⟩
    · go_wp2_with fail
      refine (eqB_any aq cq am ae cm ce h k _ hm (hh'.out.below bb.out) (hk'.out.below bb.out)).mono ?_
      rintro e w2 ⟨s, rfl, hs, hb⟩
      have bb := Lib.hid (below_then bb.out (Nat.le_refl _) hb)
      replace hs := Lib.hid hs
      clear hb p0 p1
      go_wp2_with fail
      go_ret
      exact ⟨s, rfl, ⟨fun e => ⟨rfl, hr.out.1 (by first | exact rfl | trivial), hs.out.1 e⟩, fun h => hs.out.2 h.2.2⟩, bb.out⟩
  · have hd : (ab == cb) = false := by simp [hb]
    have hb' := Lib.hid hb
    clear hb
    go_enter Tryz.func67, Tryz.ntmps67
    go_wp2_with fail
    go_ret
    exact ⟨false, rfl, ⟨(fun h => by cases h), fun h => absurd h.1 hb'.out⟩, (((Below.refl _ _).alloc (Nat.le_refl _) _).alloc (by simp) _)⟩

set_option maxRecDepth 20000 in
set_option maxHeartbeats 4000000 in
theorem rightP_any (ab : Bool) (ap aq : Option Addr) (an ac am ae : Nat) (f h : Nat → Nat) (w : World) (A : In w ap an ac f) (B : In w aq am ae h) :
    Calls Tryz.prog 78 #[.agg #[.bool ab, .slice ap an ac, .slice aq am ae]] w (RightPost ab ap an ac aq am ae w) := by
  have A' := Lib.hid A; have B' := Lib.hid B
  have n1 := A.len; have n2 := A.cap; have m1 := B.len; have m2 := B.cap
  clear A B
  have hbel := Lib.hid ((Below.refl w.heap.size w).alloc (Nat.le_refl _) (.cells #[.bool ab, .slice ap an ac, .slice aq am ae] 29))
  have hx := Lib.hid (Box3.new (w := w) (B := w.heap.size) (.bool ab) (.slice ap an ac) (.slice aq am ae) 29 rfl)
  have z1 := hx.out.c1
  go_enter Tryz.func78, Tryz.ntmps78
  go_wp2_with fail
  by_cases ht : 32 < an
  · have ht' := Lib.hid ht
    refine (long_yes ap an ac _ ht).mono ?_
    rintro e w1 ⟨rfl, hb⟩
    have bb := Lib.hid (below_then hbel.out (Nat.le_refl _) hb)
    clear hb z1 ht
    go_wp2_with fail
    go_ret
    exact ⟨false, rfl, (fun h => by cases h), fun P Q l R => absurd (R.top.le_len l.abs_lt) (Nat.not_le.2 ht'.out), bb.out⟩
  have ht' := Lib.hid (Nat.le_of_not_lt ht)
  refine (long_no ap an ac _ ht'.out).mono ?_
  rintro e w1 ⟨rfl, hb⟩
  replace hbel := Lib.hid (below_then hbel.out (Nat.le_refl _) hb)
  replace hx := Lib.hid (hx.out.later hb)
  clear hb z1 ht
  have z2 := hx.out.c2
  go_wp2_with fail
  by_cases hu : 32 < am
  · have hu' := Lib.hid hu
    refine (long_yes aq am ae _ hu).mono ?_
    rintro e w2 ⟨rfl, hb⟩
    have bb := Lib.hid (below_then hbel.out (Nat.le_refl _) hb)
    clear hb z2 hu
    go_wp2_with fail
    go_ret
    exact ⟨false, rfl, (fun h => by cases h), fun P Q l R => absurd (R.bot.le_len l.bot_lt) (Nat.not_le.2 hu'.out), bb.out⟩
  have hu' := Lib.hid (Nat.le_of_not_lt hu)
  refine (long_no aq am ae _ hu'.out).mono ?_
  rintro e w2 ⟨rfl, hb⟩
  replace hbel := Lib.hid (below_then hbel.out (Nat.le_refl _) hb)
  replace hx := Lib.hid (hx.out.later hb)
  clear hb z2 hu
  go_upto_region 3 with fail
  obtain ⟨p, hp⟩ : ∃ p, Hid (sgn ab (val f an) = p) := ⟨_, Lib.hid rfl⟩
  obtain ⟨q, hq⟩ : ∃ q, Hid (sgn false (val h am) = q) := ⟨_, Lib.hid rfl⟩
  refine told_wp (fun w' => Below w.heap.size w w' ∧ Box3 w' w.heap.size (.bool ab) (.slice ap an ac) (.slice aq am ae) ∧ Whole w' ab ap an ac p ∧ Whole w' false aq am ae q) ⟨hbel.out, hx.out, ⟨f, (A'.out.below hbel.out).arg ht'.out, hp.out⟩, ⟨h, (B'.out.below hbel.out).arg hu'.out, hq.out⟩⟩ ?_
  clear hbel hx
  rintro u0 ⟨bb, x0, A, B⟩
  go_cut [3, 4] from 13 to 20 (fun s t wx => ∃ Y gb gp gn gc gq gm ge, s = .pointer (some ⟨Y, 0, none⟩) ∧ t = .int .i64 (mkE p q) ∧ Box3 wx Y (.bool gb) (.slice gp gn gc) (.slice gq gm ge) ∧ Box3 wx w.heap.size (.bool ab) (.slice ap an ac) (.slice aq am ae) ∧ Rt wx gb gp gn gc gq gm ge (mkT p q) (mkB p q) ∧ Below w.heap.size w wx)
  case first =>
    have lx0 := x0.lt
    have bs := bb.size
    have sa0 := True.intro
    go_region_held3 (fun w' => w'.cell? ⟨w.heap.size, 0, none⟩ = some (.bool ab) ∧ w'.cell? ⟨w.heap.size, 1, none⟩ = some (.slice ap an ac) ∧ w'.cell? ⟨w.heap.size, 2, none⟩ = some (.slice aq am ae))
      (first | with_reducible exact ⟨(x0.drew).c0, (x0.drew).c1, (x0.drew).c2⟩ | with_reducible exact ⟨((x0.alloc _).drew).c0, ((x0.alloc _).drew).c1, ((x0.alloc _).drew).c2⟩ | with_reducible exact ⟨x0.c0, x0.c1, x0.c2⟩ | with_reducible exact ⟨(x0.alloc _).c0, (x0.alloc _).c1, (x0.alloc _).c2⟩ | with_reducible exact ⟨(x0.other3 (by omega) _ _ _).c0, (x0.other3 (by omega) _ _ _).c1, (x0.other3 (by omega) _ _ _).c2⟩ | go_keep)
      (first
      | (go_at_call 88; clear sa0; refine (upper_any ab ap aq an ac am ae _).mono ?_; rintro e u1 ⟨rfl, hb⟩; have hc : Below u0.heap.size u0 u1 := (by first | exact (Below.refl _ _).drew.trans hb | exact ((Below.refl _ _).alloc (by first | exact Nat.le_refl _ | (simp; done) | (simp; omega)) _).drew.trans (hb.mono (by first | (simp; done) | (simp; omega)))); have hz0 := hc.size; have x0 := x0.later hc; have A := A.below hc; have B := B.below hc; have bb := below_then bb (Nat.le_refl _) hc; (first | (with_reducible have m10 := made13' hb) | skip); (try have k10 := m10.lt); clear hb hc; have sa1 := True.intro)
      | (go_at_call 89; clear sa1; refine (lower_any ab ap aq an ac am ae _).mono ?_; rintro e u2 ⟨rfl, hb⟩; have hc : Below u1.heap.size u1 u2 := (by first | with_reducible exact hb | exact ((Below.refl _ _).alloc (by first | exact Nat.le_refl _ | (simp; done) | (simp; omega)) _).trans (hb.mono (by first | (simp; done) | (simp; omega)))); have hz1 := hc.size; have x0 := x0.later hc; have A := A.below hc; have B := B.below hc; have bb := below_then bb (Nat.le_refl _) hc; (try have m10 := m10.later hc); (first | (with_reducible have m20 := made13 hb) | skip); (try have k10 := m10.lt); (try have k20 := m20.lt); clear hb hc; have sa2 := True.intro)
      | (go_at_call 87; clear sa2; refine (make_any ab false ap aq an ac am ae p q _ ?_ ?_).mono ?_; (first | with_reducible exact A | with_reducible exact A.alloc _ | exact A.below ((Below.refl _ _).alloc (Nat.le_refl _) _)); (first | with_reducible exact B | with_reducible exact B.alloc _ | exact B.below ((Below.refl _ _).alloc (Nat.le_refl _) _)); rintro e u3 ⟨gb, gp, gn, gc, gq, gm, ge, rfl, G, hb⟩; have hc : Below u2.heap.size u2 u3 := (by first | with_reducible exact hb | exact ((Below.refl _ _).alloc (by first | exact Nat.le_refl _ | (simp; done) | (simp; omega)) _).trans (hb.mono (by first | (simp; done) | (simp; omega)))); have hz2 := hc.size; have x0 := x0.later hc; have bb := below_then bb (Nat.le_refl _) hc; (try have m10 := m10.later hc); (try have m20 := m20.later hc); (first | (with_reducible have m30 := made13 hb) | skip); (try have k10 := m10.lt); (try have k20 := m20.lt); (try have k30 := m30.lt); (try (have f100 := m10.c0; have f101 := m10.c1; have f102 := m10.fr 0; have f103 := m10.fr 1; have f104 := m10.c2; have f105 := m10.fr 2)); (try (have f200 := m20.c0; have f201 := m20.c1; have f202 := m20.fr 0; have f203 := m20.fr 1; have f204 := m20.c2; have f205 := m20.fr 2)); (try (have f300 := m30.c0; have f301 := m30.c1; have f302 := m30.fr 0; have f303 := m30.fr 1; have f304 := m30.c2; have f305 := m30.fr 2)); clear hb hc A B; have sa3 := True.intro))
    · go_wp2_with fail; go_meet; exact ⟨_, gb, gp, gn, gc, gq, gm, ge, rfl, rfl, (Box3.new _ _ _ _ (by first | (simp; done) | rfl)), (x0.alloc _), (G.alloc _), (Below.alloc bb (by first | omega | (simp; omega) | (simp; done)) _)⟩
    · go_wp2_with fail; go_meet; exact ⟨_, gb, gp, gn, gc, gq, gm, ge, rfl, rfl, (m30.set _ _ _), (x0.other3 (by omega) _ _ _), (G.box3 m30 _ _ _), (below_set3 bb (by omega) _ _ _)⟩
    · go_wp2_with fail; go_meet; exact ⟨_, gb, gp, gn, gc, gq, gm, ge, rfl, rfl, (m20.set _ _ _), (x0.other3 (by omega) _ _ _), (G.box3 m20 _ _ _), (below_set3 bb (by omega) _ _ _)⟩
    · go_wp2_with fail; go_meet; exact ⟨_, gb, gp, gn, gc, gq, gm, ge, rfl, rfl, (m10.set _ _ _), (x0.other3 (by omega) _ _ _), (G.box3 m10 _ _ _), (below_set3 bb (by omega) _ _ _)⟩
  case rest =>
    obtain ⟨Y, gb, gp, gn, gc, gq, gm, ge, rfl, rfl, y, x0, G, bb⟩ := hcut
    have yes : Hid (∀ P Q, Low P Q → Rt w ab ap an ac aq am ae P Q → p = P ∧ q = Q) := Lib.hid (fun P Q l R => ⟨hp.out.symm.trans (R.top.val_is (A'.out.arg ht'.out)), hq.out.symm.trans (R.bot.val_is (B'.out.arg hu'.out))⟩)
    obtain ⟨E, hE⟩ : ∃ E, Hid (mkE p q = E) := ⟨_, Lib.hid rfl⟩
    rw [hE.out]
    by_cases h0 : E = 0
    · subst h0
      have p0 := y.c0; have p1 := y.c1; have p2 := y.c2; have p3 := x0.c0; have p4 := x0.c1; have p5 := x0.c2
      replace bb := Lib.hid bb
      obtain ⟨g, g1, g2, g3, g4, g5⟩ := G.top.ex
      obtain ⟨k, k1, k2, k3, k4, k5⟩ := G.bot.ex
      replace g3 := Lib.hid g3; replace k3 := Lib.hid k3; replace g4 := Lib.hid g4; replace k4 := Lib.hid k4; replace g5 := Lib.hid g5; clear k5
      have A1 := Lib.hid (A'.out.below bb.out); have B1 := Lib.hid (B'.out.below bb.out)
      clear y x0 G A B
      go_wp2_with fail
      refine (sameP_any ab gb ap aq gp gq an ac am ae gn gc gm ge f h g k _ (by omega) (by omega) A1.out.sl B1.out.sl g3.out k3.out).mono ?_
      rintro e w2 ⟨r, rfl, hr, hb⟩
      have bb2 := Lib.hid (below_then bb.out (Nat.le_refl _) hb)
      replace hr := Lib.hid hr
      clear hb p0 p1 p2 p3 p4 p5
      go_wp2_with fail
      go_ret
      refine ⟨r, rfl, ?_, ?_, bb2.out⟩
      · intro e
        obtain ⟨rfl, ⟨rfl, h2⟩, rfl, h4⟩ := hr.out.1 e
        exact ⟨mkT p q, mkB p q, mk_low hE.out, ⟨g, A'.out.len, A'.out.cap, A'.out.sl.congr h2, g4.out, g5.out⟩, ⟨k, B'.out.len, B'.out.cap, B'.out.sl.congr h4, k4.out, by simp⟩⟩
      · intro P Q l R
        obtain ⟨e1, e2⟩ := yes.out P Q l R
        subst e1 e2
        obtain ⟨_, e3, e4⟩ := mk_self l
        have cf := R.top.canon (A'.out.arg ht'.out); have ch := R.bot.canon (B'.out.arg hu'.out)
        have g4 := g4.out; have k4 := k4.out; have g5 := g5.out
        rw [e3] at g4 g5; rw [e4] at k4
        exact hr.out.2 ⟨R.top.neg.trans g5.symm, ⟨cf.len g4, cf.eq g4⟩, ch.len k4, ch.eq k4⟩
    · have h0' := Lib.hid h0
      clear y x0 G A B
      go_wp2_with fail
      go_ret
      refine ⟨false, rfl, (fun h => by cases h), ?_, bb⟩
      intro P Q l R
      obtain ⟨e1, e2⟩ := yes.out P Q l R
      subst e1 e2
      exact absurd (hE.out.symm.trans (mk_self l).1) h0'.out

theorem numRightP_any (N : NumF) (c0 c1 c2 : Value) (w : World) (h : NumP w N c0 c1 c2) :
    Calls Tryz.prog 78 #[.agg #[c0, c1, c2]] w (BoolPost (RightF N) w) := by
  obtain ⟨neg, an, fa, am, ga⟩ := N
  obtain ⟨rfl, ⟨ao, ac, rfl, hn, hs, hl⟩, ⟨bo, bc, rfl, hm, hs', hl'⟩⟩ := h
  refine (rightP_any neg ao bo an ac am bc fa ga w ⟨hn.1, hn.2.1, hs, hl⟩ ⟨hm.1, hm.2.1, hs', hl'⟩).mono ?_
  rintro e w' ⟨r, rfl, h1, h2, hb⟩
  refine ⟨r, rfl, ⟨fun hr => ?_, fun ⟨P, Q, lw, e1, e2, e3⟩ => ?_⟩, hb⟩
  · obtain ⟨P, Q, lw, R⟩ := h1 hr
    have n1 := R.top.len_le32 lw.2.2.1
    have n2 := R.bot.len_le32 (x := (Q : Int)) (by simpa using lw.2.2.2)
    have k1 := R.top.canon ⟨hn.1, hn.2.1, by omega, hs, hl⟩
    have k2 := R.bot.canon ⟨hm.1, hm.2.1, by omega, hs', hl'⟩
    obtain ⟨_, _, _, _, _, e⟩ := R.top.ex
    exact ⟨P, Q, lw, e, k1, by simpa using k2⟩
  · refine h2 P Q lw ⟨⟨fa, hn.1, hn.2.1, hs, e2, e1⟩, ⟨ga, hm.1, hm.2.1, hs', by simpa using e3, by simp⟩⟩

/-- A number is none: all its fields are empty. -/
theorem zeroP_any (N : NumF) (c0 c1 c2 : Value) (w : World) (h : NumP w N c0 c1 c2) :
    Calls Tryz.prog 67 #[.agg #[c0, c1, c2], .agg #[.bool false, .slice none 0 0, .slice none 0 0]] w (Tell (.bool (zeroF N)) w) := by
  obtain ⟨neg, an, fa, am, ga⟩ := N
  obtain ⟨rfl, ⟨ao, ac, rfl, hn, hs, hl⟩, ⟨bo, bc, rfl, hm, hs', hl'⟩⟩ := h
  have h1 := hn.1; have h2 := hn.2.1; have h3 := hm.1; have h4 := hm.2.1
  refine (sameP_any neg false ao bo none none an ac am bc 0 0 0 0 fa ga (fun _ => 0) (fun _ => 0) w (Nat.le_trans h1 h2) (Nat.le_trans h3 h4) hs hs' (.inl rfl) (.inl rfl)).mono ?_
  rintro e w' ⟨r, rfl, hr, hb⟩
  refine ⟨congrArg (fun b => Ending.returned (.bool b)) ?_, hb⟩
  rw [Bool.eq_iff_iff, hr]
  unfold zeroF
  simp only [Bool.and_eq_true, Bool.not_eq_true', decide_eq_true_eq]
  constructor
  · rintro ⟨rfl, ⟨h, _⟩, h', _⟩; exact ⟨⟨rfl, h⟩, h'⟩
  · rintro ⟨⟨rfl, h⟩, h'⟩; exact ⟨rfl, ⟨h, fun j hj => by omega⟩, h', fun j hj => by omega⟩

end Go.Proofs.YtmkjebembicljaaGreat

namespace Go.Proofs.YtmkjebembicljaaGreat
open Go.RowKit

theorem prodZ_nonneg {f : Nat → Int} : ∀ n, (∀ j, j < n → 0 ≤ f j) → 0 ≤ prodZ f n
  | 0, _ => by show (0 : Int) ≤ 1; decide
  | n + 1, h => Int.mul_nonneg (prodZ_nonneg n fun j hj => h j (by omega)) (h n (by omega))

theorem Shape.nonneg {f : Nat → Int} {n : Nat} {N : Int} (h : Shape f n N) : 0 ≤ N := by rw [h.all]; exact prodZ_nonneg n h.low

/-- Of a shape with a cell no length is 0. -/
theorem Shape.pos {f : Nat → Int} {n : Nat} {N : Int} (h : Shape f n N) (k : 0 < N) : ∀ j, j < n → 0 < f j := by
  intro j hj
  have h1 := h.low j hj
  have h2 : f j ≠ 0 := fun e => by have := h.all; rw [prodZ_zero e n hj] at this; omega
  omega

theorem infoRow : (Tryz.prog.info? 23).map (fun i => (i.zero, i.size, i.bytes)) = some (some (.slice none 0 0), 1, 24) := by kernel_rfl

theorem made_zeros (n : Nat) : (madeCells #[Value.int .i64 0] n).toList = intCells (fun _ => 0) n := by
  rw [toList_madeCells_one]
  refine List.ext_getElem? fun j => ?_
  by_cases hj : j < n
  · rw [intCells_get _ _ _ hj]; simp [hj]
  · rw [List.getElem?_eq_none (by simp; omega), List.getElem?_eq_none (by rw [intCells_length]; omega)]

/-- Rows of two kinds lie apart. -/
theorem own_apart {w : World} {B C s1 s2 n m : Nat} {t u : TypeId} {v x : Value} {xs ys : List Value} (h : w.ownsRow B t s1 v n xs) (k : w.ownsRow C u s2 x m ys) (ne : t ≠ u) : v.ownBlock = none ∨ v.ownBlock ≠ x.ownBlock := by
  rcases h.2 with ⟨rfl, _⟩ | ⟨g, cap, cur, rfl, _, hg, _⟩
  · exact .inl rfl
  · rcases k.2 with ⟨rfl, _⟩ | ⟨g', cap', cur', rfl, _, hg', _⟩
    · exact .inr (by simp [Value.ownBlock])
    · refine .inr fun e => ?_
      simp only [Value.ownBlock, Option.some.injEq] at e
      subst e
      rw [hg] at hg'
      cases hg'
      exact ne rfl

/-- A row of values. -/
def valCells (vs : Nat → Value) (n : Nat) : List Value := (List.range n).map vs

theorem valCells_length (vs : Nat → Value) (n : Nat) : (valCells vs n).length = n := by simp [valCells]

theorem valCells_get (vs : Nat → Value) (n j : Nat) (h : j < n) : (valCells vs n)[j]? = some (vs j) := by simp [valCells, h]

def putV (vs : Nat → Value) (i : Nat) (x : Value) (j : Nat) : Value := if j = i then x else vs j

theorem valCells_snoc (vs : Nat → Value) (j : Nat) (x : Value) : valCells vs j ++ [x] = valCells (putV vs j x) (j + 1) := by
  unfold valCells
  rw [List.range_succ, List.map_append]
  congr 1
  · refine List.map_congr_left fun t ht => ?_
    have := List.mem_range.1 ht
    unfold putV
    rw [if_neg (by omega)]
  · simp [putV]

/-- A row that a call has made is the place of a cell. -/
def RowIs (B : Nat) (f : Nat → Int) (n : Nat) (w : World) (v : Value) (c : Int) : Prop := ∃ g, w.ownsRow B 3 1 v n (intCells g n) ∧ PlaceIs f g n c

/-- The places of all cells, or none: Count tells an error. -/
def PlacesPost (f : Nat → Int) (n : Nat) (w : World) (e : Ending) (w' : World) : Prop :=
  ∃ (ao : Option Addr) (N nc : Nat) (vs : Nat → Value), e = .returned (.slice ao N nc) ∧ N ≤ nc ∧ nc ≤ 9223372036854775807 ∧ ((N = 0 ∧ ∀ M, ¬ Shape f n M) ∨ Shape f n N) ∧
    (N = 0 ∨ ∃ g, ao = some ⟨g, 0, none⟩ ∧ ∀ j, j < N → w'.cell? ⟨g, j, none⟩ = some (vs j)) ∧ (∀ j, j < N → RowIs w.heap.size f n w' (vs j) j) ∧ Below w.heap.size w w'

theorem own_vals {w : World} {B n : Nat} {t : TypeId} {v : Value} {vs : Nat → Value} (h : w.ownsRow B t 1 v n (valCells vs n)) : ∃ ao cap, v = .slice ao n cap ∧ n ≤ cap ∧ cap ≤ 9223372036854775807 ∧ (n = 0 ∨ ∃ g, ao = some ⟨g, 0, none⟩ ∧ ∀ j, j < n → w.cell? ⟨g, j, none⟩ = some (vs j)) := by
  rcases h.2 with ⟨rfl, rfl⟩ | ⟨g, cap, cur, hv, hb, hg, hnc, hcm, hcs, ht⟩
  · exact ⟨none, 0, rfl, Nat.le_refl _, by omega, .inl rfl⟩
  · subst hv
    exact ⟨_, cap, rfl, hnc, by unfold maxLen at hcm; omega, .inr ⟨g, rfl, fun j hj => by rw [h.cellAt j (by omega), valCells_get vs n j hj]⟩⟩

theorem RowIs.kept {B n : Nat} {f : Nat → Int} {w w' : World} {v : Value} {c : Int} (h : RowIs B f n w v c) {C m : Nat} {x : Value} {ys : List Value} (hx : w.ownsRow C 23 1 x m ys) (hg : w.grownBy w' x.ownBlock) : RowIs B f n w' v c := by
  obtain ⟨g, h1, h2⟩ := h
  exact ⟨g, h1.kept hg (own_apart h1 hx (by decide)), h2⟩

theorem RowIs.later {B n : Nat} {f : Nat → Int} {w w' : World} {v : Value} {c : Int} (h : RowIs B f n w v c) (hb : Below w.heap.size w w') : RowIs B f n w' v c := by
  obtain ⟨g, h1, h2⟩ := h
  exact ⟨g, owns_later h1 hb, h2⟩

end Go.Proofs.YtmkjebembicljaaGreat

namespace Go.Proofs.YtmkjebembicljaaGreat
open Go.RowKit

/-- k is the cell of a place, or -1: there is none. -/
def IndexIs (f : Nat → Int) (n : Nat) (g : Nat → Int) (m : Nat) (k : Int) : Prop :=
  ((∃ N, Shape f n N) ∧ m = n ∧ PlaceIs f g n k) ∨ (k = -1 ∧ ¬ ((∃ N, Shape f n N) ∧ m = n ∧ ∃ c, PlaceIs f g n c))

theorem PlaceIs.range {f g : Nat → Int} {n : Nat} {c N : Int} (h : PlaceIs f g n c) (s : Shape f n N) : 0 ≤ c ∧ c < N := by
  obtain ⟨a, b⟩ := cellZ_bound n h.1
  rw [h.2] at a b
  rw [s.all]
  exact ⟨a, b⟩

theorem IndexIs.uniq {f : Nat → Int} {n : Nat} {g : Nat → Int} {m : Nat} {k l : Int} (a : IndexIs f n g m k) (b : IndexIs f n g m l) : k = l := by
  rcases a with ⟨a1, a2, a3⟩ | ⟨a1, a2⟩ <;> rcases b with ⟨b1, b2, b3⟩ | ⟨b1, b2⟩
  · exact a3.2.symm.trans b3.2
  · exact absurd ⟨a1, a2, _, a3⟩ b2
  · exact absurd ⟨b1, b2, _, b3⟩ a2
  · rw [a1, b1]

theorem PlaceIs.congr {f g h : Nat → Int} {n : Nat} {c : Int} (a : PlaceIs f g n c) (e : ∀ j, j < n → g j = h j) : PlaceIs f h n c :=
  ⟨fun j hj => by rw [← e j hj]; exact a.1 j hj, by rw [← cellZ_congr n e]; exact a.2⟩

end Go.Proofs.YtmkjebembicljaaGreat
