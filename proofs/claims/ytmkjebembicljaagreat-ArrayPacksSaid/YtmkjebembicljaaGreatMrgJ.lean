/-
  array.Scalar, Unpack, Pack.
-/
import Derived.Test.YtmkjebembicljaaGreatMrgI
namespace Go.Proofs.YtmkjebembicljaaGreat
open Go.RowKit Num

theorem CellRQ.plain {w : World} {Q : Nat → Prop} {c : CellD} {e : Nat → Value} (h : CellRQ w Q c e) : CellR w c e := by
  obtain ⟨q0, q1, q2, q3, ⟨p0, ⟨ao, ac, p1, p2, p3, p4⟩, ⟨bo, bc, p5, p6, p7, p8⟩⟩, q5, q6, io, kc, q7, q8, q9⟩ := h
  refine ⟨q0, q1, q2, q3, ⟨p0, ⟨ao, ac, p1, p2, p3.plain, p4⟩, ⟨bo, bc, p5, p6, p7.plain, p8⟩⟩, q5, q6, io, kc, q7, q8, ?_⟩
  rcases q9 with q9 | ⟨b', o', rfl, _, q9⟩
  · exact .inl q9
  · refine .inr ⟨b', o', rfl, fun j hj => ?_⟩
    obtain ⟨d0, d1, d2, r0, r1, r2, r3⟩ := q9 j hj
    exact ⟨d0, d1, d2, r0, r1, r2, ArrQ.plain _ _ _ _ r3⟩

theorem isZ2 : IsZ 2 := ⟨by decide, by decide⟩

theorem isN1 : IsN 1 1 := ⟨Nat.le_refl _, by decide, by decide⟩

/-- A cell that lies in a new block is an array of one cell. -/
theorem scalarQ {w : World} {c : CellD} {Q Q' : Nat → Prop} {e : Nat → Value} {U : Nat} (t : TypeId) (h : CellRQ w Q c e) (hQ : ∀ b, Q b → b < w.heap.size → Q' b) (hU : U = w.heap.size) (hn : Q' U) :
    ArrQ (w.alloc (.cells #[e 0, e 1, e 2, e 3, e 4, e 5, e 6] t)) Q' (scalarT c) (.int .u64 ((0 : Nat) : Int)) (.slice none 0 0) (.slice (some ⟨U, 0, none⟩) 1 1) := by
  have hb : Below w.heap.size w (w.alloc (.cells #[e 0, e 1, e 2, e 3, e 4, e 5, e 6] t)) := (Below.refl _ _).alloc (Nat.le_refl _) _
  have n7 := Box7.new (w := w) (B := U) (e 0) (e 1) (e 2) (e 3) (e 4) (e 5) (e 6) t hU
  refine ⟨rfl, isL0, ⟨none, 0, rfl, isN0, .inl rfl, fun j hj => absurd hj (Nat.not_lt_zero _)⟩, _, 1, rfl, isN1, .inr ⟨U, 0, rfl, hn, fun i hi => ?_⟩⟩
  obtain rfl : i = 0 := by omega
  refine ⟨e, fun t ht => ?_, h.keep (fun b _ hlt => hb.block b hlt) hQ⟩
  have : t = 0 ∨ t = 1 ∨ t = 2 ∨ t = 3 ∨ t = 4 ∨ t = 5 ∨ t = 6 := by omega
  rcases this with rfl | rfl | rfl | rfl | rfl | rfl | rfl
  · exact n7.c0
  · exact n7.c1
  · exact n7.c2
  · exact n7.c3
  · exact n7.c4
  · exact n7.c5
  · exact n7.c6

set_option maxRecDepth 20000 in
set_option maxHeartbeats 4000000 in
theorem scalarW (c : CellD) (e : Nat → Value) (w : World) (h : CellR w c e) (hp : partsC c ≤ 5000) :
    Calls Tryz.prog 15 #[.agg #[e 0, e 1, e 2, e 3, e 4, e 5, e 6]] w (TreeNew (scalarT c) w) := by
  have h' := Lib.hid h
  obtain ⟨p0, _, p1, _, ⟨p2, ⟨a1, ac, p3, ha, _⟩, ⟨b1, bc, p4, hb, _⟩⟩, p5, _, io, kc, p6, hk, _⟩ := h
  have n1 := ha.1; have n2 := ha.2.1; have n3 := hb.1; have n4 := hb.2.1; have n5 := hk.1; have n6 := hk.2.1
  have hv := Lib.hid (show (Value.agg #[.int .u64 c.L, .int .i64 c.K, .bool c.N.neg, .slice a1 c.N.an ac, .slice b1 c.N.am bc, .int .i64 c.C, .slice io c.k kc]) = .agg #[e 0, e 1, e 2, e 3, e 4, e 5, e 6] by rw [p0, p1, p2, p3, p4, p5, p6])
  rw [p0, p1, p2, p3, p4, p5, p6]
  have hbel := (((Below.refl w.heap.size w).alloc (Nat.le_refl _) (.cells #[.int .u64 c.L, .int .i64 c.K, .bool c.N.neg, .slice a1 c.N.an ac, .slice b1 c.N.am bc, .int .i64 c.C, .slice io c.k kc] 32)).alloc (by simp) (.cells #[.int .u64 0, .slice none 0 0, .slice none 0 0] 26))
  have hx := (Box7.new (w := w) (B := w.heap.size) (.int .u64 c.L) (.int .i64 c.K) (.bool c.N.neg) (.slice a1 c.N.an ac) (.slice b1 c.N.am bc) (.int .i64 c.C) (.slice io c.k kc) 32 rfl).alloc (.cells #[.int .u64 0, .slice none 0 0, .slice none 0 0] 26)
  have hy := Box3.new (w := w.alloc (.cells #[.int .u64 c.L, .int .i64 c.K, .bool c.N.neg, .slice a1 c.N.an ac, .slice b1 c.N.am bc, .int .i64 c.C, .slice io c.k kc] 32)) (B := w.heap.size + 1) (.int .u64 0) (.slice none 0 0) (.slice none 0 0) 26 (by simp)
  clear p0 p1 p2 p3 p4 p5 p6 ha hb hk
  go_enter Tryz.func15, Tryz.ntmps15
  go_upto_region 1 with fail
  refine told_wp (fun w' => Below w.heap.size w w' ∧ Box7 w' w.heap.size (.int .u64 c.L) (.int .i64 c.K) (.bool c.N.neg) (.slice a1 c.N.an ac) (.slice b1 c.N.am bc) (.int .i64 c.C) (.slice io c.k kc) ∧ Box3 w' (w.heap.size + 1) (.int .u64 0) (.slice none 0 0) (.slice none 0 0)) ⟨hbel, hx, hy⟩ ?_
  clear hbel hx hy
  rintro w2 ⟨b2, x2, y2⟩
  have hcall : Calls Tryz.prog 28 #[.agg #[.int .u64 c.L, .int .i64 c.K, .bool c.N.neg, .slice a1 c.N.an ac, .slice b1 c.N.am bc, .int .i64 c.C, .slice io c.k kc], .func (.func 27) #[] #[]] w2 (CellNew (mapC Md.same.g c) w2) := by rw [hv.out]; exact cellBy_any .same c e w2 (h'.out.later b2) trivial hp
  replace hcall := Lib.hid hcall
  have g0 := x2.c0; have g1 := x2.c1; have g2 := x2.c2; have g3 := x2.c3; have g4 := x2.c4; have g5 := x2.c5; have g6 := x2.c6
  have hy2 := Lib.hid y2; have hb2 := Lib.hid b2
  clear x2 y2 b2
  go_wp2_with fail
  refine hcall.out.mono ?_
  intro e1 w3 hnew
  rw [mapC_same] at hnew
  obtain ⟨bo, co', io', bc', cc', kc', rfl, hres, hb3⟩ := hnew.form
  have y3 := hy2.out.later hb3
  have hlt2 := hy2.out.lt
  have d0 := y3.c0; have d1 := y3.c1; have d2 := y3.c2
  have f0 := y3.fr 0; have f1 := y3.fr 1; have f2 := y3.fr 2
  have hsz : w.heap.size + 1 < w3.heap.size := y3.lt
  have z := y3.set (.int .u64 0) (.slice none 0 0) (.slice (some ⟨w3.heap.size, 0, none⟩) 1 1)
  have bz := below_set3 (hb2.out.trans (hb3.mono hb2.out.size)) (B := w.heap.size + 1) (by omega) (.int .u64 0) (.slice none 0 0) (.slice (some ⟨w3.heap.size, 0, none⟩) 1 1)
  have hres2 := hres.keep (Q' := (w.heap.size ≤ ·)) (w' := ((w3.setCell ⟨w.heap.size + 1, 0, none⟩ (.int .u64 0)).setCell ⟨w.heap.size + 1, 1, none⟩ (.slice none 0 0)).setCell ⟨w.heap.size + 1, 2, none⟩ (.slice (some ⟨w3.heap.size, 0, none⟩) 1 1)) (fun b hb _ => heap_set3 (by omega) _ _ _) (fun b hb _ => by omega)
  have hmade := Lib.hid (scalarQ (U := w3.heap.size) (Q' := (w.heap.size ≤ ·)) 32 hres2 (fun b hb _ => hb) (by simp) (by omega))
  have zA := z.alloc (.cells #[.int .u64 (c.L : Nat), .int .i64 c.K, .bool c.N.neg, .slice bo c.N.an bc', .slice co' c.N.am cc', .int .i64 c.C, .slice io' c.k kc'] 32)
  have e0 := zA.c0; have e1 := zA.c1; have e2 := zA.c2
  have hbw := Lib.hid (bz.alloc bz.size (.cells #[.int .u64 (c.L : Nat), .int .i64 c.K, .bool c.N.neg, .slice bo c.N.an bc', .slice co' c.N.am cc', .int .i64 c.C, .slice io' c.k kc'] 32))
  clear y3 z zA bz hres hres2 hb3 hcall hnew g0 g1 g2 g3 g4 g5 g6
  go_wp2_with fail
  refine bodyPost_ret (v := .agg #[.int .u64 0, .slice none 0 0, .slice (some ⟨w3.heap.size, 0, none⟩) 1 1]) (by simp [results, Tryz.results15, go_sem, e0, e1, e2]) rfl ?_
  exact ⟨_, _, _, rfl, hmade.out, hbw.out⟩

theorem scalar_parts {c : CellD} (h : partsT (scalarT c) ≤ 5000) : partsC c ≤ 5000 := by
  have h' : 1 + 0 + (0 + (1 + c.N.an + c.N.am + sumN (fun j => partsT (c.sub j)) c.k)) ≤ 5000 := h
  show 1 + c.N.an + c.N.am + sumN (fun j => partsT (c.sub j)) c.k ≤ 5000
  omega

theorem scalarC : ScalarC := fun c e w h hp => (scalarW c e w h (scalar_parts hp)).mono fun _ _ h => h.plain

set_option maxRecDepth 20000 in
set_option maxHeartbeats 4000000 in
theorem unpackW (c : CellD) (e : Nat → Value) (w : World) (h : CellR w c e) (hp : partsC c ≤ 5000) :
    Calls Tryz.prog 7 #[.agg #[e 0, e 1, e 2, e 3, e 4, e 5, e 6]] w (TreePost (unpackT c) w) := by
  have h' := Lib.hid h
  obtain ⟨p0, pL, p1, _, ⟨p2, ⟨a1, ac, p3, ha, _⟩, ⟨b1, bc, p4, hb, _⟩⟩, p5, _, io, kc, p6, hk, hrow⟩ := h
  have n1 := ha.1; have n2 := ha.2.1; have n3 := hb.1; have n4 := hb.2.1; have n5 := hk.1; have n6 := hk.2.1
  have hv := Lib.hid (show (Value.agg #[.int .u64 c.L, .int .i64 c.K, .bool c.N.neg, .slice a1 c.N.an ac, .slice b1 c.N.am bc, .int .i64 c.C, .slice io c.k kc]) = .agg #[e 0, e 1, e 2, e 3, e 4, e 5, e 6] by rw [p0, p1, p2, p3, p4, p5, p6])
  rw [p0, p1, p2, p3, p4, p5, p6]
  have hrow' : Hid (RowP w io c.k fun j d0 d1 d2 => ArrP w (c.sub j) d0 d1 d2) := Lib.hid hrow
  have hLs := Lib.hid pL
  have hbel := (((Below.refl w.heap.size w).alloc (Nat.le_refl _) (.cells #[.int .u64 c.L, .int .i64 c.K, .bool c.N.neg, .slice a1 c.N.an ac, .slice b1 c.N.am bc, .int .i64 c.C, .slice io c.k kc] 32)).alloc (by simp) (.cells #[.int .u64 0, .slice none 0 0, .slice none 0 0] 26))
  have hx := (Box7.new (w := w) (B := w.heap.size) (.int .u64 c.L) (.int .i64 c.K) (.bool c.N.neg) (.slice a1 c.N.an ac) (.slice b1 c.N.am bc) (.int .i64 c.C) (.slice io c.k kc) 32 rfl).alloc (.cells #[.int .u64 0, .slice none 0 0, .slice none 0 0] 26)
  have hy := Box3.new (w := w.alloc (.cells #[.int .u64 c.L, .int .i64 c.K, .bool c.N.neg, .slice a1 c.N.an ac, .slice b1 c.N.am bc, .int .i64 c.C, .slice io c.k kc] 32)) (B := w.heap.size + 1) (.int .u64 0) (.slice none 0 0) (.slice none 0 0) 26 (by simp)
  clear p0 p1 p2 p3 p4 p5 p6 ha hb hk hrow pL
  go_enter Tryz.func7, Tryz.ntmps7
  go_upto_region 1 with fail
  refine told_wp (fun w' => Below w.heap.size w w' ∧ Box7 w' w.heap.size (.int .u64 c.L) (.int .i64 c.K) (.bool c.N.neg) (.slice a1 c.N.an ac) (.slice b1 c.N.am bc) (.int .i64 c.C) (.slice io c.k kc) ∧ Box3 w' (w.heap.size + 1) (.int .u64 0) (.slice none 0 0) (.slice none 0 0)) ⟨hbel, hx, hy⟩ ?_
  clear hbel hx hy
  rintro w2 ⟨b2, x2, y2⟩
  have hlt2 := y2.lt
  by_cases hKk : c.K = 2 ∧ c.k = 1
  · obtain ⟨hK, hk1⟩ := hKk
    rcases hrow'.out with h0 | ⟨b, o, rfl, hrows⟩
    · omega
    obtain ⟨u0, u1, u2, r0, r1, r2, r3⟩ := hrows 0 (by omega)
    obtain ⟨S, n, nc, m, mc, ao, co, rfl, rfl, rfl⟩ := (ArrP.within _ _ _ _ r3).form
    rw [Nat.zero_mul, Nat.add_zero] at r0 r1 r2
    have hbl := blk_lt r0
    have s0 := cell_below r0 b2; have s1 := cell_below r1 b2; have s2 := cell_below r2 b2
    have hA := ArrP.below _ _ _ _ r3 b2
    have hup := Lib.hid (show unpackT c = raiseT (c.sub 0) c.L from if_pos ⟨hK, hk1⟩)
    have hps := Lib.hid (Nat.le_trans (partsC_sub (c := c) (j := 0) (by omega)) hp)
    clear hrows r0 r1 r2 r3
    have q1 := x2.c1; have q6 := x2.c6
    rw [hK] at q1; rw [hk1] at q6
    go_upto_region 2 with fail
    have q0 := x2.c0
    clear q1
    have sb0 := True.intro
    have T1 : w2.drew.cell? ⟨w.heap.size, 0, none⟩ = some (.int .u64 c.L) ∧ w2.drew.cell? ⟨w.heap.size, 6, none⟩ = some (.slice (some ⟨b, o, none⟩) 1 kc) ∧ w2.drew.cell? ⟨b, o, none⟩ = some (.int .u64 S) ∧ w2.drew.cell? ⟨b, o + 1, none⟩ = some (.slice ao n nc) ∧ w2.drew.cell? ⟨b, o + 2, none⟩ = some (.slice co m mc) := ⟨q0, q6, s0, s1, s2⟩
    go_region_held3 (fun w' => w'.cell? ⟨w.heap.size, 0, none⟩ = some (.int .u64 c.L) ∧ w'.cell? ⟨w.heap.size, 6, none⟩ = some (.slice (some ⟨b, o, none⟩) 1 kc) ∧ w'.cell? ⟨b, o, none⟩ = some (.int .u64 S) ∧ w'.cell? ⟨b, o + 1, none⟩ = some (.slice ao n nc) ∧ w'.cell? ⟨b, o + 2, none⟩ = some (.slice co m mc))
      (first | with_reducible exact T1 | with_reducible exact T2 | exact ⟨cell_kept T2.1 (heap_set3 (by omega) _ _ _), cell_kept T2.2.1 (heap_set3 (by omega) _ _ _), cell_kept T2.2.2.1 (heap_set3 (by omega) _ _ _), cell_kept T2.2.2.2.1 (heap_set3 (by omega) _ _ _), cell_kept T2.2.2.2.2 (heap_set3 (by omega) _ _ _)⟩)
      (first
      | (go_at_call 30; clear sb0; have hd := (Below.refl w2.heap.size w2).drew; have bb := b2.drew; have y := y2.drew; have hA := ArrP.below _ _ _ _ hA hd; clear hd; refine (raiseW (c.sub 0) c.L _ _ _ _ hA hps.out hLs.out).mono ?_; intro e w' hnew; obtain ⟨S', n', nc', m', mc', ao', co', rfl, hQ, hb3⟩ := hnew.form; have T2 := And.intro (cell_below T1.1 hb3) (And.intro (cell_below T1.2.1 hb3) (And.intro (cell_below T1.2.2.1 hb3) (And.intro (cell_below T1.2.2.2.1 hb3) (cell_below T1.2.2.2.2 hb3)))); have hlt3 := y.lt; have bb := below_then bb (Nat.le_refl _) hb3; have y := y.later hb3; clear hb3 hnew; have d0 := y.c0; have d1 := y.c1; have d2 := y.c2; have f0 := y.fr 0; have f1 := y.fr 1; have f2 := y.fr 2; have sb1 := True.intro))
    have z := y.set (.int .u64 (S' : Nat)) (.slice ao' n' nc') (.slice co' m' mc')
    have e0 := z.c0; have e1 := z.c1; have e2 := z.c2
    have hbw := Lib.hid (below_set3 bb (B := w.heap.size + 1) (by omega) (.int .u64 (S' : Nat)) (.slice ao' n' nc') (.slice co' m' mc'))
    have hres := Lib.hid (tree_stored hQ hlt3 (.int .u64 (S' : Nat)) (.slice ao' n' nc') (.slice co' m' mc'))
    clear z y y2 x2 bb b2 hQ T1 T2 s0 s1 s2 q0 q6 hA
    go_wp2_with fail
    refine bodyPost_ret (v := .agg #[.int .u64 (S' : Nat), .slice ao' n' nc', .slice co' m' mc']) (by simp [results, Tryz.results7, go_sem, e0, e1, e2]) rfl ?_
    rw [hup.out]
    exact ⟨_, _, _, rfl, hres.out, hbw.out⟩
  · have hup := Lib.hid (show unpackT c = .arr c.L 0 (fun _ => 0) 1 (fun _ => c.L) (fun _ => c.K) (fun _ => c.C) (fun _ => c.N) (fun _ => c.k) (fun _ => c.sub) from if_neg hKk)
    have q1 := x2.c1; have q6 := x2.c6
    have hcall := scalarW c e w2 (h'.out.later b2) hp
    rw [← hv.out] at hcall
    replace hcall := Lib.hid hcall
    have hb2 := Lib.hid b2; have hx2 := Lib.hid x2; have hy2 := Lib.hid y2
    have q0 := x2.c0; have q2 := x2.c2; have q3 := x2.c3; have q4 := x2.c4; have q5 := x2.c5
    clear b2 x2 y2
    obtain ⟨kb, hkb⟩ : ∃ b, b = ((c.K == 2) && ((c.k : Int) == 1)) := ⟨_, rfl⟩
    have hkf : kb = false := by
      rw [hkb, ← Bool.not_eq_true, Bool.and_eq_true, beq_iff_eq, beq_iff_eq]
      rintro ⟨h1, h2⟩
      exact hKk ⟨h1, by omega⟩
    have hK2 : (c.K == 2) = false ∨ ((c.K == 2) = true ∧ ((c.k : Int) == 1) = false) := by
      cases h1 : (c.K == 2)
      · exact .inl rfl
      · right
        rw [hkb, h1, Bool.true_and] at hkf
        exact ⟨rfl, hkf⟩
    clear hkb hkf hKk
    rcases hK2 with hK2 | ⟨hK2, hk2⟩
    all_goals
      go_wp2_with fail
      refine hcall.out.mono ?_
      intro e1 w3 hnew
      obtain ⟨S', n', nc', m', mc', ao', co', rfl, hQ, hb3⟩ := hnew.form
      obtain ⟨R, hR⟩ : ∃ R, R = w3.heap.size := ⟨_, rfl⟩
      have hb4 := (Below.refl w3.heap.size w3).alloc (Nat.le_refl _) (.cells #[.int .u64 (S' : Nat), .slice ao' n' nc', .slice co' m' mc'] 26)
      have hQ4 := ArrQ.keep (w' := w3.alloc (.cells #[.int .u64 (S' : Nat), .slice ao' n' nc', .slice co' m' mc'] 26)) (fun b _ hlt => hb4.block b hlt) (Q' := fun b => w.heap.size + 2 ≤ b ∧ b < R) (fun b hq hlt => ⟨by omega, by omega⟩) _ _ _ _ hQ
      have hx4 := (hx2.out.later hb3).later hb4
      have hy4 := (hy2.out.later hb3).later hb4
      have hbb := (hb2.out.trans (hb3.mono hb2.out.size)).trans (hb4.mono (Nat.le_trans hb2.out.size hb3.size))
      have hr4 := Box3.new (w := w3) (B := R) (.int .u64 (S' : Nat)) (.slice ao' n' nc') (.slice co' m' mc') 26 hR
      have hltR : w.heap.size + 1 < R := by have := hb3.size; omega
      clear q0 q1 q2 q3 q4 q5 q6 hcall hnew hb3 hb4 hQ hx2 hy2 hb2
      go_upto_region 4 with fail
      rw [← hR]
      refine told_wp (fun w' => Below w.heap.size w w' ∧ Box7 w' w.heap.size (.int .u64 c.L) (.int .i64 c.K) (.bool c.N.neg) (.slice a1 c.N.an ac) (.slice b1 c.N.am bc) (.int .i64 c.C) (.slice io c.k kc) ∧ Box3 w' (w.heap.size + 1) (.int .u64 0) (.slice none 0 0) (.slice none 0 0) ∧ Box3 w' R (.int .u64 (S' : Nat)) (.slice ao' n' nc') (.slice co' m' mc') ∧ ArrQ w' (fun b => w.heap.size + 2 ≤ b ∧ b < R) (scalarT c) (.int .u64 (S' : Nat)) (.slice ao' n' nc') (.slice co' m' mc')) ⟨hbb, hx4, hy4, hr4, hQ4⟩ ?_
      clear hbb hx4 hy4 hr4 hQ4 hR
      rintro w5 ⟨b5, x5, y5, r5, hQ5⟩
      have q0 := x5.c0
      have p0 := r5.c0; have p1 := r5.fr 0
      have r6 := r5.set0 (.int .u64 (c.L : Nat))
      have y6 := y5.aside (show w.heap.size + 1 ≠ R by omega) 0 (.int .u64 (c.L : Nat))
      have b6 := b5.setCell (p := ⟨R, 0, none⟩) (show w.heap.size ≤ R by omega) (.int .u64 (c.L : Nat))
      have hQ6 : ArrQ (w5.setCell ⟨R, 0, none⟩ (.int .u64 (c.L : Nat))) (fun b => w.heap.size + 2 ≤ b ∧ b < R) (scalarT c) (.int .u64 (S' : Nat)) (.slice ao' n' nc') (.slice co' m' mc') := ArrQ.keep (fun b hq _ => Below.heap_setCell _ _ _ _ (by show b ≠ R; omega)) (fun _ hq _ => hq) _ _ _ _ hQ5
      have H := And.intro b6 (And.intro y6 (And.intro r6 hQ6))
      clear b5 x5 y5 r5 hQ5 b6 y6 r6 hQ6
      go_upto_region 5 with fail
      refine told_wp (fun w' => Below w.heap.size w w' ∧ Box3 w' (w.heap.size + 1) (.int .u64 0) (.slice none 0 0) (.slice none 0 0) ∧ Box3 w' R (.int .u64 (c.L : Nat)) (.slice ao' n' nc') (.slice co' m' mc') ∧ ArrQ w' (fun b => w.heap.size + 2 ≤ b ∧ b < R) (scalarT c) (.int .u64 (S' : Nat)) (.slice ao' n' nc') (.slice co' m' mc')) H ?_
      clear H p0 p1 q0
      rintro w7 ⟨b7, y7, r7, hQ7⟩
      have p0 := r7.c0; have p1 := r7.c1; have p2 := r7.c2
      have g0 := y7.c0; have g1 := y7.c1; have g2 := y7.c2
      have f0 := y7.fr 0; have f1 := y7.fr 1; have f2 := y7.fr 2
      have z := y7.set (.int .u64 (c.L : Nat)) (.slice ao' n' nc') (.slice co' m' mc')
      have e0 := z.c0; have e1 := z.c1; have e2 := z.c2
      have hbw := Lib.hid (below_set3 b7 (B := w.heap.size + 1) (by omega) (.int .u64 (c.L : Nat)) (.slice ao' n' nc') (.slice co' m' mc'))
      have hA7 : ArrP _ (scalarT c) (.int .u64 (S' : Nat)) (.slice ao' n' nc') (.slice co' m' mc') := ArrQ.plain _ _ _ _ (ArrQ.keep (Q' := fun _ => True) (fun b hq _ => heap_set3 (w := w7) (B := w.heap.size + 1) (b := b) (by omega) (.int .u64 (c.L : Nat)) (.slice ao' n' nc') (.slice co' m' mc')) (fun _ _ _ => trivial) _ _ _ _ hQ7)
      have hres := Lib.hid (show ArrP _ (.arr c.L 0 (fun _ => 0) 1 (fun _ => c.L) (fun _ => c.K) (fun _ => c.C) (fun _ => c.N) (fun _ => c.k) (fun _ => c.sub)) (.int .u64 (c.L : Nat)) (.slice ao' n' nc') (.slice co' m' mc') from ⟨rfl, hLs.out, hA7.2.2⟩)
      clear z y7 r7 b7 hQ7 hA7
      go_wp2_with fail
      refine bodyPost_ret (v := .agg #[.int .u64 (c.L : Nat), .slice ao' n' nc', .slice co' m' mc']) (by simp [results, Tryz.results7, go_sem, e0, e1, e2]) rfl ?_
      rw [hup.out]
      exact ⟨_, _, _, rfl, hres.out, hbw.out⟩

theorem unpackC : UnpackC := fun c e w h hp _ => unpackW c e w h (scalar_parts hp)

theorem packed_alone {S m : Nat} {sh : Nat → Int} {L : Nat → Nat} {K C : Nat → Int} {N : Nat → NumF} {k : Nat → Nat} {sub : Nat → Nat → Tree} (hm : m = 1) : packT (.arr S 0 sh m L K C N k sub) = ⟨orL (L 0) S, K 0, N 0, C 0, k 0, sub 0⟩ := by
  subst hm
  have e : orL (L 0) S = orL S (L 0) := Nat.or_comm _ _
  rw [e]; simp [packT]

/-- A cell by the seven values of a new block. -/
theorem box_cell {w : World} {Q Q' : Nat → Prop} {A : Tree} {d0 d1 d2 : Value} {U S : Nat} (t : TypeId) (h : ArrQ w Q A d0 d1 d2) (hS : IsL S) (hQ : ∀ b, Q b → b < w.heap.size → Q' b) (hU : U = w.heap.size) (hn : Q' U) :
    CellRQ (w.alloc (.cells #[d0, d1, d2] t)) Q' ⟨S, 2, zeroN, 0, 1, fun _ => A⟩ (fun q => [Value.int .u64 S, .int .i64 2, .bool false, .slice none 0 0, .slice none 0 0, .int .i64 0, .slice (some ⟨U, 0, none⟩) 1 1].getD q undef) := by
  have hb : Below w.heap.size w (w.alloc (.cells #[d0, d1, d2] t)) := (Below.refl _ _).alloc (Nat.le_refl _) _
  have n3 := Box3.new (w := w) (B := U) d0 d1 d2 t hU
  refine ⟨rfl, hS, rfl, isZ2, ⟨rfl, ⟨none, 0, rfl, isN0, .inl rfl, fun j hj => absurd hj (Nat.not_lt_zero _)⟩, ⟨none, 0, rfl, isN0, .inl rfl, fun j hj => absurd hj (Nat.not_lt_zero _)⟩⟩, rfl, isZ0, _, 1, rfl, isN1, .inr ⟨U, 0, rfl, hn, fun j hj => ?_⟩⟩
  have hj' : j < 1 := hj
  obtain rfl : j = 0 := by omega
  exact ⟨d0, d1, d2, n3.c0, n3.c1, n3.c2, ArrQ.keep (fun b _ hlt => hb.block b hlt) hQ _ _ _ _ h⟩

theorem CellR.again' {w : World} {c : CellD} {L' : Nat} {v0 v1 v2 v3 v4 v5 v6 u0 : Value} (h : CellR w c (fun q => [v0, v1, v2, v3, v4, v5, v6].getD q undef)) (hL : IsL L') (hu : u0 = .int .u64 L') : CellR w ⟨L', c.K, c.N, c.C, c.k, c.sub⟩ (fun q => [u0, v1, v2, v3, v4, v5, v6].getD q undef) := by
  obtain ⟨_, _, h⟩ := h
  exact ⟨hu, hL, h⟩

set_option maxRecDepth 20000 in
set_option maxHeartbeats 8000000 in
theorem packW (A : Tree) (c0 c1 c2 : Value) (w : World) (h : ArrP w A c0 c1 c2) (hf : partsT A ≤ 5000) :
    Calls Tryz.prog 6 #[.agg #[c0, c1, c2]] w (CellPost (packT A) w) := by
  obtain _ | ⟨S, n, sh, m, L, K, C, N, k, sub⟩ := A
  · exact (ArrP.leaf h).elim
  have h' := Lib.hid h
  have hcp := Lib.hid (fun i (hi : i < m) => Nat.le_trans (partsC_in (S := S) (n := n) (sh := sh) (L := L) (K := K) (C := C) (N := N) (k := k) (sub := sub) hi) hf)
  obtain ⟨rfl, hS, ⟨ao, nc, rfl, hn, _, _⟩, co, mc, rfl, hm, hc⟩ := h
  have n1 := hn.1; have n2 := hn.2.1; have m1 := hm.1; have m2 := hm.2.1
  have hSs := Lib.hid hS; have hc' : Hid (CellsP w co m (fun i => ⟨L i, K i, N i, C i, k i, sub i⟩)) := Lib.hid hc
  have hbel := (((Below.refl w.heap.size w).alloc (Nat.le_refl _) (.cells #[.int .u64 S, .slice ao n nc, .slice co m mc] 26)).alloc (by simp) (.cells #[.int .u64 0, .int .i64 0, .bool false, .slice none 0 0, .slice none 0 0, .int .i64 0, .slice none 0 0] 32))
  have hx := (Box3.new (w := w) (B := w.heap.size) (.int .u64 S) (.slice ao n nc) (.slice co m mc) 26 rfl).alloc (.cells #[.int .u64 0, .int .i64 0, .bool false, .slice none 0 0, .slice none 0 0, .int .i64 0, .slice none 0 0] 32)
  have hy := Box7.new (w := w.alloc (.cells #[.int .u64 S, .slice ao n nc, .slice co m mc] 26)) (B := w.heap.size + 1) (.int .u64 0) (.int .i64 0) (.bool false) (.slice none 0 0) (.slice none 0 0) (.int .i64 0) (.slice none 0 0) 32 (by simp)
  clear hS hn hm hc
  go_enter Tryz.func6, Tryz.ntmps6
  go_upto_region 1 with fail
  refine told_wp (fun w' => Below w.heap.size w w' ∧ Box3 w' w.heap.size (.int .u64 S) (.slice ao n nc) (.slice co m mc) ∧ Box7 w' (w.heap.size + 1) (.int .u64 0) (.int .i64 0) (.bool false) (.slice none 0 0) (.slice none 0 0) (.int .i64 0) (.slice none 0 0)) ⟨hbel, hx, hy⟩ ?_
  clear hbel hx hy
  rintro w2 ⟨b2, x2, y2⟩
  have g0 := x2.c0; have g1 := x2.c1; have g2 := x2.c2
  have hb2 := Lib.hid b2; have hx2 := Lib.hid x2; have hy2 := Lib.hid y2
  have hA2 := Lib.hid (ArrP.below _ _ _ _ h'.out b2)
  clear b2 x2 y2
  go_wp2_with fail
  refine (alone_any (.arr S n sh m L K C N k sub) _ _ _ _ hA2.out).mono ?_
  rintro e1 w3 ⟨rfl, hb3⟩
  replace hx2 := Lib.hid (hx2.out.later hb3); replace hy2 := Lib.hid (hy2.out.later hb3); replace hb2 := Lib.hid (hb2.out.trans (hb3.mono hb2.out.size))
  clear g0 g1 g2 hb3 hA2
  by_cases hnm : n = 0 ∧ m = 1
  · obtain ⟨rfl, rfl⟩ := hnm
    have ht : aloneT (.arr S 0 sh 1 L K C N k sub) = true := rfl
    rw [ht]
    have hpk := Lib.hid (packed_alone (S := S) (sh := sh) (L := L) (K := K) (C := C) (N := N) (k := k) (sub := sub) (m := 1) rfl)
    rcases hc'.out with h0 | ⟨b, o, rfl, hcells⟩
    · omega
    obtain ⟨e, he, hR⟩ := hcells 0 (by decide)
    have hRw := hR.later hb2.out
    obtain ⟨p0, pL, p1, _, ⟨p2, ⟨a1, ac, p3, ha, _⟩, ⟨b1, bc, p4, hb, _⟩⟩, p5, _, io, kc, p6, hk, _⟩ := hR
    have i1 := ha.1; have i2 := ha.2.1; have i3 := hb.1; have i4 := hb.2.1; have i5 := hk.1; have i6 := hk.2.1
    have y0 := cell_below (he 0 (by decide)) hb2.out; have y1 := cell_below (he 1 (by decide)) hb2.out; have y2 := cell_below (he 2 (by decide)) hb2.out; have y3 := cell_below (he 3 (by decide)) hb2.out
    have y4 := cell_below (he 4 (by decide)) hb2.out; have y5 := cell_below (he 5 (by decide)) hb2.out; have y6 := cell_below (he 6 (by decide)) hb2.out
    simp only [Nat.zero_mul, Nat.add_zero] at y0 y1 y2 y3 y4 y5 y6
    rw [p0] at y0; rw [p1] at y1; rw [p2] at y2; rw [p3] at y3; rw [p4] at y4; rw [p5] at y5; rw [p6] at y6
    obtain ⟨c, hcc⟩ : ∃ c : CellD, c = ⟨L 0, K 0, N 0, C 0, k 0, sub 0⟩ := ⟨_, rfl⟩
    have hv : (Value.agg #[.int .u64 (L 0 : Nat), .int .i64 (K 0), .bool (N 0).neg, .slice a1 (N 0).an ac, .slice b1 (N 0).am bc, .int .i64 (C 0), .slice io (k 0) kc]) = .agg #[e 0, e 1, e 2, e 3, e 4, e 5, e 6] := by rw [p0, p1, p2, p3, p4, p5, p6]
    have hcall : Calls Tryz.prog 28 #[.agg #[.int .u64 (L 0 : Nat), .int .i64 (K 0), .bool (N 0).neg, .slice a1 (N 0).an ac, .slice b1 (N 0).am bc, .int .i64 (C 0), .slice io (k 0) kc], .func (.func 27) #[] #[]] w3 (CellNew (mapC Md.same.g ⟨L 0, K 0, N 0, C 0, k 0, sub 0⟩) w3) := by rw [hv]; exact cellBy_any .same _ e w3 hRw trivial (hcp.out 0 (by decide))
    rw [mapC_same, ← hcc] at hcall
    replace hcall := Lib.hid hcall
    have hL0 := Lib.hid (show IsL c.L by rw [hcc]; exact pL)
    have hpk2 := Lib.hid (show packT (.arr S 0 sh 1 L K C N k sub) = ⟨orL c.L S, c.K, c.N, c.C, c.k, c.sub⟩ by rw [hpk.out, hcc])
    have z2 := hx2.out.c2
    clear hcells he hRw p0 pL p1 p2 p3 p4 p5 p6 ha hb hk hv hcc ht hpk
    go_wp2_with fail
    refine hcall.out.mono ?_
    intro e1 w4 hnew
    obtain ⟨bo, co', io', bc', cc', kc', rfl, hres, hb4⟩ := hnew.form
    obtain ⟨R, hR⟩ : ∃ R, R = w4.heap.size := ⟨_, rfl⟩
    have hb5 := (Below.refl w4.heap.size w4).alloc (Nat.le_refl _) (.cells #[.int .u64 (c.L : Nat), .int .i64 c.K, .bool c.N.neg, .slice bo c.N.an bc', .slice co' c.N.am cc', .int .i64 c.C, .slice io' c.k kc'] 32)
    have hx5 := (hx2.out.later hb4).later hb5
    have hy5 := (hy2.out.later hb4).later hb5
    have hbb := (hb2.out.trans (hb4.mono hb2.out.size)).trans (hb5.mono (Nat.le_trans hb2.out.size hb4.size))
    have hr5 := Box7.new (w := w4) (B := R) (.int .u64 (c.L : Nat)) (.int .i64 c.K) (.bool c.N.neg) (.slice bo c.N.an bc') (.slice co' c.N.am cc') (.int .i64 c.C) (.slice io' c.k kc') 32 hR
    have hltR : w.heap.size + 1 < R := by have := (hy2.out.later hb4).lt; omega
    have hltw := hy2.out.lt
    have hQ5 := hres.keep (w' := w4.alloc (.cells #[.int .u64 (c.L : Nat), .int .i64 c.K, .bool c.N.neg, .slice bo c.N.an bc', .slice co' c.N.am cc', .int .i64 c.C, .slice io' c.k kc'] 32)) (fun b _ hlt => hb5.block b hlt) (Q' := fun b => w.heap.size + 2 ≤ b ∧ b < R) (fun b hq hlt => ⟨by omega, by omega⟩)
    clear y0 y1 y2 y3 y4 y5 y6 z2 hcall hnew hb4 hb5 hres hx2 hy2 hb2
    go_upto_region 4 with fail
    rw [← hR]
    refine told_wp (fun w' => Below w.heap.size w w' ∧ Box3 w' w.heap.size (.int .u64 S) (.slice ao 0 nc) (.slice (some ⟨b, o, none⟩) 1 mc) ∧ Box7 w' (w.heap.size + 1) (.int .u64 0) (.int .i64 0) (.bool false) (.slice none 0 0) (.slice none 0 0) (.int .i64 0) (.slice none 0 0) ∧ Box7 w' R (.int .u64 (c.L : Nat)) (.int .i64 c.K) (.bool c.N.neg) (.slice bo c.N.an bc') (.slice co' c.N.am cc') (.int .i64 c.C) (.slice io' c.k kc') ∧ CellRQ w' (fun b => w.heap.size + 2 ≤ b ∧ b < R) c (fun q => [Value.int .u64 c.L, .int .i64 c.K, .bool c.N.neg, .slice bo c.N.an bc', .slice co' c.N.am cc', .int .i64 c.C, .slice io' c.k kc'].getD q undef)) ⟨hbb, hx5, hy5, hr5, hQ5⟩ ?_
    clear hbb hx5 hy5 hr5 hQ5 hR
    rintro w5 ⟨b5, x5, y5, r5, hQ5⟩
    have q0 := x5.c0
    have p0 := r5.c0; have p1 := r5.fr 0
    have r6 := r5.set0 (.int .u64 (orL c.L S : Nat))
    have y6 : Box7 (w5.setCell ⟨R, 0, none⟩ (.int .u64 (orL c.L S : Nat))) (w.heap.size + 1) (.int .u64 0) (.int .i64 0) (.bool false) (.slice none 0 0) (.slice none 0 0) (.int .i64 0) (.slice none 0 0) := y5.aside (show w.heap.size + 1 ≠ R by omega) 0 (.int .u64 (orL c.L S : Nat))
    have b6 := b5.setCell (p := ⟨R, 0, none⟩) (show w.heap.size ≤ R by omega) (.int .u64 (orL c.L S : Nat))
    have hQ6 := hQ5.keep (w' := w5.setCell ⟨R, 0, none⟩ (.int .u64 (orL c.L S : Nat))) (Q' := fun b => w.heap.size + 2 ≤ b ∧ b < R) (fun b hq _ => Below.heap_setCell _ _ _ _ (by show b ≠ R; omega)) (fun _ hq _ => hq)
    have H := Lib.hid (And.intro b6 (And.intro y6 (And.intro r6 hQ6)))
    clear b5 x5 y5 r5 hQ5 b6 y6 r6 hQ6
    go_wp2_with fail
    refine (join_any c.L S hL0.out hSs.out _).mono ?_
    rintro e6 w6 ⟨rfl, rfl⟩
    go_upto_region 5 with fail
    refine told_wp (fun w' => Below w.heap.size w w' ∧ Box7 w' (w.heap.size + 1) (.int .u64 0) (.int .i64 0) (.bool false) (.slice none 0 0) (.slice none 0 0) (.int .i64 0) (.slice none 0 0) ∧ Box7 w' R (.int .u64 (orL c.L S : Nat)) (.int .i64 c.K) (.bool c.N.neg) (.slice bo c.N.an bc') (.slice co' c.N.am cc') (.int .i64 c.C) (.slice io' c.k kc') ∧ CellRQ w' (fun b => w.heap.size + 2 ≤ b ∧ b < R) c (fun q => [Value.int .u64 c.L, .int .i64 c.K, .bool c.N.neg, .slice bo c.N.an bc', .slice co' c.N.am cc', .int .i64 c.C, .slice io' c.k kc'].getD q undef)) H.out ?_
    clear H q0 p0 p1
    rintro w7 ⟨b7, y7, r7, hQ7⟩
    have p0 := r7.c0; have p1 := r7.c1; have p2 := r7.c2; have p3 := r7.c3; have p4 := r7.c4; have p5 := r7.c5; have p6 := r7.c6
    have d0 := y7.c0; have d1 := y7.c1; have d2 := y7.c2; have d3 := y7.c3; have d4 := y7.c4; have d5 := y7.c5; have d6 := y7.c6
    have f0 := y7.fr 0; have f1 := y7.fr 1; have f2 := y7.fr 2; have f3 := y7.fr 3; have f4 := y7.fr 4; have f5 := y7.fr 5; have f6 := y7.fr 6
    have z := y7.setAll (.int .u64 (orL c.L S : Nat)) (.int .i64 c.K) (.bool c.N.neg) (.slice bo c.N.an bc') (.slice co' c.N.am cc') (.int .i64 c.C) (.slice io' c.k kc')
    have e0 := z.c0; have e1 := z.c1; have e2 := z.c2; have e3 := z.c3; have e4 := z.c4; have e5 := z.c5; have e6 := z.c6
    have hbw := Lib.hid (below_setAll b7 (B := w.heap.size + 1) (by omega) (.int .u64 (orL c.L S : Nat)) (.int .i64 c.K) (.bool c.N.neg) (.slice bo c.N.an bc') (.slice co' c.N.am cc') (.int .i64 c.C) (.slice io' c.k kc'))
    have hres := Lib.hid ((hQ7.keep (Q' := fun _ => True) (fun b hq _ => heap_set7 (w := w7) (B := w.heap.size + 1) (b := b) (by omega) (.int .u64 (orL c.L S : Nat)) (.int .i64 c.K) (.bool c.N.neg) (.slice bo c.N.an bc') (.slice co' c.N.am cc') (.int .i64 c.C) (.slice io' c.k kc')) (fun _ _ _ => trivial)).plain.again' (orL_is hL0.out hSs.out) rfl)
    clear z y7 r7 b7 hQ7
    go_wp2_with fail
    refine bodyPost_ret (v := .agg #[.int .u64 (orL c.L S : Nat), .int .i64 c.K, .bool c.N.neg, .slice bo c.N.an bc', .slice co' c.N.am cc', .int .i64 c.C, .slice io' c.k kc']) (by simp [results, Tryz.results6, go_sem, e0, e1, e2, e3, e4, e5, e6]) rfl ?_
    rw [hpk2.out]
    exact ⟨fun q => [Value.int .u64 (orL c.L S : Nat), .int .i64 c.K, .bool c.N.neg, .slice bo c.N.an bc', .slice co' c.N.am cc', .int .i64 c.C, .slice io' c.k kc'].getD q undef, rfl, hres.out, hbw.out⟩
  · have ht : aloneT (.arr S n sh m L K C N k sub) = false := by
      unfold aloneT
      rw [← Bool.not_eq_true, Bool.and_eq_true, decide_eq_true_eq, decide_eq_true_eq]
      exact hnm
    rw [ht]
    have hpk := Lib.hid (show packT (.arr S n sh m L K C N k sub) = ⟨S, 2, zeroN, 0, 1, fun _ => .arr S n sh m L K C N k sub⟩ from if_neg hnm)
    clear ht hnm
    go_upto_region 2 with fail
    have bb := hb2.out; have x := hx2.out; have y := hy2.out
    have hcall : ∀ w', ArrP w' (.arr S n sh m L K C N k sub) (.int .u64 S) (.slice ao n nc) (.slice co m mc) → Calls Tryz.prog 26 #[.agg #[.int .u64 S, .slice ao n nc, .slice co m mc], .func (.func 27) #[] #[]] w' (TreeNew (mapT Md.same.g (.arr S n sh m L K C N k sub)) w') := fun w' k => arrayBy_any .same _ _ _ _ w' k trivial hf
    rw [map_same] at hcall
    replace hcall := Lib.hid hcall
    clear hb2 hx2 hy2
    have sb0 := True.intro
    go_region_held3 (fun w' => w'.cell? ⟨w.heap.size, 0, none⟩ = some (.int .u64 S) ∧ w'.cell? ⟨w.heap.size, 1, none⟩ = some (.slice ao n nc) ∧ w'.cell? ⟨w.heap.size, 2, none⟩ = some (.slice co m mc))
      (first | with_reducible exact ⟨x.drew.c0, x.drew.c1, x.drew.c2⟩ | with_reducible exact ⟨x.c0, x.c1, x.c2⟩ | with_reducible exact ⟨(x.alloc _).c0, (x.alloc _).c1, (x.alloc _).c2⟩ | exact ⟨cell_below (cell_kept x.c0 (heap_set7 (by omega) _ _ _ _ _ _ _)) ((Below.refl _ _).alloc (Nat.le_refl _) _), cell_below (cell_kept x.c1 (heap_set7 (by omega) _ _ _ _ _ _ _)) ((Below.refl _ _).alloc (Nat.le_refl _) _), cell_below (cell_kept x.c2 (heap_set7 (by omega) _ _ _ _ _ _ _)) ((Below.refl _ _).alloc (Nat.le_refl _) _)⟩)
      (first
      | (go_at_call 26; clear sb0; have bb := bb.drew; have x := x.drew; have y := y.drew; refine (hcall.out _ (ArrP.below _ _ _ _ h'.out bb)).mono ?_; intro e w' hnew; obtain ⟨S', n', nc', m', mc', ao', co', rfl, hQ, hb3⟩ := hnew.form; have hlt3 := y.lt; have bb := below_then bb (Nat.le_refl _) hb3; have x := x.later hb3; have y := y.later hb3; have hlt4 := y.lt; clear hb3 hnew; have d0 := y.c0; have d1 := y.c1; have d2 := y.c2; have d3 := y.c3; have d4 := y.c4; have d5 := y.c5; have d6 := y.c6; have f0 := y.fr 0; have f1 := y.fr 1; have f2 := y.fr 2; have f3 := y.fr 3; have f4 := y.fr 4; have f5 := y.fr 5; have f6 := y.fr 6; have sb1 := True.intro))
    have z := y.setAll (.int .u64 S) (.int .i64 2) (.bool false) (.slice none 0 0) (.slice none 0 0) (.int .i64 0) (.slice (some ⟨w'.heap.size, 0, none⟩) 1 1)
    have bz := below_setAll bb (B := w.heap.size + 1) (by omega) (.int .u64 S) (.int .i64 2) (.bool false) (.slice none 0 0) (.slice none 0 0) (.int .i64 0) (.slice (some ⟨w'.heap.size, 0, none⟩) 1 1)
    have hQ2 := ArrQ.keep (Q' := (w.heap.size ≤ ·)) (fun b hb _ => heap_set7 (w := w') (B := w.heap.size + 1) (b := b) (by omega) (.int .u64 S) (.int .i64 2) (.bool false) (.slice none 0 0) (.slice none 0 0) (.int .i64 0) (.slice (some ⟨w'.heap.size, 0, none⟩) 1 1)) (fun b hb _ => by omega) _ _ _ _ hQ
    have hres := Lib.hid (box_cell (U := w'.heap.size) (Q' := fun _ => True) 26 hQ2 hSs.out (fun _ _ _ => trivial) (by simp) trivial).plain
    have zA := z.alloc (.cells #[.int .u64 (S' : Nat), .slice ao' n' nc', .slice co' m' mc'] 26)
    have e0 := zA.c0; have e1 := zA.c1; have e2 := zA.c2; have e3 := zA.c3; have e4 := zA.c4; have e5 := zA.c5; have e6 := zA.c6
    have hbw := Lib.hid (bz.alloc bz.size (.cells #[.int .u64 (S' : Nat), .slice ao' n' nc', .slice co' m' mc'] 26))
    clear z zA bz y x bb hQ hQ2
    go_wp2_with fail
    refine bodyPost_ret (v := .agg #[.int .u64 S, .int .i64 2, .bool false, .slice none 0 0, .slice none 0 0, .int .i64 0, .slice (some ⟨w'.heap.size, 0, none⟩) 1 1]) (by simp [results, Tryz.results6, go_sem, e0, e1, e2, e3, e4, e5, e6]) rfl ?_
    rw [hpk.out]
    exact ⟨fun q => [Value.int .u64 S, .int .i64 2, .bool false, .slice none 0 0, .slice none 0 0, .int .i64 0, .slice (some ⟨w'.heap.size, 0, none⟩) 1 1].getD q undef, rfl, hres.out, hbw.out⟩

theorem packC : PackC := fun A c0 c1 c2 w h hf => packW A c0 c1 c2 w h (Nat.le_trans hf.1 (by decide))

end Go.Proofs.YtmkjebembicljaaGreat
