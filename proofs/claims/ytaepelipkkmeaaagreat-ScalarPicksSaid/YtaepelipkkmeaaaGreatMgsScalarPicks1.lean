/-
  scrimref08.Size, Depth, Total: through all cells and the arrays in them.
  scrimref08.SameCell, Same: two cells, two arrays, as they stand.
  scrimref08.Same: two arrays, as they stand.
  scrimref10.Conform, Pick.
  Arrays, plain: what is without labels, what has got more; what is packed and unpacked.
  What the functions of package scalar are to tell (as hypotheses of the walks of the statements); the document's One and Two, of any word.
  scrimlaw08.ArrayRight, walked.
  scrimlaw08.ArrayPacks, walked.
  scrimlaw10.ScalarPicks, walked.
  array.Scalar.
  scalar.Conform, Pick.
-/
import Derived.Test.YtaepelipkkmeaaaGreatMgsA
import Derived.Test.YtaepelipkkmeaaaGreatMgsB
import Derived.Test.YtaepelipkkmeaaaGreatMgsC
import Derived.Test.YtaepelipkkmeaaaGreatMgsD
import Derived.Test.YtaepelipkkmeaaaGreatMgsE
import Derived.Test.YtaepelipkkmeaaaGreatMgsF
import Derived.Test.YtaepelipkkmeaaaGreatMgsG
import Derived.Test.YtaepelipkkmeaaaGreatMgsH
import Derived.Test.YtaepelipkkmeaaaGreatMgsI
import Derived.WalkKit
import Derived.BigQuiet
import Derived.Deep.RegionHeld3
import Derived.Lib.Small
import Derived.Lib.Walk
import Derived.Lib.BitFns
import Derived.Deep.QuietTactic
import Derived.Deep.LoopGhost
import Derived.Laws.OwnMore
import Derived.Deep.CutRange
import Derived.Laws.CopyOwn
import Derived.Deep.RegionWith
import Derived.WalkSpells
import Derived.WalkLawsBesides
import Derived.Lib.Hide
import Derived.Deep.DrawnRows
import Derived.Laws.AppendOwn
import Derived.Deep.AppendLies
import Derived.OpenShut
import Derived.SizedLaws
import Derived.Lib.SliceRun
import Derived.Deep.RegionLaw
namespace Go.Proofs.YtaepelipkkmeaaaGreat

open Go.RowKit

/-- The labels of an array that lies in memory are labels. -/
theorem arr_labels {w : World} {S n m : Nat} {sh : Nat → Int} {L : Nat → Nat} {K C : Nat → Int} {N : Nat → NumF} {k : Nat → Nat} {sub : Nat → Nat → Tree} {c0 c1 c2 : Value} (h : ArrP w (.arr S n sh m L K C N k sub) c0 c1 c2) :
    IsL S ∧ (∀ i, i < m → IsL (L i)) ∧ ∀ i, i < m → ∀ j, j < k i → ∃ d0 d1 d2, ArrP w (sub i j) d0 d1 d2 := by
  obtain ⟨_, hS, _, co, mc, _, _, hc⟩ := h
  refine ⟨hS, fun i hi => ?_, fun i hi j hj => ?_⟩
  · rcases hc with h0 | ⟨b, o, _, hc⟩
    · omega
    · obtain ⟨e, _, _, q1, _⟩ := hc i hi
      exact q1
  · rcases hc with h0 | ⟨b, o, _, hc⟩
    · omega
    · obtain ⟨e, _, _, _, _, _, _, _, _, io, kc, _, _, q13⟩ := hc i hi
      rcases q13 with h0 | ⟨b', o', _, hr⟩
      · omega
      · obtain ⟨d0, d1, d2, _, _, _, r⟩ := hr j hj
        exact ⟨d0, d1, d2, r⟩

end Go.Proofs.YtaepelipkkmeaaaGreat
namespace Go.Proofs.YtaepelipkkmeaaaGreat

open Go.RowKit

/-- Two arrays are the same. -/
def SameT : Tree → Tree → Prop
  | .leaf, _ => False
  | .arr S n sh m L K C N k sub, B => match B with
    | .leaf => False
    | .arr S' n' sh' m' L' K' C' N' k' sub' => S = S' ∧ SameZ n n' sh sh' ∧ m = m' ∧ ∀ i, i < m → SameC (L i) (K i) (N i) (C i) (k i) (L' i) (K' i) (N' i) (C' i) (k' i) (fun j => SameT (sub i j) (sub' i j))

set_option maxRecDepth 20000 in
set_option maxHeartbeats 4000000 in
theorem sameCell8_of (L : Nat) (K : Int) (N : NumF) (C : Int) (k : Nat) (R : Nat → Value → Value → Value → Prop) (e : Nat → Value) (L' : Nat) (K' : Int) (N' : NumF) (C' : Int) (k' : Nat) (R' : Nat → Value → Value → Value → Prop) (f : Nat → Value) (P : Nat → Prop) (w : World)
    (h : CellP w L K N C k R e) (h' : CellP w L' K' N' C' k' R' f)
    (hS : ∀ j d0 d1 d2 e0 e1 e2 w', R j d0 d1 d2 → R' j e0 e1 e2 → Below w.heap.size w w' → Calls Tryz.prog 82 #[.agg #[d0, d1, d2], .agg #[e0, e1, e2]] w' (BoolPost (P j) w')) :
    Calls Tryz.prog 35 #[.agg #[e 0, e 1, e 2, e 3, e 4, e 5, e 6], .agg #[f 0, f 1, f 2, f 3, f 4, f 5, f 6]] w (BoolPost (SameC L K N C k L' K' N' C' k' P) w) := by
  obtain ⟨p0, pL, p1, pK, ⟨p2, ⟨ao, ac, p3, ha, hsa, _⟩, ⟨bo, bc, p4, hb, hsb, _⟩⟩, p5, pC, io, kc, p6, hk, hrow⟩ := h
  obtain ⟨q0, qL, q1, qK, ⟨q2, ⟨ao', ac', q3, ha', hsa', _⟩, ⟨bo', bc', q4, hb', hsb', _⟩⟩, q5, qC, io', kc', q6, hk', hrow'⟩ := h'
  rw [p0, p1, p2, p3, p4, p5, p6, q0, q1, q2, q3, q4, q5, q6]
  have an1 := ha.1; have an2 := ha.2.1; have am1 := hb.1; have am2 := hb.2.1; have kk1 := hk.1; have kk2 := hk.2.1
  have bn1 := ha'.1; have bn2 := ha'.2.1; have bm1 := hb'.1; have bm2 := hb'.2.1; have kl1 := hk'.1; have kl2 := hk'.2.1
  have hbel := (((Below.refl w.heap.size w).alloc (Nat.le_refl _) (.cells #[.int .u64 L, .int .i64 K, .bool N.neg, .slice ao N.an ac, .slice bo N.am bc, .int .i64 C, .slice io k kc] 65)).alloc (by simp) (.cells #[.int .u64 L', .int .i64 K', .bool N'.neg, .slice ao' N'.an ac', .slice bo' N'.am bc', .int .i64 C', .slice io' k' kc'] 65))
  have hx := (Box7.new (w := w) (B := w.heap.size) (.int .u64 L) (.int .i64 K) (.bool N.neg) (.slice ao N.an ac) (.slice bo N.am bc) (.int .i64 C) (.slice io k kc) 65 rfl).alloc (.cells #[.int .u64 L', .int .i64 K', .bool N'.neg, .slice ao' N'.an ac', .slice bo' N'.am bc', .int .i64 C', .slice io' k' kc'] 65)
  have hy := Box7.new (w := w.alloc (.cells #[.int .u64 L, .int .i64 K, .bool N.neg, .slice ao N.an ac, .slice bo N.am bc, .int .i64 C, .slice io k kc] 65)) (B := w.heap.size + 1) (.int .u64 L') (.int .i64 K') (.bool N'.neg) (.slice ao' N'.an ac') (.slice bo' N'.am bc') (.int .i64 C') (.slice io' k' kc') 65 (by simp)
  have hsa1 := Lib.hid hsa; have hsb1 := Lib.hid hsb; have hsa2 := Lib.hid hsa'; have hsb2 := Lib.hid hsb'; have hr1 := Lib.hid hrow; have hr2 := Lib.hid hrow'; have hS' := Lib.hid hS
  clear p0 pL p1 pK p2 p3 p4 p5 pC p6 q0 qL q1 qK q2 q3 q4 q5 qC q6 ha hb hk ha' hb' hk' hsa hsb hsa' hsb' hrow hrow' hS
  by_cases e1 : L = L'
  · by_cases e2 : K = K'
    · by_cases e3 : C = C'
      · subst e1; subst e2; subst e3
        go_enter Tryz.func35, Tryz.ntmps35
        go_wp2_with fail
        refine told_calls (fun w' => Below w.heap.size w w' ∧ Box7 w' w.heap.size (.int .u64 L) (.int .i64 K) (.bool N.neg) (.slice ao N.an ac) (.slice bo N.am bc) (.int .i64 C) (.slice io k kc) ∧ Box7 w' (w.heap.size + 1) (.int .u64 L) (.int .i64 K) (.bool N'.neg) (.slice ao' N'.an ac') (.slice bo' N'.am bc') (.int .i64 C) (.slice io' k' kc')) ⟨hbel, hx, hy⟩ ?_
        clear hbel hx hy
        rintro w0 ⟨b0, x0, y0⟩
        refine (same4B_any N.neg N'.neg ao bo ao' bo' N.an ac N.am bc N'.an ac' N'.am bc' N.fa N.ga N'.fa N'.ga w0 (by omega) (by omega) (hsa1.out.below b0) (hsb1.out.below b0) (hsa2.out.below b0) (hsb2.out.below b0)).mono ?_
        rintro e' w1 ⟨r, rfl, hr, hb1⟩
        have b1 := Lib.hid (b0.trans (hb1.mono b0.size)); have x1 := x0.later hb1; have y1 := y0.later hb1
        have hr' := Lib.hid hr
        have x1' := Lib.hid x1; have y1' := Lib.hid y1
        have z6 := x1.c6; have t6 := y1.c6
        clear b0 x0 y0 hb1 hr x1 y1
        cases r with
        | false =>
          go_wp2_with fail
          go_ret
          exact ⟨false, rfl, ⟨fun h => (Bool.false_ne_true h).elim, fun h => absurd (hr'.out.2 h.2.2.2.1) Bool.false_ne_true⟩, b1.out⟩
        | true =>
          by_cases e4 : k = k'
          · subst e4
            go_wp2_with fail
            go_loopw [5] (fun i wr => ∃ j : Nat, j ≤ k ∧ i = .int .i64 j ∧ Hid (∀ t, t < j → P t) ∧ Hid (Box7 wr w.heap.size (.int .u64 L) (.int .i64 K) (.bool N.neg) (.slice ao N.an ac) (.slice bo N.am bc) (.int .i64 C) (.slice io k kc)) ∧ Hid (Box7 wr (w.heap.size + 1) (.int .u64 L) (.int .i64 K) (.bool N'.neg) (.slice ao' N'.an ac') (.slice bo' N'.am bc') (.int .i64 C) (.slice io' k kc')) ∧ Hid (Below w.heap.size w wr)) (fun i _ => k - (intOfZ i).toNat)
            case atStart => exact ⟨0, Nat.zero_le _, rfl, Lib.hid fun t h => by omega, x1', y1', b1⟩
            case round =>
              obtain ⟨j, hj, rfl, hd, hx, hy, hb⟩ := hrel
              clear x1' y1' b1 z6 t6
              by_cases hlt : j < k
              · rcases hr1.out with h0 | ⟨b, o, rfl, hrows⟩
                · omega
                rcases hr2.out with h0 | ⟨b', o', rfl, hrows'⟩
                · omega
                obtain ⟨d0, d1, d2, r0, r1, r2, r3⟩ := hrows j hlt
                obtain ⟨f0, f1, f2, s0, s1, s2, s3⟩ := hrows' j hlt
                have hbd := hb.out.drew
                have xd := hx.out.drew; have yd := hy.out.drew
                have u6 := hx.out.c6
                go_wp2_with fail
                have g6 := xd.c6; have l6 := yd.c6
                have m0 := cell_below r0 hbd; have m1 := cell_below r1 hbd; have m2 := cell_below r2 hbd
                have n0 := cell_below s0 hbd; have n1 := cell_below s1 hbd; have n2 := cell_below s2 hbd
                have hcall := Lib.hid (fun w' h => hS'.out j d0 d1 d2 f0 f1 f2 w' r3 s3 h)
                clear hrows hrows' r0 r1 r2 s0 s1 s2
                have T1 : wr.drew.cell? ⟨w.heap.size, 6, none⟩ = some (.slice (some ⟨b, o, none⟩) k kc) ∧ wr.drew.cell? ⟨w.heap.size + 1, 6, none⟩ = some (.slice (some ⟨b', o', none⟩) k kc') ∧ wr.drew.cell? ⟨b, o + j * 3, none⟩ = some d0 ∧ wr.drew.cell? ⟨b, o + j * 3 + 1, none⟩ = some d1 ∧ wr.drew.cell? ⟨b, o + j * 3 + 2, none⟩ = some d2 ∧ wr.drew.cell? ⟨b', o' + j * 3, none⟩ = some f0 ∧ wr.drew.cell? ⟨b', o' + j * 3 + 1, none⟩ = some f1 ∧ wr.drew.cell? ⟨b', o' + j * 3 + 2, none⟩ = some f2 := ⟨g6, l6, m0, m1, m2, n0, n1, n2⟩
                go_region_held3 (fun w' => w'.cell? ⟨w.heap.size, 6, none⟩ = some (.slice (some ⟨b, o, none⟩) k kc) ∧ w'.cell? ⟨w.heap.size + 1, 6, none⟩ = some (.slice (some ⟨b', o', none⟩) k kc') ∧ w'.cell? ⟨b, o + j * 3, none⟩ = some d0 ∧ w'.cell? ⟨b, o + j * 3 + 1, none⟩ = some d1 ∧ w'.cell? ⟨b, o + j * 3 + 2, none⟩ = some d2 ∧ w'.cell? ⟨b', o' + j * 3, none⟩ = some f0 ∧ w'.cell? ⟨b', o' + j * 3 + 1, none⟩ = some f1 ∧ w'.cell? ⟨b', o' + j * 3 + 2, none⟩ = some f2)
                  (first | exact T1 | exact T2)
                  (first
                  | (go_at_call 82; refine (hcall.out _ hbd).mono ?_; rintro e2 w2 ⟨r, rfl, hr2', hb2⟩; have hb3 := hbd.trans (hb2.mono hbd.size); have x2 := xd.later hb2; have y2 := yd.later hb2; have T2 := And.intro x2.c6 (And.intro y2.c6 (And.intro (cell_below m0 hb2) (And.intro (cell_below m1 hb2) (And.intro (cell_below m2 hb2) (And.intro (cell_below n0 hb2) (And.intro (cell_below n1 hb2) (cell_below n2 hb2))))))); clear hb2))
                have hr3 := Lib.hid hr2'; have x3 := Lib.hid x2; have y3 := Lib.hid y2; have b3 := Lib.hid hb3
                clear hr2' x2 y2 hb3 hbd xd yd g6 l6 m0 m1 m2 n0 n1 n2 T1 T2
                cases r with
                | true =>
                  go_wp2_with fail
                  go_roundw
                  case rel =>
                    refine ⟨j + 1, by omega, by go_num, Lib.hid fun t ht => ?_, x3, y3, b3⟩
                    by_cases e : t = j
                    · rw [e]; exact hr3.out.1 (by first | exact rfl | trivial)
                    · exact hd.out t (by omega)
                  case measure => simp [intOfZ]; omega
                | false =>
                  go_wp2_with fail
                  go_ret
                  exact ⟨false, rfl, ⟨fun h => (Bool.false_ne_true h).elim, fun h => absurd (hr3.out.2 (h.2.2.2.2.2 j hlt)) Bool.false_ne_true⟩, b3.out⟩
              · obtain rfl : j = k := by omega
                have g6 := hx.out.c6
                go_wp2_with fail
                go_ret
                exact ⟨true, rfl, ⟨fun _ => ⟨rfl, rfl, rfl, hr'.out.1 (by first | exact rfl | trivial), rfl, hd.out⟩, fun _ => rfl⟩, hb.out⟩
          · have hd : ((k : Int) != (k' : Int)) = true := by rw [bne_iff_ne]; omega
            have hn := Lib.hid e4
            clear e4
            go_wp2_with fail
            go_ret
            exact ⟨false, rfl, ⟨fun h => (Bool.false_ne_true h).elim, fun h => absurd h.2.2.2.2.1 hn.out⟩, b1.out⟩
      · subst e1; subst e2
        have hd : (C != C') = true := by rw [bne_iff_ne]; omega
        have hn := Lib.hid e3
        clear e3 hx hy
        go_enter Tryz.func35, Tryz.ntmps35
        go_wp2_with fail
        go_ret
        exact ⟨false, rfl, ⟨fun h => (Bool.false_ne_true h).elim, fun h => absurd h.2.2.1 hn.out⟩, hbel⟩
    · subst e1
      have hd : (K != K') = true := by rw [bne_iff_ne]; omega
      have hn := Lib.hid e2
      clear e2 hx hy
      go_enter Tryz.func35, Tryz.ntmps35
      go_wp2_with fail
      go_ret
      exact ⟨false, rfl, ⟨fun h => (Bool.false_ne_true h).elim, fun h => absurd h.2.1 hn.out⟩, hbel⟩
  · have hd : ((L : Int) != (L' : Int)) = true := by rw [bne_iff_ne]; omega
    have hn := Lib.hid e1
    clear e1 hx hy
    go_enter Tryz.func35, Tryz.ntmps35
    go_wp2_with fail
    go_ret
    exact ⟨false, rfl, ⟨fun h => (Bool.false_ne_true h).elim, fun h => absurd h.1 hn.out⟩, hbel⟩

end Go.Proofs.YtaepelipkkmeaaaGreat
namespace Go.Proofs.YtaepelipkkmeaaaGreat

open Go.RowKit

set_option maxRecDepth 20000 in
set_option maxHeartbeats 8000000 in
theorem same8_any : ∀ (A B : Tree) (c0 c1 c2 d0 d1 d2 : Value) (w : World), ArrP w A c0 c1 c2 → ArrP w B d0 d1 d2 →
    Calls Tryz.prog 82 #[.agg #[c0, c1, c2], .agg #[d0, d1, d2]] w (BoolPost (SameT A B) w) := by
  intro A
  induction A with
  | leaf => intros; exact (ArrP.leaf ‹ArrP _ Tree.leaf _ _ _›).elim
  | arr S n sh m L K C N k sub ih =>
    intro B c0 c1 c2 d0 d1 d2 w h h'
    obtain _ | ⟨S', n', sh', m', L', K', C', N', k', sub'⟩ := B
    · exact (ArrP.leaf h').elim
    obtain ⟨rfl, _, ⟨ao, nc, rfl, hn, hsh, _⟩, co, mc, rfl, hm, hc⟩ := h
    obtain ⟨rfl, _, ⟨ao', nc', rfl, hn', hsh', _⟩, co', mc', rfl, hm', hc'⟩ := h'
    have n1 := hn.1; have n2 := hn.2.1; have m1 := hm.1; have m2 := hm.2.1; have n1' := hn'.1; have n2' := hn'.2.1; have m1' := hm'.1; have m2' := hm'.2.1
    have hbel := (((Below.refl w.heap.size w).alloc (Nat.le_refl _) (.cells #[.int .u64 S, .slice ao n nc, .slice co m mc] 45)).alloc (by simp) (.cells #[.int .u64 S', .slice ao' n' nc', .slice co' m' mc'] 45))
    have hx := (Box3.new (w := w) (B := w.heap.size) (.int .u64 S) (.slice ao n nc) (.slice co m mc) 45 rfl).alloc (.cells #[.int .u64 S', .slice ao' n' nc', .slice co' m' mc'] 45)
    have hy := Box3.new (w := w.alloc (.cells #[.int .u64 S, .slice ao n nc, .slice co m mc] 45)) (B := w.heap.size + 1) (.int .u64 S') (.slice ao' n' nc') (.slice co' m' mc') 45 (by simp)
    have hsh1 := Lib.hid hsh; have hsh2 := Lib.hid hsh'; have hc1 := Lib.hid hc; have hc2 := Lib.hid hc'
    clear hn hm hn' hm' hsh hsh' hc hc'
    by_cases e1 : S = S'
    · subst e1
      go_enter Tryz.func82, Tryz.ntmps82
      go_wp2_with fail
      refine told_calls (fun w' => Below w.heap.size w w' ∧ Box3 w' w.heap.size (.int .u64 S) (.slice ao n nc) (.slice co m mc) ∧ Box3 w' (w.heap.size + 1) (.int .u64 S) (.slice ao' n' nc') (.slice co' m' mc')) ⟨hbel, hx, hy⟩ ?_
      clear hbel hx hy
      rintro w0 ⟨b0, x0, y0⟩
      refine (ints7_any ao ao' n nc n' nc' sh sh' w0 (by omega) (hsh1.out.below b0) (hsh2.out.below b0)).mono ?_
      rintro e' w1 ⟨hr, hb1⟩
      have b1 := Lib.hid (b0.trans (hb1.mono b0.size)); have x1 := x0.later hb1; have y1 := y0.later hb1
      have x1' := Lib.hid x1; have y1' := Lib.hid y1
      have z2 := x1.c2; have t2 := y1.c2
      clear b0 x0 y0 hb1 x1 y1
      rcases hr with ⟨rfl, hs⟩ | ⟨rfl, hs⟩
      · have hs' := Lib.hid hs
        clear hs
        by_cases e4 : m = m'
        · subst e4
          go_wp2_with fail
          go_loopw [5] (fun j wr => ∃ i : Nat, i ≤ m ∧ j = .int .i64 i ∧ Hid (∀ t, t < i → SameC (L t) (K t) (N t) (C t) (k t) (L' t) (K' t) (N' t) (C' t) (k' t) (fun j => SameT (sub t j) (sub' t j))) ∧ Hid (Box3 wr w.heap.size (.int .u64 S) (.slice ao n nc) (.slice co m mc)) ∧ Hid (Box3 wr (w.heap.size + 1) (.int .u64 S) (.slice ao' n' nc') (.slice co' m mc')) ∧ Hid (Below w.heap.size w wr)) (fun j _ => m - (intOfZ j).toNat)
          case atStart => exact ⟨0, Nat.zero_le _, rfl, Lib.hid fun t h => by omega, x1', y1', b1⟩
          case round =>
            obtain ⟨i, hi, rfl, hd, hx, hy, hb⟩ := hrel
            clear x1' y1' b1 z2 t2
            by_cases hlt : i < m
            · rcases hc1.out with h0 | ⟨b, o, rfl, hcells⟩
              · omega
              rcases hc2.out with h0 | ⟨b', o', rfl, hcells'⟩
              · omega
              obtain ⟨e, he, hcell⟩ := hcells i hlt
              obtain ⟨f, hf, hcell'⟩ := hcells' i hlt
              have hbd := hb.out.drew
              have xd := hx.out.drew; have yd := hy.out.drew
              have u2 := hx.out.c2
              go_wp2_with fail
              have g2 := xd.c2; have l2 := yd.c2
              have m0 := cell_below (he 0 (by decide)) hbd
              rw [Nat.add_zero] at m0
              have n0 := cell_below (hf 0 (by decide)) hbd
              rw [Nat.add_zero] at n0
              have m1 := cell_below (he 1 (by decide)) hbd
              have n1 := cell_below (hf 1 (by decide)) hbd
              have m2 := cell_below (he 2 (by decide)) hbd
              have n2 := cell_below (hf 2 (by decide)) hbd
              have m3 := cell_below (he 3 (by decide)) hbd
              have n3 := cell_below (hf 3 (by decide)) hbd
              have m4 := cell_below (he 4 (by decide)) hbd
              have n4 := cell_below (hf 4 (by decide)) hbd
              have m5 := cell_below (he 5 (by decide)) hbd
              have n5 := cell_below (hf 5 (by decide)) hbd
              have m6 := cell_below (he 6 (by decide)) hbd
              have n6 := cell_below (hf 6 (by decide)) hbd
              have hcall := Lib.hid (fun (w' : World) (hw : Below w.heap.size w w') => sameCell8_of (L i) (K i) (N i) (C i) (k i) _ e (L' i) (K' i) (N' i) (C' i) (k' i) _ f (fun j => SameT (sub i j) (sub' i j)) w' (hcell.below hw fun j d0 d1 d2 _ hd => ArrP.below _ _ _ _ hd hw) (hcell'.below hw fun j d0 d1 d2 _ hd => ArrP.below _ _ _ _ hd hw)
                (fun j d0 d1 d2 e0 e1 e2 w'' r r' hw' => ih i j (sub' i j) d0 d1 d2 e0 e1 e2 w'' (ArrP.below _ _ _ _ r hw') (ArrP.below _ _ _ _ r' hw')))
              clear hcells hcells' he hf hcell hcell' u2
              have T1 : wr.drew.cell? ⟨w.heap.size, 2, none⟩ = some (.slice (some ⟨b, o, none⟩) m mc) ∧ wr.drew.cell? ⟨w.heap.size + 1, 2, none⟩ = some (.slice (some ⟨b', o', none⟩) m mc') ∧ wr.drew.cell? ⟨b, o + i * 7, none⟩ = some (e 0) ∧ wr.drew.cell? ⟨b, o + i * 7 + 1, none⟩ = some (e 1) ∧ wr.drew.cell? ⟨b, o + i * 7 + 2, none⟩ = some (e 2) ∧ wr.drew.cell? ⟨b, o + i * 7 + 3, none⟩ = some (e 3) ∧ wr.drew.cell? ⟨b, o + i * 7 + 4, none⟩ = some (e 4) ∧ wr.drew.cell? ⟨b, o + i * 7 + 5, none⟩ = some (e 5) ∧ wr.drew.cell? ⟨b, o + i * 7 + 6, none⟩ = some (e 6) ∧ wr.drew.cell? ⟨b', o' + i * 7, none⟩ = some (f 0) ∧ wr.drew.cell? ⟨b', o' + i * 7 + 1, none⟩ = some (f 1) ∧ wr.drew.cell? ⟨b', o' + i * 7 + 2, none⟩ = some (f 2) ∧ wr.drew.cell? ⟨b', o' + i * 7 + 3, none⟩ = some (f 3) ∧ wr.drew.cell? ⟨b', o' + i * 7 + 4, none⟩ = some (f 4) ∧ wr.drew.cell? ⟨b', o' + i * 7 + 5, none⟩ = some (f 5) ∧ wr.drew.cell? ⟨b', o' + i * 7 + 6, none⟩ = some (f 6) := And.intro (g2) (And.intro (l2) (And.intro (m0) (And.intro (m1) (And.intro (m2) (And.intro (m3) (And.intro (m4) (And.intro (m5) (And.intro (m6) (And.intro (n0) (And.intro (n1) (And.intro (n2) (And.intro (n3) (And.intro (n4) (And.intro (n5) (n6)))))))))))))))
              go_region_held3 (fun w' => w'.cell? ⟨w.heap.size, 2, none⟩ = some (.slice (some ⟨b, o, none⟩) m mc) ∧ w'.cell? ⟨w.heap.size + 1, 2, none⟩ = some (.slice (some ⟨b', o', none⟩) m mc') ∧ w'.cell? ⟨b, o + i * 7, none⟩ = some (e 0) ∧ w'.cell? ⟨b, o + i * 7 + 1, none⟩ = some (e 1) ∧ w'.cell? ⟨b, o + i * 7 + 2, none⟩ = some (e 2) ∧ w'.cell? ⟨b, o + i * 7 + 3, none⟩ = some (e 3) ∧ w'.cell? ⟨b, o + i * 7 + 4, none⟩ = some (e 4) ∧ w'.cell? ⟨b, o + i * 7 + 5, none⟩ = some (e 5) ∧ w'.cell? ⟨b, o + i * 7 + 6, none⟩ = some (e 6) ∧ w'.cell? ⟨b', o' + i * 7, none⟩ = some (f 0) ∧ w'.cell? ⟨b', o' + i * 7 + 1, none⟩ = some (f 1) ∧ w'.cell? ⟨b', o' + i * 7 + 2, none⟩ = some (f 2) ∧ w'.cell? ⟨b', o' + i * 7 + 3, none⟩ = some (f 3) ∧ w'.cell? ⟨b', o' + i * 7 + 4, none⟩ = some (f 4) ∧ w'.cell? ⟨b', o' + i * 7 + 5, none⟩ = some (f 5) ∧ w'.cell? ⟨b', o' + i * 7 + 6, none⟩ = some (f 6))
                (first | exact T1 | exact T2)
                (first
                | (go_at_call 35; refine (hcall.out _ hbd).mono ?_; rintro e2 w2 ⟨r, rfl, hr2', hb2⟩; have hb3 := hbd.trans (hb2.mono hbd.size); have x2 := xd.later hb2; have y2 := yd.later hb2; have T2 := And.intro (x2.c2) (And.intro (y2.c2) (And.intro (cell_below m0 hb2) (And.intro (cell_below m1 hb2) (And.intro (cell_below m2 hb2) (And.intro (cell_below m3 hb2) (And.intro (cell_below m4 hb2) (And.intro (cell_below m5 hb2) (And.intro (cell_below m6 hb2) (And.intro (cell_below n0 hb2) (And.intro (cell_below n1 hb2) (And.intro (cell_below n2 hb2) (And.intro (cell_below n3 hb2) (And.intro (cell_below n4 hb2) (And.intro (cell_below n5 hb2) (cell_below n6 hb2))))))))))))))); clear hb2))
              have hr3 := Lib.hid hr2'; have x3 := Lib.hid x2; have y3 := Lib.hid y2; have b3 := Lib.hid hb3
              clear hr2' x2 y2 hb3 hbd xd yd g2 l2 m0 n0 m1 n1 m2 n2 m3 n3 m4 n4 m5 n5 m6 n6 T1 T2
              cases r with
              | true =>
                go_wp2_with fail
                go_roundw
                case rel =>
                  refine ⟨i + 1, by omega, by go_num, Lib.hid fun t ht => ?_, x3, y3, b3⟩
                  by_cases e : t = i
                  · rw [e]; exact hr3.out.1 (by first | exact rfl | trivial)
                  · exact hd.out t (by omega)
                case measure => simp [intOfZ]; omega
              | false =>
                go_wp2_with fail
                go_ret
                exact ⟨false, rfl, ⟨fun h => (Bool.false_ne_true h).elim, fun h => absurd (hr3.out.2 (h.2.2.2 i hlt)) Bool.false_ne_true⟩, b3.out⟩
            · obtain rfl : i = m := by omega
              have g2 := hx.out.c2
              go_wp2_with fail
              go_ret
              exact ⟨true, rfl, ⟨fun _ => ⟨rfl, hs'.out, rfl, hd.out⟩, fun _ => rfl⟩, hb.out⟩
        · have hd : ((m : Int) != (m' : Int)) = true := by rw [bne_iff_ne]; omega
          have hn := Lib.hid e4
          clear e4
          go_wp2_with fail
          go_ret
          exact ⟨false, rfl, ⟨fun h => (Bool.false_ne_true h).elim, fun h => absurd h.2.2.1 hn.out⟩, b1.out⟩
      · have hs' := Lib.hid hs
        clear hs
        go_wp2_with fail
        go_ret
        exact ⟨false, rfl, ⟨fun h => (Bool.false_ne_true h).elim, fun h => absurd h.2.1 hs'.out⟩, b1.out⟩
    · have hd : ((S : Int) != (S' : Int)) = true := by rw [bne_iff_ne]; omega
      have hn := Lib.hid e1
      clear e1 hx hy
      go_enter Tryz.func82, Tryz.ntmps82
      go_wp2_with fail
      go_ret
      exact ⟨false, rfl, ⟨fun h => (Bool.false_ne_true h).elim, fun h => absurd h.1 hn.out⟩, hbel⟩

end Go.Proofs.YtaepelipkkmeaaaGreat
namespace Go.Proofs.YtaepelipkkmeaaaGreat

open Go.RowKit Num

attribute [local go_sem ↓] Go.wp_at_zero Go.wp_at_succ

set_option maxRecDepth 20000 in
set_option maxHeartbeats 3000000 in
theorem pickQ_any (A : Tree) (Q0 : Nat → Prop) (c0 c1 c2 : Value) (i : Int) (w : World) (h : ArrQ w Q0 A c0 c1 c2) (i0 : -9223372036854775808 ≤ i) (i1 : i ≤ 9223372036854775807) :
    Calls Tryz.prog 37 #[.agg #[c0, c1, c2], .int .i64 i] w (CellQPost (pickT A i) Q0 w) := by
  obtain _ | ⟨S, n, sh, m, L, K, C, N, k, sub⟩ := A
  · exact (ArrQ.leaf h).elim
  obtain ⟨rfl, hS, ⟨ao, nc, rfl, hn, _, _⟩, co, mc, rfl, hm, hc⟩ := h
  have n1 := hn.1; have n2 := hn.2.1; have n3 := hn.2.2; have m1 := hm.1; have m2 := hm.2.1; have m3 := hm.2.2
  clear hn hm
  go_enter Tryz.func37, Tryz.ntmps37
  go_upto_region 1 with fail
  refine told_wp (fun w' => Below w.heap.size w w' ∧ Box3 w' w.heap.size (.int .u64 S) (.slice ao n nc) (.slice co m mc) ∧ Box7 w' (w.heap.size + 1) (.int .u64 0) (.int .i64 0) (.bool false) (.slice none 0 0) (.slice none 0 0) (.int .i64 0) (.slice none 0 0))
    ⟨((Below.refl _ _).alloc (Nat.le_refl _) _).alloc (by simp) _, (Box3.new _ _ _ _ rfl).alloc _, Box7.new _ _ _ _ _ _ _ _ (by simp)⟩ ?_
  rintro w1 ⟨bb, X, Y⟩
  have p1 := X.c1; have q2 := X.c2
  clear X
  by_cases hnm : n = 0 ∧ 0 < m
  · have hp := Lib.hid (show pickT (.arr S n sh m L K C N k sub) i = ⟨L 0, K 0, N 0, C 0, k 0, sub 0⟩ from if_pos hnm)
    obtain ⟨rfl, hm0⟩ := hnm
    have hmi : (0 : Int) < (m : Int) := by omega
    rcases hc with h0 | ⟨b, o, rfl, _, hcells⟩
    · omega
    obtain ⟨e, he, hcell⟩ := hcells 0 (by omega)
    have m0 := cell_below (he 0 (by decide)) bb
    have m1 := cell_below (he 1 (by decide)) bb
    have m2 := cell_below (he 2 (by decide)) bb
    have m3 := cell_below (he 3 (by decide)) bb
    have m4 := cell_below (he 4 (by decide)) bb
    have m5 := cell_below (he 5 (by decide)) bb
    have m6 := cell_below (he 6 (by decide)) bb
    rw [Nat.zero_mul, Nat.add_zero] at m1 m2 m3 m4 m5 m6
    simp only [Nat.zero_mul, Nat.add_zero] at m0
    have hce := Lib.hid hcell
    obtain ⟨p0, pL, p1', pK, ⟨p2, ⟨a3, c3, p3, ha, _⟩, ⟨a4, c4, p4, hb4, _⟩⟩, p5, pC, io, kc, p6, hk, _⟩ := hcell
    have hv := Lib.hid (show (Value.agg #[.int .u64 (L 0 : Nat), .int .i64 (K 0), .bool (N 0).neg, .slice a3 (N 0).an c3, .slice a4 (N 0).am c4, .int .i64 (C 0), .slice io (k 0) kc]) = .agg #[e 0, e 1, e 2, e 3, e 4, e 5, e 6] from by rw [p0, p1', p2, p3, p4, p5, p6])
    rw [p0] at m0; rw [p1'] at m1; rw [p2] at m2; rw [p3] at m3; rw [p4] at m4; rw [p5] at m5; rw [p6] at m6
    clear hcells he p0 p1' p2 p3 p4 p5 p6 ha hb4
    have hk1 := hk.1; have hk2 := hk.2.1
    have f0 := Y.fr 0; have f1 := Y.fr 1; have f2 := Y.fr 2; have f3 := Y.fr 3; have f4 := Y.fr 4; have f5 := Y.fr 5; have f6 := Y.fr 6
    have d0 := Y.c0; have d1 := Y.c1; have d2 := Y.c2; have d3 := Y.c3; have d4 := Y.c4; have d5 := Y.c5; have d6 := Y.c6
    have z5 := Y.setAll (.int .u64 (L 0 : Nat)) (.int .i64 (K 0)) (.bool (N 0).neg) (.slice a3 (N 0).an c3) (.slice a4 (N 0).am c4) (.int .i64 (C 0)) (.slice io (k 0) kc)
    have b5 := Lib.hid (below_setAll bb (B := w.heap.size + 1) (by omega) (.int .u64 (L 0 : Nat)) (.int .i64 (K 0)) (.bool (N 0).neg) (.slice a3 (N 0).an c3) (.slice a4 (N 0).am c4) (.int .i64 (C 0)) (.slice io (k 0) kc))
    have g0 := z5.c0; have g1 := z5.c1; have g2 := z5.c2; have g3 := z5.c3; have g4 := z5.c4; have g5 := z5.c5; have g6 := z5.c6
    clear bb Y z5
    go_wp2_with fail
    refine bodyPost_ret (v := .agg #[.int .u64 (L 0 : Nat), .int .i64 (K 0), .bool (N 0).neg, .slice a3 (N 0).an c3, .slice a4 (N 0).am c4, .int .i64 (C 0), .slice io (k 0) kc]) (by simp [results, Tryz.results37, go_sem, g0, g1, g2, g3, g4, g5, g6]) rfl ?_
    rw [hp.out]
    exact ⟨e, by rw [hv.out], CellQ.keep hce.out (fun b _ hlt => b5.out.block b hlt) (fun _ hq _ => hq) (fun _ d0 d1 d2 hd => ArrQ.keep (fun b _ hlt => b5.out.block b hlt) (fun _ hq _ => hq) _ _ _ _ hd), b5.out⟩
  · by_cases h0 : n = 0
    · obtain rfl : m = 0 := by omega
      have hz : i < 0 ∨ (((0 : Nat) : Int)) ≤ i ∨ n = 0 := .inr (.inr h0)
      have hp := Lib.hid (show pickT (.arr S n sh 0 L K C N k sub) i = zeroD from by show (if _ then _ else _) = _; rw [if_neg hnm, if_pos hz])
      clear hnm hz hc
      subst h0
      by_cases hi0 : i < 0
      · have hd0 : decide (i < 0) = true := decide_eq_true hi0
        have f0 := Y.fr 0; have f1 := Y.fr 1; have f2 := Y.fr 2; have f3 := Y.fr 3; have f4 := Y.fr 4; have f5 := Y.fr 5; have f6 := Y.fr 6
        have d0 := Y.c0; have d1 := Y.c1; have d2 := Y.c2; have d3 := Y.c3; have d4 := Y.c4; have d5 := Y.c5; have d6 := Y.c6
        have z5 := Y.setAll (.int .u64 0) (.int .i64 0) (.bool false) (.slice none 0 0) (.slice none 0 0) (.int .i64 0) (.slice none 0 0)
        have b5 := Lib.hid (below_setAll bb (B := w.heap.size + 1) (by omega) (.int .u64 0) (.int .i64 0) (.bool false) (.slice none 0 0) (.slice none 0 0) (.int .i64 0) (.slice none 0 0))
        have g0 := z5.c0; have g1 := z5.c1; have g2 := z5.c2; have g3 := z5.c3; have g4 := z5.c4; have g5 := z5.c5; have g6 := z5.c6
        clear bb Y z5
        go_wp2_with fail
        refine bodyPost_ret (v := .agg #[.int .u64 0, .int .i64 0, .bool false, .slice none 0 0, .slice none 0 0, .int .i64 0, .slice none 0 0]) (by simp [results, Tryz.results37, go_sem, g0, g1, g2, g3, g4, g5, g6]) rfl ?_
        rw [hp.out]
        exact ⟨fun i => (#[.int .u64 0, .int .i64 0, .bool false, .slice none 0 0, .slice none 0 0, .int .i64 0, .slice none 0 0] : Array Value).getD i (.bool false), rfl, ⟨rfl, (by decide : (0 : Nat) < 18446744073709551616), rfl, ⟨by decide, by decide⟩, ⟨rfl, ⟨none, 0, rfl, ⟨Nat.le_refl _, by decide, by decide⟩, .inl rfl, fun j hj => absurd hj (Nat.not_lt_zero _)⟩, ⟨none, 0, rfl, ⟨Nat.le_refl _, by decide, by decide⟩, .inl rfl, fun j hj => absurd hj (Nat.not_lt_zero _)⟩⟩, rfl, ⟨by decide, by decide⟩, _, _, rfl, ⟨Nat.le_refl _, by decide, by decide⟩, .inl rfl⟩, b5.out⟩
      · have hd0 : decide (i < 0) = false := decide_eq_false hi0
        have hi1 : (0 : Int) ≤ i := by omega
        have f0 := Y.fr 0; have f1 := Y.fr 1; have f2 := Y.fr 2; have f3 := Y.fr 3; have f4 := Y.fr 4; have f5 := Y.fr 5; have f6 := Y.fr 6
        have d0 := Y.c0; have d1 := Y.c1; have d2 := Y.c2; have d3 := Y.c3; have d4 := Y.c4; have d5 := Y.c5; have d6 := Y.c6
        have z5 := Y.setAll (.int .u64 0) (.int .i64 0) (.bool false) (.slice none 0 0) (.slice none 0 0) (.int .i64 0) (.slice none 0 0)
        have b5 := Lib.hid (below_setAll bb (B := w.heap.size + 1) (by omega) (.int .u64 0) (.int .i64 0) (.bool false) (.slice none 0 0) (.slice none 0 0) (.int .i64 0) (.slice none 0 0))
        have g0 := z5.c0; have g1 := z5.c1; have g2 := z5.c2; have g3 := z5.c3; have g4 := z5.c4; have g5 := z5.c5; have g6 := z5.c6
        clear bb Y z5
        go_wp2_with fail
        refine bodyPost_ret (v := .agg #[.int .u64 0, .int .i64 0, .bool false, .slice none 0 0, .slice none 0 0, .int .i64 0, .slice none 0 0]) (by simp [results, Tryz.results37, go_sem, g0, g1, g2, g3, g4, g5, g6]) rfl ?_
        rw [hp.out]
        exact ⟨fun i => (#[.int .u64 0, .int .i64 0, .bool false, .slice none 0 0, .slice none 0 0, .int .i64 0, .slice none 0 0] : Array Value).getD i (.bool false), rfl, ⟨rfl, (by decide : (0 : Nat) < 18446744073709551616), rfl, ⟨by decide, by decide⟩, ⟨rfl, ⟨none, 0, rfl, ⟨Nat.le_refl _, by decide, by decide⟩, .inl rfl, fun j hj => absurd hj (Nat.not_lt_zero _)⟩, ⟨none, 0, rfl, ⟨Nat.le_refl _, by decide, by decide⟩, .inl rfl, fun j hj => absurd hj (Nat.not_lt_zero _)⟩⟩, rfl, ⟨by decide, by decide⟩, _, _, rfl, ⟨Nat.le_refl _, by decide, by decide⟩, .inl rfl⟩, b5.out⟩
    · have dn : ((n : Int) == 0) = false := by rw [beq_eq_false_iff_ne]; omega
      by_cases hi0 : i < 0
      · have hd0 : decide (i < 0) = true := decide_eq_true hi0
        have hp := Lib.hid (show pickT (.arr S n sh m L K C N k sub) i = zeroD from by show (if _ then _ else _) = _; rw [if_neg hnm, if_pos (.inl hi0)])
        clear hnm hc
        have f0 := Y.fr 0; have f1 := Y.fr 1; have f2 := Y.fr 2; have f3 := Y.fr 3; have f4 := Y.fr 4; have f5 := Y.fr 5; have f6 := Y.fr 6
        have d0 := Y.c0; have d1 := Y.c1; have d2 := Y.c2; have d3 := Y.c3; have d4 := Y.c4; have d5 := Y.c5; have d6 := Y.c6
        have z5 := Y.setAll (.int .u64 0) (.int .i64 0) (.bool false) (.slice none 0 0) (.slice none 0 0) (.int .i64 0) (.slice none 0 0)
        have b5 := Lib.hid (below_setAll bb (B := w.heap.size + 1) (by omega) (.int .u64 0) (.int .i64 0) (.bool false) (.slice none 0 0) (.slice none 0 0) (.int .i64 0) (.slice none 0 0))
        have g0 := z5.c0; have g1 := z5.c1; have g2 := z5.c2; have g3 := z5.c3; have g4 := z5.c4; have g5 := z5.c5; have g6 := z5.c6
        clear bb Y z5
        go_wp2_with fail
        refine bodyPost_ret (v := .agg #[.int .u64 0, .int .i64 0, .bool false, .slice none 0 0, .slice none 0 0, .int .i64 0, .slice none 0 0]) (by simp [results, Tryz.results37, go_sem, g0, g1, g2, g3, g4, g5, g6]) rfl ?_
        rw [hp.out]
        exact ⟨fun i => (#[.int .u64 0, .int .i64 0, .bool false, .slice none 0 0, .slice none 0 0, .int .i64 0, .slice none 0 0] : Array Value).getD i (.bool false), rfl, ⟨rfl, (by decide : (0 : Nat) < 18446744073709551616), rfl, ⟨by decide, by decide⟩, ⟨rfl, ⟨none, 0, rfl, ⟨Nat.le_refl _, by decide, by decide⟩, .inl rfl, fun j hj => absurd hj (Nat.not_lt_zero _)⟩, ⟨none, 0, rfl, ⟨Nat.le_refl _, by decide, by decide⟩, .inl rfl, fun j hj => absurd hj (Nat.not_lt_zero _)⟩⟩, rfl, ⟨by decide, by decide⟩, _, _, rfl, ⟨Nat.le_refl _, by decide, by decide⟩, .inl rfl⟩, b5.out⟩
      · obtain ⟨j, rfl⟩ := Int.eq_ofNat_of_zero_le (Int.not_lt.1 hi0)
        clear hi0
        by_cases hj : m ≤ j
        · have hd1 : decide ((m : Int) ≤ (j : Int)) = true := decide_eq_true (by omega)
          have hp := Lib.hid (show pickT (.arr S n sh m L K C N k sub) (j : Int) = zeroD from by show (if _ then _ else _) = _; rw [if_neg hnm, if_pos (.inr (.inl (by omega)))])
          clear hnm hc
          have f0 := Y.fr 0; have f1 := Y.fr 1; have f2 := Y.fr 2; have f3 := Y.fr 3; have f4 := Y.fr 4; have f5 := Y.fr 5; have f6 := Y.fr 6
          have d0 := Y.c0; have d1 := Y.c1; have d2 := Y.c2; have d3 := Y.c3; have d4 := Y.c4; have d5 := Y.c5; have d6 := Y.c6
          have z5 := Y.setAll (.int .u64 0) (.int .i64 0) (.bool false) (.slice none 0 0) (.slice none 0 0) (.int .i64 0) (.slice none 0 0)
          have b5 := Lib.hid (below_setAll bb (B := w.heap.size + 1) (by omega) (.int .u64 0) (.int .i64 0) (.bool false) (.slice none 0 0) (.slice none 0 0) (.int .i64 0) (.slice none 0 0))
          have g0 := z5.c0; have g1 := z5.c1; have g2 := z5.c2; have g3 := z5.c3; have g4 := z5.c4; have g5 := z5.c5; have g6 := z5.c6
          clear bb Y z5
          go_wp2_with fail
          refine bodyPost_ret (v := .agg #[.int .u64 0, .int .i64 0, .bool false, .slice none 0 0, .slice none 0 0, .int .i64 0, .slice none 0 0]) (by simp [results, Tryz.results37, go_sem, g0, g1, g2, g3, g4, g5, g6]) rfl ?_
          rw [hp.out]
          exact ⟨fun i => (#[.int .u64 0, .int .i64 0, .bool false, .slice none 0 0, .slice none 0 0, .int .i64 0, .slice none 0 0] : Array Value).getD i (.bool false), rfl, ⟨rfl, (by decide : (0 : Nat) < 18446744073709551616), rfl, ⟨by decide, by decide⟩, ⟨rfl, ⟨none, 0, rfl, ⟨Nat.le_refl _, by decide, by decide⟩, .inl rfl, fun j hj => absurd hj (Nat.not_lt_zero _)⟩, ⟨none, 0, rfl, ⟨Nat.le_refl _, by decide, by decide⟩, .inl rfl, fun j hj => absurd hj (Nat.not_lt_zero _)⟩⟩, rfl, ⟨by decide, by decide⟩, _, _, rfl, ⟨Nat.le_refl _, by decide, by decide⟩, .inl rfl⟩, b5.out⟩
        · have hd1 : decide ((m : Int) ≤ (j : Int)) = false := decide_eq_false (by omega)
          have hp := Lib.hid (show pickT (.arr S n sh m L K C N k sub) (j : Int) = ⟨L j, K j, N j, C j, k j, sub j⟩ from by show (if _ then _ else _) = _; rw [if_neg hnm, if_neg (by omega)]; rfl)
          clear hnm
          have hjm : j < m := by omega
          have hjz : (j : Int) < (m : Int) := by omega
          have hd0 : decide ((j : Int) < 0) = false := decide_eq_false (by omega)
          rcases hc with h0 | ⟨b, o, rfl, _, hcells⟩
          · omega
          obtain ⟨e, he, hcell⟩ := hcells j (by omega)
          have m0 := cell_below (he 0 (by decide)) bb
          have m1 := cell_below (he 1 (by decide)) bb
          have m2 := cell_below (he 2 (by decide)) bb
          have m3 := cell_below (he 3 (by decide)) bb
          have m4 := cell_below (he 4 (by decide)) bb
          have m5 := cell_below (he 5 (by decide)) bb
          have m6 := cell_below (he 6 (by decide)) bb
          rw [Nat.add_zero] at m0
          have hce := Lib.hid hcell
          obtain ⟨p0, pL, p1', pK, ⟨p2, ⟨a3, c3, p3, ha, _⟩, ⟨a4, c4, p4, hb4, _⟩⟩, p5, pC, io, kc, p6, hk, _⟩ := hcell
          have hv := Lib.hid (show (Value.agg #[.int .u64 (L j : Nat), .int .i64 (K j), .bool (N j).neg, .slice a3 (N j).an c3, .slice a4 (N j).am c4, .int .i64 (C j), .slice io (k j) kc]) = .agg #[e 0, e 1, e 2, e 3, e 4, e 5, e 6] from by rw [p0, p1', p2, p3, p4, p5, p6])
          rw [p0] at m0; rw [p1'] at m1; rw [p2] at m2; rw [p3] at m3; rw [p4] at m4; rw [p5] at m5; rw [p6] at m6
          clear hcells he p0 p1' p2 p3 p4 p5 p6 ha hb4
          have hk1 := hk.1; have hk2 := hk.2.1
          have f0 := Y.fr 0; have f1 := Y.fr 1; have f2 := Y.fr 2; have f3 := Y.fr 3; have f4 := Y.fr 4; have f5 := Y.fr 5; have f6 := Y.fr 6
          have d0 := Y.c0; have d1 := Y.c1; have d2 := Y.c2; have d3 := Y.c3; have d4 := Y.c4; have d5 := Y.c5; have d6 := Y.c6
          have z5 := Y.setAll (.int .u64 (L j : Nat)) (.int .i64 (K j)) (.bool (N j).neg) (.slice a3 (N j).an c3) (.slice a4 (N j).am c4) (.int .i64 (C j)) (.slice io (k j) kc)
          have b5 := Lib.hid (below_setAll bb (B := w.heap.size + 1) (by omega) (.int .u64 (L j : Nat)) (.int .i64 (K j)) (.bool (N j).neg) (.slice a3 (N j).an c3) (.slice a4 (N j).am c4) (.int .i64 (C j)) (.slice io (k j) kc))
          have g0 := z5.c0; have g1 := z5.c1; have g2 := z5.c2; have g3 := z5.c3; have g4 := z5.c4; have g5 := z5.c5; have g6 := z5.c6
          clear bb Y z5
          go_wp2_with fail
          refine bodyPost_ret (v := .agg #[.int .u64 (L j : Nat), .int .i64 (K j), .bool (N j).neg, .slice a3 (N j).an c3, .slice a4 (N j).am c4, .int .i64 (C j), .slice io (k j) kc]) (by simp [results, Tryz.results37, go_sem, g0, g1, g2, g3, g4, g5, g6]) rfl ?_
          rw [hp.out]
          exact ⟨e, by rw [hv.out], CellQ.keep hce.out (fun b _ hlt => b5.out.block b hlt) (fun _ hq _ => hq) (fun _ d0 d1 d2 hd => ArrQ.keep (fun b _ hlt => b5.out.block b hlt) (fun _ hq _ => hq) _ _ _ _ hd), b5.out⟩

theorem CellNQ.plain {w : World} {Q : Nat → Prop} {c : CellD} {e : Nat → Value} (h : CellNQ w Q c e) : CellR w c e := by
  obtain ⟨h0, hL, h1, hK, ⟨h2, ⟨ao, ac, h3, ha, hs, hl⟩, ⟨bo, bc, h4, hb, hs', hl'⟩⟩, h5, hC, io, kc, h6, hk, hrow⟩ := h
  refine ⟨h0, hL, h1, hK, ⟨h2, ⟨ao, ac, h3, ha, hs.plain, hl⟩, ⟨bo, bc, h4, hb, hs'.plain, hl'⟩⟩, h5, hC, io, kc, h6, hk, ?_⟩
  rcases hrow with h | ⟨b, o, e1, _, h⟩
  · exact .inl h
  · refine .inr ⟨b, o, e1, fun j hj => ?_⟩
    obtain ⟨d0, d1, d2, r0, r1, r2, r3⟩ := h j hj
    exact ⟨d0, d1, d2, r0, r1, r2, ArrQ.plain _ _ _ _ r3⟩

theorem pick10_any (A : Tree) (c0 c1 c2 : Value) (i : Int) (w : World) (h : ArrP w A c0 c1 c2) (i0 : -9223372036854775808 ≤ i) (i1 : i ≤ 9223372036854775807) :
    Calls Tryz.prog 37 #[.agg #[c0, c1, c2], .int .i64 i] w (CellPost (pickT A i) w) :=
  (pickQ_any A (· < w.heap.size) c0 c1 c2 i w (ArrP.within _ _ _ _ h) i0 i1).mono fun _ _ ⟨v, e, hv, hb⟩ => ⟨v, e, hv.plain, hb⟩

end Go.Proofs.YtaepelipkkmeaaaGreat
namespace Go.Proofs.YtaepelipkkmeaaaGreat

open Go.RowKit Num

/-- No leaf in it. -/
def FullT : Tree → Prop
  | .leaf => False
  | .arr _ _ _ m _ _ _ _ k sub => ∀ i, i < m → ∀ j, j < k i → FullT (sub i j)

theorem ArrP.full {w : World} : ∀ (A : Tree) (c0 c1 c2 : Value), ArrP w A c0 c1 c2 → FullT A := by
  intro A
  induction A with
  | leaf => intro c0 c1 c2 h; exact (ArrP.leaf h).elim
  | arr S n sh m L K C N k sub ih =>
    intro c0 c1 c2 h i hi j hj
    obtain ⟨_, _, h3⟩ := arr_labels h
    obtain ⟨d0, d1, d2, r⟩ := h3 i hi j hj
    exact ih i j d0 d1 d2 r

theorem same_refl : ∀ A, FullT A → SameT A A := by
  intro A
  induction A with
  | leaf => intro h; exact h.elim
  | arr S n sh m L K C N k sub ih =>
    intro h
    exact ⟨rfl, ⟨rfl, fun _ _ => rfl⟩, rfl, fun i hi => ⟨rfl, rfl, rfl, ⟨rfl, ⟨rfl, fun _ _ => rfl⟩, rfl, fun _ _ => rfl⟩, rfl, fun j hj => ih i j (h i hi j hj)⟩⟩

end Go.Proofs.YtaepelipkkmeaaaGreat
namespace Go.Proofs.YtaepelipkkmeaaaGreat

open Go.RowKit Num

def PickSC : Prop := ∀ (A : Tree) (i : Int) (c0 c1 c2 : Value) (w : World), ArrP w A c0 c1 c2 → FewT A → IsZ i → Calls Tryz.prog 36 #[.agg #[c0, c1, c2], .int .i64 i] w (CellPost (pickT A i) w)

end Go.Proofs.YtaepelipkkmeaaaGreat
namespace Go.Proofs.YtaepelipkkmeaaaGreat

open Go.RowKit Num

theorem ArrP.drew {w : World} {A : Tree} {c0 c1 c2 : Value} (h : ArrP w A c0 c1 c2) : ArrP w.drew A c0 c1 c2 := h.later (Below.refl _ _).drew

end Go.Proofs.YtaepelipkkmeaaaGreat
namespace Go.Proofs.YtaepelipkkmeaaaGreat

open Go.RowKit Num

theorem sameCell_refl (c : CellD) (e f : Nat → Value) (w : World) (h : CellR w c e) (h' : CellR w c f) :
    Calls Tryz.prog 35 #[.agg #[e 0, e 1, e 2, e 3, e 4, e 5, e 6], .agg #[f 0, f 1, f 2, f 3, f 4, f 5, f 6]] w (Tell (.bool true) w) := by
  have hk : ∀ j, j < c.k → SameT (c.sub j) (c.sub j) := by
    intro j hj
    obtain ⟨_, _, _, _, _, _, _, io, kc, _, _, hrow⟩ := h
    rcases hrow with h0 | ⟨b, o, _, hr⟩
    · omega
    · obtain ⟨d0, d1, d2, _, _, _, hd⟩ := hr j hj
      exact same_refl _ (ArrP.full _ _ _ _ hd)
  have hs : SameC c.L c.K c.N c.C c.k c.L c.K c.N c.C c.k (fun j => SameT (c.sub j) (c.sub j)) := ⟨rfl, rfl, rfl, ⟨rfl, ⟨rfl, fun _ _ => rfl⟩, ⟨rfl, fun _ _ => rfl⟩⟩, rfl, hk⟩
  exact (sameCell8_of c.L c.K c.N c.C c.k _ e c.L c.K c.N c.C c.k _ f (fun j => SameT (c.sub j) (c.sub j)) w h h' fun j d0 d1 d2 e0 e1 e2 w' hd he hb => same8_any _ _ _ _ _ _ _ _ _ (ArrP.later hd hb) (ArrP.later he hb)).mono fun _ _ hh => BoolPost.tell (b := true) (P := SameC c.L c.K c.N c.C c.k c.L c.K c.N c.C c.k (fun j => SameT (c.sub j) (c.sub j))) ⟨fun _ => hs, fun _ => rfl⟩ hh

end Go.Proofs.YtaepelipkkmeaaaGreat
namespace Go.Proofs.YtaepelipkkmeaaaGreat

open Go.RowKit Num

set_option maxRecDepth 20000 in
set_option maxHeartbeats 16000000 in
theorem picks10_walk (hA : Awake10C) (hP : PickSC) (A : Tree) (a0 a1 a2 : Value) (i : Int) (w : World) (ha : ArrP w A a0 a1 a2) (hi : IsZ i) :
    Calls Tryz.prog 6 #[.agg #[a0, a1, a2], .int .i64 i] w (Tell (.bool true) w) := by
  replace hA := Lib.hid hA; replace hP := Lib.hid hP; replace hi := Lib.hid hi
  obtain ⟨Sa, na, nca, ma, mca, aoa, coa, rfl, rfl, rfl⟩ := (ArrP.within _ _ _ _ ha).form
  replace ha := Lib.hid ha
  go_enter Tryz.func6, Tryz.ntmps6
  go_upto_region 1 with fail
  refine told_wp (fun w' => Below w.heap.size w w' ∧ Box3 w' w.heap.size (.int .u64 Sa) (.slice aoa na nca) (.slice coa ma mca))
    ⟨((Below.refl _ _).alloc (Nat.le_refl _) _), (Box3.new _ _ _ _ rfl)⟩ ?_
  rintro w0 ⟨bb, xa⟩
  replace bb := Lib.hid bb; replace xa := Lib.hid xa
  have q0 := xa.out.c0; have q1 := xa.out.c1; have q2 := xa.out.c2
  go_wp2_with fail
  refine (few8_any A _ _ _ w0 (ha.out.later bb.out)).mono ?_
  rintro e w1 ⟨⟨r, rfl, hr⟩, hb⟩
  clear q0 q1 q2
  cases r with
  | false =>
    replace bb := Lib.hid (below_then bb.out (Nat.le_refl _) hb)
    clear hb hr xa
    go_wp2_with fail
    refine (hA.out _).mono ?_
    rintro e wz ⟨rfl, hb⟩
    replace bb := Lib.hid (below_then bb.out (Nat.le_refl _) hb)
    clear hb
    go_wp2_with fail
    go_ret
    exact ⟨rfl, bb.out⟩
  | true =>
    have hFa := Lib.hid (hr rfl)
    replace bb := Lib.hid (below_then bb.out (Nat.le_refl _) hb); replace xa := Lib.hid (xa.out.later hb)
    clear hb hr
    replace bb := bb.out; replace xa := xa.out
    have a := ha.out.later bb
    go_upto_region 3 with fail
    have sa0 := True.intro
    go_region_held3 (fun w' => w'.cell? ⟨w.heap.size, 0, none⟩ = some (.int .u64 Sa) ∧ w'.cell? ⟨w.heap.size, 1, none⟩ = some (.slice aoa na nca) ∧ w'.cell? ⟨w.heap.size, 2, none⟩ = some (.slice coa ma mca))
      (first | with_reducible exact ⟨xa.drew.c0, xa.drew.c1, xa.drew.c2⟩ | with_reducible exact ⟨xa.c0, xa.c1, xa.c2⟩ | go_keep)
      (first
      | (go_at_call 36; clear sa0; have bb := bb.drew; have xa := xa.drew; have a := a.drew; refine (hP.out _ i _ _ _ _ a hFa.out hi.out).mono ?_; rintro e w' hp; obtain ⟨pb, pc, pi, pbc, pcc, pkc, rfl, p, hb⟩ := CellPost.form hp; clear hp; have bb := below_then bb (Nat.le_refl _) hb; have xa := xa.later hb; have a := a.later hb; clear hb; have sa1 := True.intro)
      | (go_at_call 37; clear sa1; refine (pick10_any A _ _ _ i _ a hi.out.1 hi.out.2).mono ?_; rintro e w' hp; obtain ⟨qb, qc, qi, qbc, qcc, qkc, rfl, q, hb⟩ := CellPost.form hp; clear hp; have bb := below_then bb (Nat.le_refl _) hb; have xa := xa.later hb; have a := a.later hb; have p := p.later hb; clear hb; have sa2 := True.intro)
      | (go_at_call 35; clear sa2; refine (sameCell_refl (pickT A i) _ _ _ p q).mono ?_; rintro e w' ⟨rfl, hb⟩; have bb := below_then bb (Nat.le_refl _) hb; have xa := xa.later hb; have a := a.later hb; have p := p.later hb; have q := q.later hb; clear hb; have sa3 := True.intro)
      | (go_at_call 16; clear sa3; refine (hA.out _).mono ?_; rintro e w' ⟨rfl, hb⟩; have bb := below_then bb (Nat.le_refl _) hb; have xa := xa.later hb; have a := a.later hb; have p := p.later hb; have q := q.later hb; clear hb; have sa4 := True.intro))
    go_wp2_with fail
    go_ret
    exact ⟨rfl, bb⟩

end Go.Proofs.YtaepelipkkmeaaaGreat
namespace Go.Proofs.YtaepelipkkmeaaaGreat

open Go.RowKit Num

theorem CellRQ.plain {w : World} {Q : Nat → Prop} {c : CellD} {e : Nat → Value} (h : CellRQ w Q c e) : CellR w c e := by
  obtain ⟨q0, q1, q2, q3, ⟨p0, ⟨ao, ac, p1, p2, p3, p4⟩, ⟨bo, bc, p5, p6, p7, p8⟩⟩, q5, q6, io, kc, q7, q8, q9⟩ := h
  refine ⟨q0, q1, q2, q3, ⟨p0, ⟨ao, ac, p1, p2, p3.plain, p4⟩, ⟨bo, bc, p5, p6, p7.plain, p8⟩⟩, q5, q6, io, kc, q7, q8, ?_⟩
  rcases q9 with q9 | ⟨b', o', rfl, _, q9⟩
  · exact .inl q9
  · refine .inr ⟨b', o', rfl, fun j hj => ?_⟩
    obtain ⟨d0, d1, d2, r0, r1, r2, r3⟩ := q9 j hj
    exact ⟨d0, d1, d2, r0, r1, r2, ArrQ.plain _ _ _ _ r3⟩

end Go.Proofs.YtaepelipkkmeaaaGreat
namespace Go.Proofs.YtaepelipkkmeaaaGreat

open Go.RowKit Num

attribute [local go_sem ↓] Go.wp_at_zero Go.wp_at_succ

attribute [local go_sem] fieldA1 fieldA2

/-- The cell at a place is no greater than the array. -/
theorem pick_parts {A : Tree} (hf : partsT A ≤ 4000) (i : Int) : partsC (pickT A i) ≤ 5000 := by
  obtain _ | ⟨S, n, sh, m, L, K, C, N, k, sub⟩ := A
  · show 1 + 0 + 0 + sumN _ 0 ≤ 5000; show 1 + 0 + 0 + 0 ≤ 5000; decide
  have key : ∀ j, j < m → partsC ⟨L j, K j, N j, C j, k j, sub j⟩ ≤ 5000 := fun j hj => by
    have h1 := sumN_one (fun i => 1 + (N i).an + (N i).am + sumN (fun j => partsT (sub i j)) (k i)) hj
    have h1' : 1 + (N j).an + (N j).am + sumN (fun j' => partsT (sub j j')) (k j) ≤ sumN (fun i => 1 + (N i).an + (N i).am + sumN (fun j => partsT (sub i j)) (k i)) m := h1
    have h2 : 1 + n + sumN (fun i => 1 + (N i).an + (N i).am + sumN (fun j => partsT (sub i j)) (k i)) m ≤ 4000 := hf
    show 1 + (N j).an + (N j).am + sumN (fun j' => partsT (sub j j')) (k j) ≤ 5000
    omega
  have hz : partsC zeroD ≤ 5000 := by show 1 + 0 + 0 + sumN _ 0 ≤ 5000; show 1 + 0 + 0 + 0 ≤ 5000; decide
  show partsC (if n = 0 ∧ 0 < m then _ else if i < 0 ∨ (m : Int) ≤ i ∨ n = 0 then zeroD else _) ≤ 5000
  by_cases h0 : n = 0 ∧ 0 < m
  · rw [if_pos h0]; exact key 0 h0.2
  · rw [if_neg h0]
    by_cases h1 : i < 0 ∨ (m : Int) ≤ i ∨ n = 0
    · rw [if_pos h1]; exact hz
    · rw [if_neg h1]; exact key _ (by omega)

theorem CellQ.plainP {w : World} {Q : Nat → Prop} {c : CellD} {e : Nat → Value} (h : CellQ w Q c.L c.K c.N c.C c.k (fun j d0 d1 d2 => ArrQ w Q (c.sub j) d0 d1 d2) e) : CellR w c e := CellRQ.plain h

set_option maxRecDepth 20000 in
set_option maxHeartbeats 400000 in
theorem pickSC : PickSC := by
  intro A i c0 c1 c2 w h hf hi
  have hp := pick_parts hf.1 i
  obtain ⟨ao, co, nc, mc, rfl, rfl, rfl, _⟩ := (ArrP.within _ _ _ _ h).top
  have h' := Lib.hid (ArrP.within _ _ _ _ h); have hp' := Lib.hid hp; have hi' := Lib.hid hi
  clear h hp hi hf
  go_enter Tryz.func36, Tryz.ntmps36
  go_upto_region 1 with fail
  refine told_wp (fun w' => Below w.heap.size w w' ∧ Box3 w' w.heap.size (.int .u64 (labT A)) (.slice ao (rankT A) nc) (.slice co (cellsT A) mc) ∧ Box7 w' (w.heap.size + 1) (.int .u64 0) (.int .i64 0) (.bool false) (.slice none 0 0) (.slice none 0 0) (.int .i64 0) (.slice none 0 0))
    ⟨((Below.refl _ _).alloc (Nat.le_refl _) _).alloc (by simp) _, (Box3.new _ _ _ _ rfl).alloc _, Box7.new _ _ _ _ _ _ _ _ (by simp)⟩ ?_
  rintro w1 ⟨bb, X, Y⟩
  have x0 := X.c0; have x1 := X.c1; have x2 := X.c2
  have hcall := Lib.hid (pickedQ_any A _ _ _ _ i w1 (ArrQ.laterQ h'.out bb) hi'.out.1 hi'.out.2)
  have bb' := Lib.hid bb; have Y' := Lib.hid Y
  clear X bb Y
  go_wp2_with fail
  refine hcall.out.mono ?_
  intro e w2 hP
  obtain ⟨p1, p2, p3, c1, c2, c3, rfl, hc, hb⟩ := hP.form
  replace bb' := Lib.hid (below_then bb'.out (Nat.le_refl _) hb); replace Y' := Lib.hid (Y'.out.later hb)
  have hc' : CellRQ w2 _ (pickT A i) _ := hc
  have hcall2 := Lib.hid (scalarW (pickT A i) _ w2 hc'.plain hp'.out)
  have hYl := Lib.hid Y'.out.lt
  clear hP hc hc' hb hcall x0 x1 x2
  go_wp2_with fail
  refine hcall2.out.mono ?_
  rintro e w3 ⟨d0, d1, d2, rfl, hT, hb⟩
  have bb := below_then bb'.out (Nat.le_refl _) hb; have Y := Y'.out.later hb
  obtain ⟨rfl, _, ⟨_, _, rfl, _⟩, qo, qc, rfl, hqn, hq⟩ := hT
  rcases hq with h0 | ⟨b, o, rfl, hbw, hcells⟩
  · omega
  obtain ⟨v, hv, hcell⟩ := hcells 0 (by omega)
  have m0 := hv 0 (by decide); have m1 := hv 1 (by decide); have m2 := hv 2 (by decide); have m3 := hv 3 (by decide); have m4 := hv 4 (by decide); have m5 := hv 5 (by decide); have m6 := hv 6 (by decide)
  rw [Nat.zero_mul, Nat.add_zero] at m1 m2 m3 m4 m5 m6
  simp only [Nat.zero_mul, Nat.add_zero] at m0
  have hce := Lib.hid hcell
  obtain ⟨p0, pL, p1', pK, ⟨p2', ⟨a3, c3', p3', ha, _⟩, ⟨a4, c4, p4, hb4, _⟩⟩, p5, pC, io, kc, p6, hk, _⟩ := hcell
  have hval := Lib.hid (show (Value.agg #[.int .u64 ((pickT A i).L : Nat), .int .i64 (pickT A i).K, .bool (pickT A i).N.neg, .slice a3 (pickT A i).N.an c3', .slice a4 (pickT A i).N.am c4, .int .i64 (pickT A i).C, .slice io (pickT A i).k kc]) = .agg #[v 0, v 1, v 2, v 3, v 4, v 5, v 6] from by rw [p0, p1', p2', p3', p4, p5, p6])
  rw [p0] at m0; rw [p1'] at m1; rw [p2'] at m2; rw [p3'] at m3; rw [p4] at m4; rw [p5] at m5; rw [p6] at m6
  have hk1 := hk.1; have hk2 := hk.2.1; have q1 := hqn.1; have q2 := hqn.2.1
  clear hcells hv p0 p1' p2' p3' p4 p5 p6 ha hb4 hcall2 hb bb' Y' hk hqn
  have hsz := Lib.hid (show w.heap.size + 1 < w2.heap.size from hYl.out)
  have f0 := Y.fr 0; have d0 := Y.c0; have f1 := Y.fr 1; have d1 := Y.c1; have f2 := Y.fr 2; have d2 := Y.c2; have f3 := Y.fr 3; have d3 := Y.c3; have f4 := Y.fr 4; have d4 := Y.c4; have f5 := Y.fr 5; have d5 := Y.c5; have f6 := Y.fr 6; have d6 := Y.c6
  have z5 := Y.setAll (.int .u64 ((pickT A i).L : Nat)) (.int .i64 (pickT A i).K) (.bool (pickT A i).N.neg) (.slice a3 (pickT A i).N.an c3') (.slice a4 (pickT A i).N.am c4) (.int .i64 (pickT A i).C) (.slice io (pickT A i).k kc)
  have b5 := Lib.hid (below_setAll bb (B := w.heap.size + 1) (by omega) (.int .u64 ((pickT A i).L : Nat)) (.int .i64 (pickT A i).K) (.bool (pickT A i).N.neg) (.slice a3 (pickT A i).N.an c3') (.slice a4 (pickT A i).N.am c4) (.int .i64 (pickT A i).C) (.slice io (pickT A i).k kc))
  have g0 := z5.c0; have g1 := z5.c1; have g2 := z5.c2; have g3 := z5.c3; have g4 := z5.c4; have g5 := z5.c5; have g6 := z5.c6
  clear z5 bb Y
  go_wp2_with fail
  refine bodyPost_ret (v := .agg #[.int .u64 ((pickT A i).L : Nat), .int .i64 (pickT A i).K, .bool (pickT A i).N.neg, .slice a3 (pickT A i).N.an c3', .slice a4 (pickT A i).N.am c4, .int .i64 (pickT A i).C, .slice io (pickT A i).k kc]) (by simp [results, Tryz.results36, go_sem, g0, g1, g2, g3, g4, g5, g6]) rfl ?_
  refine ⟨v, by rw [hval.out], CellQ.plainP (CellQ.keep hce.out (Q' := fun _ => True) (fun b hq hlt => heap_set7' (w := w3) (by have := hsz.out; have hq' : w2.heap.size ≤ b := hq; omega) _ _ _ _ _ _ _) (fun _ _ _ => trivial) (fun _ d0 d1 d2 hd => ArrQ.keep (fun b hq hlt => heap_set7' (w := w3) (by have := hsz.out; have hq' : w2.heap.size ≤ b := hq; omega) _ _ _ _ _ _ _) (fun _ _ _ => trivial) _ _ _ _ hd)), b5.out⟩

end Go.Proofs.YtaepelipkkmeaaaGreat
