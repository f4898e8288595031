/-
  scrimref08.left, Few: which arrays the statements ask of.
  scrimref08.Size, Depth, Total: through all cells and the arrays in them.
  scrimref08.SameCell, Same: two cells, two arrays, as they stand.
  scrimref08.Same: two arrays, as they stand.
  Arrays in memory, and in which blocks they lie.
  What Cover makes, and what holds while it makes it.
  scrimref08.Cover: an array with all labels raised, or with one label in their place.
  scrimref06.May, Class.
  scrimref08.Cell, Right: which cells and arrays are right.
  scrimref08.Right: an array is right.
  scrimref10.Conform, Pick.
  scrimref10.inner.
  scrimref10.Ones, Twos.
  scrimref10.Same: the same array and the same error.
  Blocks without limbs (Shut): where a number that a call handed back does not lie; append keeps its row such a one.
  An array that is made cell by cell, some of whose numbers come from calls (Mk); what One tells, plain.
  scrimref10.One.
  Two, plain: its error and what it makes, by how many boxes are within one another.
-/
import Derived.Test.YtaepelipkkmeaaaGreatMgtA
import Derived.Test.YtaepelipkkmeaaaGreatMgtB
import Derived.Test.YtaepelipkkmeaaaGreatMgtC
import Derived.Test.YtaepelipkkmeaaaGreatMgtD
import Derived.Test.YtaepelipkkmeaaaGreatMgtE
import Derived.Test.YtaepelipkkmeaaaGreatMgtF
import Derived.Test.YtaepelipkkmeaaaGreatMgtG
import Derived.Test.YtaepelipkkmeaaaGreatMgtScalarTwo1
import Derived.Deep.LoopGhost
import Derived.WalkKit
import Derived.Lib.BitFns
import Derived.Laws.CopyOwn
import Derived.Deep.RegionHeld3
import Derived.Laws.AppendOwn
import Derived.Deep.RegionWith
import Derived.BigQuiet
import Derived.Deep.DrawnRows
import Derived.Deep.CutRange
import Derived.Lib.Small
import Derived.Lib.Walk
import Derived.Deep.QuietTactic
import Derived.WalkSpells
import Derived.WalkLawsBesides
import Derived.Lib.Hide
import Derived.Laws.OwnMore
import Derived.Deep.AppendLies
set_option maxRecDepth 20000
set_option maxHeartbeats 16000000
namespace Go.Proofs.YtaepelipkkmeaaaGreat
open Go.RowKit
def LeftIs (A : Tree) (d : Nat) (n r : Int) : Prop := r ≤ n ∧ IsZ r ∧ (0 ≤ r → (partsT A : Int) = n - r ∧ NestT A d)
theorem left8_any : ∀ (A : Tree) (d : Nat) (n : Int) (c0 c1 c2 : Value) (w : World), ArrP w A c0 c1 c2 → d ≤ 12 → 0 ≤ n → n ≤ 4000 →
  Calls Tryz.prog 92 #[.agg #[c0, c1, c2], .int .i64 d, .int .i64 n] w fun e w' => (∃ r : Int, e = .returned (.int .i64 r) ∧ LeftIs A d n r) ∧ Below w.heap.size w w' := by
 intro A
 induction A with
 | leaf => intros; exact (ArrP.leaf ‹ArrP _ Tree.leaf _ _ _›).elim
 | arr S p sh m L K C N k sub ih =>
  intro d n c0 c1 c2 w h hd hn0 hn1
  obtain ⟨rfl, _, ⟨ao, nc, rfl, hp, _⟩, co, mc, rfl, hm, hc⟩ := h
  have hp1 := hp.1; have hp2 := hp.2.1; have hp3 := hp.2.2; have hm1 := hm.1; have hm2 := hm.2.1; have hm3 := hm.2.2
  have hbox := Box3.new (.int .u64 S) (.slice ao p nc) (.slice co m mc) 45 (show w.heap.size = w.heap.size from rfl)
  have hbel := (Below.refl w.heap.size w).alloc (Nat.le_refl _) (.cells #[.int .u64 S, .slice ao p nc, .slice co m mc] 45)
  go_enter Tryz.func92, Tryz.ntmps92
  by_cases hd00 : d = 0
  ·subst hd00
   go_wp2_with fail
   go_ret
   exact ⟨⟨-1, rfl, by omega, ⟨by omega, by omega⟩, fun h => by omega⟩, hbel⟩
  ·obtain ⟨d', hd'⟩ : ∃ d', d = d' + 1 := ⟨d - 1, by omega⟩
   have hD := Lib.hid hd'
   have hDd := Lib.hid (show (d : Int) - 1 = (d' : Int) by omega)
   have hdl : d' ≤ 12 := by omega
   have hd0 : ((d : Int) == 0) = false := by rw [beq_eq_false_iff_ne]; omega
   clear hd' hd00
   have hc' := Lib.hid hc
   clear hc
   go_wp2_with fail
   go_loopw [2, 7] (fun q i wr => ∃ (t : Nat) (r : Int), t ≤ m ∧ i = .int .i64 t ∧ q = .int .i64 r ∧ r ≤ n ∧ IsZ r ∧ Hid (0 ≤ r → ((1 + p + sumN (fun i => 1 + (N i).an + (N i).am + sumN (fun j => partsT (sub i j)) (k i)) t : Nat) : Int) = n - r ∧ ∀ x, x < t → ∀ j, j < k x → NestT (sub x j) d') ∧ Hid (Box3 wr w.heap.size (.int .u64 S) (.slice ao p nc) (.slice co m mc)) ∧ Hid (Below w.heap.size w wr)) (fun _ i _ => m - (intOfZ i).toNat)
   case atStart =>
    refine ⟨0, n - 1 - p, Nat.zero_le _, rfl, by rfl, by omega, ⟨by omega, by omega⟩, Lib.hid fun h => ⟨by show ((1 + p + 0 : Nat) : Int) = _; omega, fun x hx => by omega⟩, Lib.hid hbox, Lib.hid hbel⟩
   case round =>
    obtain ⟨t, r, ht, rfl, rfl, hrn, hrz, hsum, hbx, hbr⟩ := hrel
    clear hbox hbel
    by_cases hr0 : 0 ≤ r
    ·by_cases hlt : t < m
     ·rcases hc'.out with h0 | ⟨b, o, rfl, hcells⟩
      ·omega
      obtain ⟨e, he, q0, q1, q2, q3, ⟨q4, ⟨a1, ac, q5, q6, _⟩, ⟨b1, bc, q7, q8, _⟩⟩, q9, q10, io, kc, q11, q12, q13⟩ := hcells t hlt
      have an1 := q6.1; have an2 := q6.2.1; have an3 := q6.2.2; have am1 := q8.1; have am2 := q8.2.1; have am3 := q8.2.2; have kk1 := q12.1; have kk2 := q12.2.1
      have x3 := he 3 (by decide); have x4 := he 4 (by decide); have x6 := he 6 (by decide)
      rw [q5] at x3; rw [q7] at x4; rw [q11] at x6
      have y3 := cell_below x3 hbr.out; have y4 := cell_below x4 hbr.out; have y6 := cell_below x6 hbr.out
      have z2 := hbx.out.c2
      have hrow := Lib.hid q13
      have hg := Lib.hid x6
      obtain ⟨kt, hkt⟩ : ∃ kt, kt = k t := ⟨_, rfl⟩
      obtain ⟨an, han⟩ : ∃ an, an = (N t).an := ⟨_, rfl⟩
      obtain ⟨am, ham⟩ : ∃ am, am = (N t).am := ⟨_, rfl⟩
      rw [← hkt] at y6 kk1 hrow hg
      rw [← han] at y3 an1 an3
      rw [← ham] at y4 am1 am3
      have hkt' := Lib.hid hkt; have han' := Lib.hid han; have ham' := Lib.hid ham
      have hz1 := hrz.1; have hz2 := hrz.2
      clear hcells he q0 q1 q2 q3 q4 q5 q6 q7 q8 q9 q10 q11 q12 q13 x3 x4 x6 hkt han ham hrz
      go_wp2_with fail
      go_quiet (fail)
      have hbr2 := Lib.hid (below_drewN hbr.out nq)
      have hbx2 := Lib.hid (hbx.out.later (below_drewN (Below.refl _ _) nq))
      have hS0 := Lib.hid (hsum.out hr0)
      clear hbr hbx hsum y3 y4 y6 z2
      go_wp2_with fail
      go_loopw [2, 8] (fun q j wi => ∃ (u : Nat) (v : Int), u ≤ kt ∧ j = .int .i64 u ∧ q = .int .i64 v ∧ v ≤ n ∧ IsZ v ∧ Hid (0 ≤ v → ((1 + p + sumN (fun i => 1 + (N i).an + (N i).am + sumN (fun j => partsT (sub i j)) (k i)) t + (1 + an + am + sumN (fun j => partsT (sub t j)) u) : Nat) : Int) = n - v ∧ ∀ j, j < u → NestT (sub t j) d') ∧ Hid (Box3 wi w.heap.size (.int .u64 S) (.slice ao p nc) (.slice (some ⟨b, o, none⟩) m mc)) ∧ Hid (Below w.heap.size w wi)) (fun _ j _ => kt - (intOfZ j).toNat)
      case atStart =>
       refine ⟨0, r - 1 - an - am, Nat.zero_le _, rfl, by rfl, by omega, ⟨by omega, by omega⟩, Lib.hid fun h => ⟨?_, fun j hj => by omega⟩, hbx2, hbr2⟩
       have := hS0.out.1
       show ((1 + p + sumN (fun i => 1 + (N i).an + (N i).am + sumN (fun j => partsT (sub i j)) (k i)) t + (1 + an + am + 0) : Nat) : Int) = _
       omega
      case round =>
       obtain ⟨u, v, hu, rfl, rfl, hvn, hvz, hvs, hbx3, hbr3⟩ := hrel
       clear hbx2 hbr2
       have z3 := hbx3.out.c2
       have y7 := cell_below hg.out hbr3.out
       by_cases hv0 : 0 ≤ v
       ·by_cases hul : u < kt
        ·rcases hrow.out with h0 | ⟨b', o', rfl, hrows⟩
         ·omega
         obtain ⟨d0, d1, d2, r0, r1, r2, r3⟩ := hrows u hul
         have s0 := cell_below r0 hbr3.out; have s1 := cell_below r1 hbr3.out; have s2 := cell_below r2 hbr3.out
         have hA := Lib.hid (ArrP.below _ _ _ _ r3 hbr3.out)
         clear hrows r0 r1 r2 r3
         go_wp2_with fail
         rw [hDd.out]
         refine (ih t u d' v d0 d1 d2 wr hA.out hdl hv0 (by omega)).mono ?_
         rintro e2 w2 ⟨⟨v2, rfl, g1, g2, g3⟩, hb2⟩
         have hbr4 := Lib.hid (hbr3.out.trans (hb2.mono hbr3.out.size))
         have hbx4 := Lib.hid (hbx3.out.later hb2)
         have hnew := Lib.hid g3
         clear hb2 g3 s0 s1 s2 z3 y7
         go_wp2_with fail
         go_roundw
         case rel =>
          refine ⟨u + 1, v2, by omega, by go_num, rfl, by omega, g2, Lib.hid fun h => ⟨?_, fun j hj => ?_⟩, hbx4, hbr4⟩
          ·have k1 := (hvs.out hv0).1; have k2 := (hnew.out h).1
           show ((1 + p + sumN (fun i => 1 + (N i).an + (N i).am + sumN (fun j => partsT (sub i j)) (k i)) t + (1 + an + am + (sumN (fun j => partsT (sub t j)) u + partsT (sub t u))) : Nat) : Int) = _
           omega
          ·by_cases e3 : j = u
           ·rw [e3]; exact (hnew.out h).2
           ·exact (hvs.out hv0).2 j (by omega)
         case measure => simp [intOfZ]; omega
        ·obtain rfl : u = kt := by omega
         go_wp2_with fail
         go_roundw
         case rel =>
          refine ⟨t + 1, v, by omega, by go_num, rfl, hvn, hvz, Lib.hid fun h => ⟨?_, fun x hx j hj => ?_⟩, hbx3, hbr3⟩
          ·have k1 := (hvs.out hv0).1
           show ((1 + p + (sumN (fun i => 1 + (N i).an + (N i).am + sumN (fun j => partsT (sub i j)) (k i)) t + (1 + (N t).an + (N t).am + sumN (fun j => partsT (sub t j)) (k t))) : Nat) : Int) = _
           rw [← han'.out, ← ham'.out, ← hkt'.out]
           omega
          ·by_cases e3 : x = t
           ·subst e3; exact (hvs.out hv0).2 j (by rw [hkt'.out]; exact hj)
           ·exact hS0.out.2 x (by omega) j hj
         case measure => simp [intOfZ]; omega
       ·have hv1 := Lib.hid hv0
        by_cases hul : u < kt
        all_goals
         go_wp2_with fail
         go_roundw
         case rel => exact ⟨t + 1, v, by omega, by go_num, rfl, hvn, hvz, Lib.hid fun h => absurd h hv1.out, hbx3, hbr3⟩
         case measure => simp [intOfZ]; omega
     ·obtain rfl : t = m := by omega
      have z2 := hbx.out.c2
      go_wp2_with fail
      go_ret
      exact ⟨⟨r, rfl, hrn, hrz, fun h => ⟨(hsum.out h).1, by rw [hD.out]; exact (hsum.out h).2⟩⟩, hbr.out⟩
    ·have z2 := hbx.out.c2
     by_cases hlt : t < m
     all_goals
      go_wp2_with fail
      go_ret
      exact ⟨⟨r, rfl, hrn, hrz, fun h => by omega⟩, hbr.out⟩
theorem few8_any (A : Tree) (c0 c1 c2 : Value) (w : World) (h : ArrP w A c0 c1 c2) :
  Calls Tryz.prog 34 #[.agg #[c0, c1, c2]] w fun e w' => (∃ r, e = .returned (.bool r) ∧ (r = true → FewT A)) ∧ Below w.heap.size w w' := by
 have hbox := Box3.new c0 c1 c2 45 (show w.heap.size = w.heap.size from rfl)
 have hbel := Lib.hid ((Below.refl w.heap.size w).alloc (Nat.le_refl _) (.cells #[c0, c1, c2] 45))
 have hA := Lib.hid (ArrP.below _ _ _ _ h ((Below.refl w.heap.size w).alloc (Nat.le_refl _) (.cells #[c0, c1, c2] 45)))
 have z0 := hbox.c0; have z1 := hbox.c1; have z2 := hbox.c2
 clear h hbox
 go_enter Tryz.func34, Tryz.ntmps34
 go_wp2_with fail
 refine (left8_any A 12 4000 c0 c1 c2 _ hA.out (by decide) (by decide) (by decide)).mono ?_
 rintro e w1 ⟨⟨r, rfl, h1, h2, h3⟩, hb⟩
 have b1 := Lib.hid (hbel.out.trans (hb.mono hbel.out.size))
 have h3' := Lib.hid h3
 clear hb h3 z0 z1 z2
 go_wp2_with fail
 go_ret
 refine ⟨⟨_, rfl, fun h => ?_⟩, b1.out⟩
 have h0 : 0 ≤ r := by simpa using h
 have := (h3'.out h0).1
 exact ⟨by omega, (h3'.out h0).2⟩
end Go.Proofs.YtaepelipkkmeaaaGreat
namespace Go.Proofs.YtaepelipkkmeaaaGreat
open Go.RowKit
theorem arr_labels {w : World} {S n m : Nat} {sh : Nat → Int} {L : Nat → Nat} {K C : Nat → Int} {N : Nat → NumF} {k : Nat → Nat} {sub : Nat → Nat → Tree} {c0 c1 c2 : Value} (h : ArrP w (.arr S n sh m L K C N k sub) c0 c1 c2) :
  IsL S ∧ (∀ i, i < m → IsL (L i)) ∧ ∀ i, i < m → ∀ j, j < k i → ∃ d0 d1 d2, ArrP w (sub i j) d0 d1 d2 := by
 obtain ⟨_, hS, _, co, mc, _, _, hc⟩ := h
 refine ⟨hS, fun i hi => ?_, fun i hi j hj => ?_⟩
 ·rcases hc with h0 | ⟨b, o, _, hc⟩
  ·omega
  ·obtain ⟨e, _, _, q1, _⟩ := hc i hi
   exact q1
 ·rcases hc with h0 | ⟨b, o, _, hc⟩
  ·omega
  ·obtain ⟨e, _, _, _, _, _, _, _, _, io, kc, _, _, q13⟩ := hc i hi
   rcases q13 with h0 | ⟨b', o', _, hr⟩
   ·omega
   ·obtain ⟨d0, d1, d2, _, _, _, r⟩ := hr j hj
    exact ⟨d0, d1, d2, r⟩
end Go.Proofs.YtaepelipkkmeaaaGreat
namespace Go.Proofs.YtaepelipkkmeaaaGreat
open Go.RowKit
def BoolPost (P : Prop) (w : World) (e : Ending) (w' : World) : Prop := ∃ r, e = .returned (.bool r) ∧ (r = true ↔ P) ∧ Below w.heap.size w w'
def SameF (N M : NumF) : Prop := N.neg = M.neg ∧ (N.an = M.an ∧ ∀ j, j < N.an → N.fa j = M.fa j) ∧ (N.am = M.am ∧ ∀ j, j < N.am → N.ga j = M.ga j)
def SameC (L : Nat) (K : Int) (N : NumF) (C : Int) (k : Nat) (L' : Nat) (K' : Int) (N' : NumF) (C' : Int) (k' : Nat) (P : Nat → Prop) : Prop :=
 L = L' ∧ K = K' ∧ C = C' ∧ SameF N N' ∧ k = k' ∧ ∀ j, j < k → P j
def SameT : Tree → Tree → Prop
 | .leaf, _ => False
 | .arr S n sh m L K C N k sub, B => match B with
  | .leaf => False
  | .arr S' n' sh' m' L' K' C' N' k' sub' => S = S' ∧ SameZ n n' sh sh' ∧ m = m' ∧ ∀ i, i < m → SameC (L i) (K i) (N i) (C i) (k i) (L' i) (K' i) (N' i) (C' i) (k' i) (fun j => SameT (sub i j) (sub' i j))
theorem sameCell8_of (L : Nat) (K : Int) (N : NumF) (C : Int) (k : Nat) (R : Nat → Value → Value → Value → Prop) (e : Nat → Value) (L' : Nat) (K' : Int) (N' : NumF) (C' : Int) (k' : Nat) (R' : Nat → Value → Value → Value → Prop) (f : Nat → Value) (P : Nat → Prop) (w : World)
  (h : CellP w L K N C k R e) (h' : CellP w L' K' N' C' k' R' f)
  (hS : ∀ j d0 d1 d2 e0 e1 e2 w', R j d0 d1 d2 → R' j e0 e1 e2 → Below w.heap.size w w' → Calls Tryz.prog 82 #[.agg #[d0, d1, d2], .agg #[e0, e1, e2]] w' (BoolPost (P j) w')) :
  Calls Tryz.prog 35 #[.agg #[e 0, e 1, e 2, e 3, e 4, e 5, e 6], .agg #[f 0, f 1, f 2, f 3, f 4, f 5, f 6]] w (BoolPost (SameC L K N C k L' K' N' C' k' P) w) := by
 obtain ⟨p0, pL, p1, pK, ⟨p2, ⟨ao, ac, p3, ha, hsa, _⟩, ⟨bo, bc, p4, hb, hsb, _⟩⟩, p5, pC, io, kc, p6, hk, hrow⟩ := h
 obtain ⟨q0, qL, q1, qK, ⟨q2, ⟨ao', ac', q3, ha', hsa', _⟩, ⟨bo', bc', q4, hb', hsb', _⟩⟩, q5, qC, io', kc', q6, hk', hrow'⟩ := h'
 rw [p0, p1, p2, p3, p4, p5, p6, q0, q1, q2, q3, q4, q5, q6]
 have an1 := ha.1; have an2 := ha.2.1; have am1 := hb.1; have am2 := hb.2.1; have kk1 := hk.1; have kk2 := hk.2.1
 have bn1 := ha'.1; have bn2 := ha'.2.1; have bm1 := hb'.1; have bm2 := hb'.2.1; have kl1 := hk'.1; have kl2 := hk'.2.1
 have hbel := (((Below.refl w.heap.size w).alloc (Nat.le_refl _) (.cells #[.int .u64 L, .int .i64 K, .bool N.neg, .slice ao N.an ac, .slice bo N.am bc, .int .i64 C, .slice io k kc] 65)).alloc (by simp) (.cells #[.int .u64 L', .int .i64 K', .bool N'.neg, .slice ao' N'.an ac', .slice bo' N'.am bc', .int .i64 C', .slice io' k' kc'] 65))
 have hx := (Box7.new (w := w) (B := w.heap.size) (.int .u64 L) (.int .i64 K) (.bool N.neg) (.slice ao N.an ac) (.slice bo N.am bc) (.int .i64 C) (.slice io k kc) 65 rfl).alloc (.cells #[.int .u64 L', .int .i64 K', .bool N'.neg, .slice ao' N'.an ac', .slice bo' N'.am bc', .int .i64 C', .slice io' k' kc'] 65)
 have hy := Box7.new (w := w.alloc (.cells #[.int .u64 L, .int .i64 K, .bool N.neg, .slice ao N.an ac, .slice bo N.am bc, .int .i64 C, .slice io k kc] 65)) (B := w.heap.size + 1) (.int .u64 L') (.int .i64 K') (.bool N'.neg) (.slice ao' N'.an ac') (.slice bo' N'.am bc') (.int .i64 C') (.slice io' k' kc') 65 (by simp)
 have hsa1 := Lib.hid hsa; have hsb1 := Lib.hid hsb; have hsa2 := Lib.hid hsa'; have hsb2 := Lib.hid hsb'; have hr1 := Lib.hid hrow; have hr2 := Lib.hid hrow'; have hS' := Lib.hid hS
 clear p0 pL p1 pK p2 p3 p4 p5 pC p6 q0 qL q1 qK q2 q3 q4 q5 qC q6 ha hb hk ha' hb' hk' hsa hsb hsa' hsb' hrow hrow' hS
 by_cases e1 : L = L'
 ·by_cases e2 : K = K'
  ·by_cases e3 : C = C'
   ·subst e1; subst e2; subst e3
    go_enter Tryz.func35, Tryz.ntmps35
    go_wp2_with fail
    refine told_calls (fun w' => Below w.heap.size w w' ∧ Box7 w' w.heap.size (.int .u64 L) (.int .i64 K) (.bool N.neg) (.slice ao N.an ac) (.slice bo N.am bc) (.int .i64 C) (.slice io k kc) ∧ Box7 w' (w.heap.size + 1) (.int .u64 L) (.int .i64 K) (.bool N'.neg) (.slice ao' N'.an ac') (.slice bo' N'.am bc') (.int .i64 C) (.slice io' k' kc')) ⟨hbel, hx, hy⟩ ?_
    clear hbel hx hy
    rintro w0 ⟨b0, x0, y0⟩
    refine (same4B_any N.neg N'.neg ao bo ao' bo' N.an ac N.am bc N'.an ac' N'.am bc' N.fa N.ga N'.fa N'.ga w0 (by omega) (by omega) (hsa1.out.below b0) (hsb1.out.below b0) (hsa2.out.below b0) (hsb2.out.below b0)).mono ?_
    rintro e' w1 ⟨r, rfl, hr, hb1⟩
    have b1 := Lib.hid (b0.trans (hb1.mono b0.size)); have x1 := x0.later hb1; have y1 := y0.later hb1
    have hr' := Lib.hid hr
    have x1' := Lib.hid x1; have y1' := Lib.hid y1
    have z6 := x1.c6; have t6 := y1.c6
    clear b0 x0 y0 hb1 hr x1 y1
    cases r with
    | false =>
     go_wp2_with fail
     go_ret
     exact ⟨false, rfl, ⟨fun h => (Bool.false_ne_true h).elim, fun h => absurd (hr'.out.2 h.2.2.2.1) Bool.false_ne_true⟩, b1.out⟩
    | true =>
     by_cases e4 : k = k'
     ·subst e4
      go_wp2_with fail
      go_loopw [5] (fun i wr => ∃ j : Nat, j ≤ k ∧ i = .int .i64 j ∧ Hid (∀ t, t < j → P t) ∧ Hid (Box7 wr w.heap.size (.int .u64 L) (.int .i64 K) (.bool N.neg) (.slice ao N.an ac) (.slice bo N.am bc) (.int .i64 C) (.slice io k kc)) ∧ Hid (Box7 wr (w.heap.size + 1) (.int .u64 L) (.int .i64 K) (.bool N'.neg) (.slice ao' N'.an ac') (.slice bo' N'.am bc') (.int .i64 C) (.slice io' k kc')) ∧ Hid (Below w.heap.size w wr)) (fun i _ => k - (intOfZ i).toNat)
      case atStart => exact ⟨0, Nat.zero_le _, rfl, Lib.hid fun t h => by omega, x1', y1', b1⟩
      case round =>
       obtain ⟨j, hj, rfl, hd, hx, hy, hb⟩ := hrel
       clear x1' y1' b1 z6 t6
       by_cases hlt : j < k
       ·rcases hr1.out with h0 | ⟨b, o, rfl, hrows⟩
        ·omega
        rcases hr2.out with h0 | ⟨b', o', rfl, hrows'⟩
        ·omega
        obtain ⟨d0, d1, d2, r0, r1, r2, r3⟩ := hrows j hlt
        obtain ⟨f0, f1, f2, s0, s1, s2, s3⟩ := hrows' j hlt
        have hbd := hb.out.drew
        have xd := hx.out.drew; have yd := hy.out.drew
        have u6 := hx.out.c6
        go_wp2_with fail
        have g6 := xd.c6; have l6 := yd.c6
        have m0 := cell_below r0 hbd; have m1 := cell_below r1 hbd; have m2 := cell_below r2 hbd
        have n0 := cell_below s0 hbd; have n1 := cell_below s1 hbd; have n2 := cell_below s2 hbd
        have hcall := Lib.hid (fun w' h => hS'.out j d0 d1 d2 f0 f1 f2 w' r3 s3 h)
        clear hrows hrows' r0 r1 r2 s0 s1 s2
        have T1 : wr.drew.cell? ⟨w.heap.size, 6, none⟩ = some (.slice (some ⟨b, o, none⟩) k kc) ∧ wr.drew.cell? ⟨w.heap.size + 1, 6, none⟩ = some (.slice (some ⟨b', o', none⟩) k kc') ∧ wr.drew.cell? ⟨b, o + j * 3, none⟩ = some d0 ∧ wr.drew.cell? ⟨b, o + j * 3 + 1, none⟩ = some d1 ∧ wr.drew.cell? ⟨b, o + j * 3 + 2, none⟩ = some d2 ∧ wr.drew.cell? ⟨b', o' + j * 3, none⟩ = some f0 ∧ wr.drew.cell? ⟨b', o' + j * 3 + 1, none⟩ = some f1 ∧ wr.drew.cell? ⟨b', o' + j * 3 + 2, none⟩ = some f2 := ⟨g6, l6, m0, m1, m2, n0, n1, n2⟩
        go_region_held3 (fun w' => w'.cell? ⟨w.heap.size, 6, none⟩ = some (.slice (some ⟨b, o, none⟩) k kc) ∧ w'.cell? ⟨w.heap.size + 1, 6, none⟩ = some (.slice (some ⟨b', o', none⟩) k kc') ∧ w'.cell? ⟨b, o + j * 3, none⟩ = some d0 ∧ w'.cell? ⟨b, o + j * 3 + 1, none⟩ = some d1 ∧ w'.cell? ⟨b, o + j * 3 + 2, none⟩ = some d2 ∧ w'.cell? ⟨b', o' + j * 3, none⟩ = some f0 ∧ w'.cell? ⟨b', o' + j * 3 + 1, none⟩ = some f1 ∧ w'.cell? ⟨b', o' + j * 3 + 2, none⟩ = some f2)
         (first | exact T1 | exact T2)
         (first
         | (go_at_call 82; refine (hcall.out _ hbd).mono ?_; rintro e2 w2 ⟨r, rfl, hr2', hb2⟩; have hb3 := hbd.trans (hb2.mono hbd.size); have x2 := xd.later hb2; have y2 := yd.later hb2; have T2 := And.intro x2.c6 (And.intro y2.c6 (And.intro (cell_below m0 hb2) (And.intro (cell_below m1 hb2) (And.intro (cell_below m2 hb2) (And.intro (cell_below n0 hb2) (And.intro (cell_below n1 hb2) (cell_below n2 hb2))))))); clear hb2))
        have hr3 := Lib.hid hr2'; have x3 := Lib.hid x2; have y3 := Lib.hid y2; have b3 := Lib.hid hb3
        clear hr2' x2 y2 hb3 hbd xd yd g6 l6 m0 m1 m2 n0 n1 n2 T1 T2
        cases r with
        | true =>
         go_wp2_with fail
         go_roundw
         case rel =>
          refine ⟨j + 1, by omega, by go_num, Lib.hid fun t ht => ?_, x3, y3, b3⟩
          by_cases e : t = j
          ·rw [e]; exact hr3.out.1 (by first | exact rfl | trivial)
          ·exact hd.out t (by omega)
         case measure => simp [intOfZ]; omega
        | false =>
         go_wp2_with fail
         go_ret
         exact ⟨false, rfl, ⟨fun h => (Bool.false_ne_true h).elim, fun h => absurd (hr3.out.2 (h.2.2.2.2.2 j hlt)) Bool.false_ne_true⟩, b3.out⟩
       ·obtain rfl : j = k := by omega
        have g6 := hx.out.c6
        go_wp2_with fail
        go_ret
        exact ⟨true, rfl, ⟨fun _ => ⟨rfl, rfl, rfl, hr'.out.1 (by first | exact rfl | trivial), rfl, hd.out⟩, fun _ => rfl⟩, hb.out⟩
     ·have hd : ((k : Int) != (k' : Int)) = true := by rw [bne_iff_ne]; omega
      have hn := Lib.hid e4
      clear e4
      go_wp2_with fail
      go_ret
      exact ⟨false, rfl, ⟨fun h => (Bool.false_ne_true h).elim, fun h => absurd h.2.2.2.2.1 hn.out⟩, b1.out⟩
   ·subst e1; subst e2
    have hd : (C != C') = true := by rw [bne_iff_ne]; omega
    have hn := Lib.hid e3
    clear e3 hx hy
    go_enter Tryz.func35, Tryz.ntmps35
    go_wp2_with fail
    go_ret
    exact ⟨false, rfl, ⟨fun h => (Bool.false_ne_true h).elim, fun h => absurd h.2.2.1 hn.out⟩, hbel⟩
  ·subst e1
   have hd : (K != K') = true := by rw [bne_iff_ne]; omega
   have hn := Lib.hid e2
   clear e2 hx hy
   go_enter Tryz.func35, Tryz.ntmps35
   go_wp2_with fail
   go_ret
   exact ⟨false, rfl, ⟨fun h => (Bool.false_ne_true h).elim, fun h => absurd h.2.1 hn.out⟩, hbel⟩
 ·have hd : ((L : Int) != (L' : Int)) = true := by rw [bne_iff_ne]; omega
  have hn := Lib.hid e1
  clear e1 hx hy
  go_enter Tryz.func35, Tryz.ntmps35
  go_wp2_with fail
  go_ret
  exact ⟨false, rfl, ⟨fun h => (Bool.false_ne_true h).elim, fun h => absurd h.1 hn.out⟩, hbel⟩
end Go.Proofs.YtaepelipkkmeaaaGreat
namespace Go.Proofs.YtaepelipkkmeaaaGreat
open Go.RowKit
theorem same8_any : ∀ (A B : Tree) (c0 c1 c2 d0 d1 d2 : Value) (w : World), ArrP w A c0 c1 c2 → ArrP w B d0 d1 d2 →
  Calls Tryz.prog 82 #[.agg #[c0, c1, c2], .agg #[d0, d1, d2]] w (BoolPost (SameT A B) w) := by
 intro A
 induction A with
 | leaf => intros; exact (ArrP.leaf ‹ArrP _ Tree.leaf _ _ _›).elim
 | arr S n sh m L K C N k sub ih =>
  intro B c0 c1 c2 d0 d1 d2 w h h'
  obtain _ | ⟨S', n', sh', m', L', K', C', N', k', sub'⟩ := B
  ·exact (ArrP.leaf h').elim
  obtain ⟨rfl, _, ⟨ao, nc, rfl, hn, hsh, _⟩, co, mc, rfl, hm, hc⟩ := h
  obtain ⟨rfl, _, ⟨ao', nc', rfl, hn', hsh', _⟩, co', mc', rfl, hm', hc'⟩ := h'
  have n1 := hn.1; have n2 := hn.2.1; have m1 := hm.1; have m2 := hm.2.1; have n1' := hn'.1; have n2' := hn'.2.1; have m1' := hm'.1; have m2' := hm'.2.1
  have hbel := (((Below.refl w.heap.size w).alloc (Nat.le_refl _) (.cells #[.int .u64 S, .slice ao n nc, .slice co m mc] 45)).alloc (by simp) (.cells #[.int .u64 S', .slice ao' n' nc', .slice co' m' mc'] 45))
  have hx := (Box3.new (w := w) (B := w.heap.size) (.int .u64 S) (.slice ao n nc) (.slice co m mc) 45 rfl).alloc (.cells #[.int .u64 S', .slice ao' n' nc', .slice co' m' mc'] 45)
  have hy := Box3.new (w := w.alloc (.cells #[.int .u64 S, .slice ao n nc, .slice co m mc] 45)) (B := w.heap.size + 1) (.int .u64 S') (.slice ao' n' nc') (.slice co' m' mc') 45 (by simp)
  have hsh1 := Lib.hid hsh; have hsh2 := Lib.hid hsh'; have hc1 := Lib.hid hc; have hc2 := Lib.hid hc'
  clear hn hm hn' hm' hsh hsh' hc hc'
  by_cases e1 : S = S'
  ·subst e1
   go_enter Tryz.func82, Tryz.ntmps82
   go_wp2_with fail
   refine told_calls (fun w' => Below w.heap.size w w' ∧ Box3 w' w.heap.size (.int .u64 S) (.slice ao n nc) (.slice co m mc) ∧ Box3 w' (w.heap.size + 1) (.int .u64 S) (.slice ao' n' nc') (.slice co' m' mc')) ⟨hbel, hx, hy⟩ ?_
   clear hbel hx hy
   rintro w0 ⟨b0, x0, y0⟩
   refine (ints7_any ao ao' n nc n' nc' sh sh' w0 (by omega) (hsh1.out.below b0) (hsh2.out.below b0)).mono ?_
   rintro e' w1 ⟨hr, hb1⟩
   have b1 := Lib.hid (b0.trans (hb1.mono b0.size)); have x1 := x0.later hb1; have y1 := y0.later hb1
   have x1' := Lib.hid x1; have y1' := Lib.hid y1
   have z2 := x1.c2; have t2 := y1.c2
   clear b0 x0 y0 hb1 x1 y1
   rcases hr with ⟨rfl, hs⟩ | ⟨rfl, hs⟩
   ·have hs' := Lib.hid hs
    clear hs
    by_cases e4 : m = m'
    ·subst e4
     go_wp2_with fail
     go_loopw [5] (fun j wr => ∃ i : Nat, i ≤ m ∧ j = .int .i64 i ∧ Hid (∀ t, t < i → SameC (L t) (K t) (N t) (C t) (k t) (L' t) (K' t) (N' t) (C' t) (k' t) (fun j => SameT (sub t j) (sub' t j))) ∧ Hid (Box3 wr w.heap.size (.int .u64 S) (.slice ao n nc) (.slice co m mc)) ∧ Hid (Box3 wr (w.heap.size + 1) (.int .u64 S) (.slice ao' n' nc') (.slice co' m mc')) ∧ Hid (Below w.heap.size w wr)) (fun j _ => m - (intOfZ j).toNat)
     case atStart => exact ⟨0, Nat.zero_le _, rfl, Lib.hid fun t h => by omega, x1', y1', b1⟩
     case round =>
      obtain ⟨i, hi, rfl, hd, hx, hy, hb⟩ := hrel
      clear x1' y1' b1 z2 t2
      by_cases hlt : i < m
      ·rcases hc1.out with h0 | ⟨b, o, rfl, hcells⟩
       ·omega
       rcases hc2.out with h0 | ⟨b', o', rfl, hcells'⟩
       ·omega
       obtain ⟨e, he, hcell⟩ := hcells i hlt
       obtain ⟨f, hf, hcell'⟩ := hcells' i hlt
       have hbd := hb.out.drew
       have xd := hx.out.drew; have yd := hy.out.drew
       have u2 := hx.out.c2
       go_wp2_with fail
       have g2 := xd.c2; have l2 := yd.c2
       have m0 := cell_below (he 0 (by decide)) hbd
       rw [Nat.add_zero] at m0
       have n0 := cell_below (hf 0 (by decide)) hbd
       rw [Nat.add_zero] at n0
       have m1 := cell_below (he 1 (by decide)) hbd
       have n1 := cell_below (hf 1 (by decide)) hbd
       have m2 := cell_below (he 2 (by decide)) hbd
       have n2 := cell_below (hf 2 (by decide)) hbd
       have m3 := cell_below (he 3 (by decide)) hbd
       have n3 := cell_below (hf 3 (by decide)) hbd
       have m4 := cell_below (he 4 (by decide)) hbd
       have n4 := cell_below (hf 4 (by decide)) hbd
       have m5 := cell_below (he 5 (by decide)) hbd
       have n5 := cell_below (hf 5 (by decide)) hbd
       have m6 := cell_below (he 6 (by decide)) hbd
       have n6 := cell_below (hf 6 (by decide)) hbd
       have hcall := Lib.hid (fun (w' : World) (hw : Below w.heap.size w w') => sameCell8_of (L i) (K i) (N i) (C i) (k i) _ e (L' i) (K' i) (N' i) (C' i) (k' i) _ f (fun j => SameT (sub i j) (sub' i j)) w' (hcell.below hw fun j d0 d1 d2 _ hd => ArrP.below _ _ _ _ hd hw) (hcell'.below hw fun j d0 d1 d2 _ hd => ArrP.below _ _ _ _ hd hw)
        (fun j d0 d1 d2 e0 e1 e2 w'' r r' hw' => ih i j (sub' i j) d0 d1 d2 e0 e1 e2 w'' (ArrP.below _ _ _ _ r hw') (ArrP.below _ _ _ _ r' hw')))
       clear hcells hcells' he hf hcell hcell' u2
       have T1 : wr.drew.cell? ⟨w.heap.size, 2, none⟩ = some (.slice (some ⟨b, o, none⟩) m mc) ∧ wr.drew.cell? ⟨w.heap.size + 1, 2, none⟩ = some (.slice (some ⟨b', o', none⟩) m mc') ∧ wr.drew.cell? ⟨b, o + i * 7, none⟩ = some (e 0) ∧ wr.drew.cell? ⟨b, o + i * 7 + 1, none⟩ = some (e 1) ∧ wr.drew.cell? ⟨b, o + i * 7 + 2, none⟩ = some (e 2) ∧ wr.drew.cell? ⟨b, o + i * 7 + 3, none⟩ = some (e 3) ∧ wr.drew.cell? ⟨b, o + i * 7 + 4, none⟩ = some (e 4) ∧ wr.drew.cell? ⟨b, o + i * 7 + 5, none⟩ = some (e 5) ∧ wr.drew.cell? ⟨b, o + i * 7 + 6, none⟩ = some (e 6) ∧ wr.drew.cell? ⟨b', o' + i * 7, none⟩ = some (f 0) ∧ wr.drew.cell? ⟨b', o' + i * 7 + 1, none⟩ = some (f 1) ∧ wr.drew.cell? ⟨b', o' + i * 7 + 2, none⟩ = some (f 2) ∧ wr.drew.cell? ⟨b', o' + i * 7 + 3, none⟩ = some (f 3) ∧ wr.drew.cell? ⟨b', o' + i * 7 + 4, none⟩ = some (f 4) ∧ wr.drew.cell? ⟨b', o' + i * 7 + 5, none⟩ = some (f 5) ∧ wr.drew.cell? ⟨b', o' + i * 7 + 6, none⟩ = some (f 6) := And.intro (g2) (And.intro (l2) (And.intro (m0) (And.intro (m1) (And.intro (m2) (And.intro (m3) (And.intro (m4) (And.intro (m5) (And.intro (m6) (And.intro (n0) (And.intro (n1) (And.intro (n2) (And.intro (n3) (And.intro (n4) (And.intro (n5) (n6)))))))))))))))
       go_region_held3 (fun w' => w'.cell? ⟨w.heap.size, 2, none⟩ = some (.slice (some ⟨b, o, none⟩) m mc) ∧ w'.cell? ⟨w.heap.size + 1, 2, none⟩ = some (.slice (some ⟨b', o', none⟩) m mc') ∧ w'.cell? ⟨b, o + i * 7, none⟩ = some (e 0) ∧ w'.cell? ⟨b, o + i * 7 + 1, none⟩ = some (e 1) ∧ w'.cell? ⟨b, o + i * 7 + 2, none⟩ = some (e 2) ∧ w'.cell? ⟨b, o + i * 7 + 3, none⟩ = some (e 3) ∧ w'.cell? ⟨b, o + i * 7 + 4, none⟩ = some (e 4) ∧ w'.cell? ⟨b, o + i * 7 + 5, none⟩ = some (e 5) ∧ w'.cell? ⟨b, o + i * 7 + 6, none⟩ = some (e 6) ∧ w'.cell? ⟨b', o' + i * 7, none⟩ = some (f 0) ∧ w'.cell? ⟨b', o' + i * 7 + 1, none⟩ = some (f 1) ∧ w'.cell? ⟨b', o' + i * 7 + 2, none⟩ = some (f 2) ∧ w'.cell? ⟨b', o' + i * 7 + 3, none⟩ = some (f 3) ∧ w'.cell? ⟨b', o' + i * 7 + 4, none⟩ = some (f 4) ∧ w'.cell? ⟨b', o' + i * 7 + 5, none⟩ = some (f 5) ∧ w'.cell? ⟨b', o' + i * 7 + 6, none⟩ = some (f 6))
        (first | exact T1 | exact T2)
        (first
        | (go_at_call 35; refine (hcall.out _ hbd).mono ?_; rintro e2 w2 ⟨r, rfl, hr2', hb2⟩; have hb3 := hbd.trans (hb2.mono hbd.size); have x2 := xd.later hb2; have y2 := yd.later hb2; have T2 := And.intro (x2.c2) (And.intro (y2.c2) (And.intro (cell_below m0 hb2) (And.intro (cell_below m1 hb2) (And.intro (cell_below m2 hb2) (And.intro (cell_below m3 hb2) (And.intro (cell_below m4 hb2) (And.intro (cell_below m5 hb2) (And.intro (cell_below m6 hb2) (And.intro (cell_below n0 hb2) (And.intro (cell_below n1 hb2) (And.intro (cell_below n2 hb2) (And.intro (cell_below n3 hb2) (And.intro (cell_below n4 hb2) (And.intro (cell_below n5 hb2) (cell_below n6 hb2))))))))))))))); clear hb2))
       have hr3 := Lib.hid hr2'; have x3 := Lib.hid x2; have y3 := Lib.hid y2; have b3 := Lib.hid hb3
       clear hr2' x2 y2 hb3 hbd xd yd g2 l2 m0 n0 m1 n1 m2 n2 m3 n3 m4 n4 m5 n5 m6 n6 T1 T2
       cases r with
       | true =>
        go_wp2_with fail
        go_roundw
        case rel =>
         refine ⟨i + 1, by omega, by go_num, Lib.hid fun t ht => ?_, x3, y3, b3⟩
         by_cases e : t = i
         ·rw [e]; exact hr3.out.1 (by first | exact rfl | trivial)
         ·exact hd.out t (by omega)
        case measure => simp [intOfZ]; omega
       | false =>
        go_wp2_with fail
        go_ret
        exact ⟨false, rfl, ⟨fun h => (Bool.false_ne_true h).elim, fun h => absurd (hr3.out.2 (h.2.2.2 i hlt)) Bool.false_ne_true⟩, b3.out⟩
      ·obtain rfl : i = m := by omega
       have g2 := hx.out.c2
       go_wp2_with fail
       go_ret
       exact ⟨true, rfl, ⟨fun _ => ⟨rfl, hs'.out, rfl, hd.out⟩, fun _ => rfl⟩, hb.out⟩
    ·have hd : ((m : Int) != (m' : Int)) = true := by rw [bne_iff_ne]; omega
     have hn := Lib.hid e4
     clear e4
     go_wp2_with fail
     go_ret
     exact ⟨false, rfl, ⟨fun h => (Bool.false_ne_true h).elim, fun h => absurd h.2.2.1 hn.out⟩, b1.out⟩
   ·have hs' := Lib.hid hs
    clear hs
    go_wp2_with fail
    go_ret
    exact ⟨false, rfl, ⟨fun h => (Bool.false_ne_true h).elim, fun h => absurd h.2.1 hs'.out⟩, b1.out⟩
  ·have hd : ((S : Int) != (S' : Int)) = true := by rw [bne_iff_ne]; omega
   have hn := Lib.hid e1
   clear e1 hx hy
   go_enter Tryz.func82, Tryz.ntmps82
   go_wp2_with fail
   go_ret
   exact ⟨false, rfl, ⟨fun h => (Bool.false_ne_true h).elim, fun h => absurd h.1 hn.out⟩, hbel⟩
end Go.Proofs.YtaepelipkkmeaaaGreat
namespace Go.Proofs.YtaepelipkkmeaaaGreat
open Go.RowKit Num
theorem rowsN_snoc (es : Nat → List Value) (n : Nat) (x : List Value) : rowsN es n ++ x = rowsN (putL es n x) (n + 1) := by
 unfold rowsN
 rw [List.range_succ, List.flatMap_append]
 congr 1
 ·rw [List.flatMap_def, List.flatMap_def]
  refine congrArg List.flatten (List.map_congr_left fun t ht => ?_)
  have := List.mem_range.1 ht
  unfold putL
  rw [if_neg (by omega)]
 ·simp [putL]
end Go.Proofs.YtaepelipkkmeaaaGreat
namespace Go.Proofs.YtaepelipkkmeaaaGreat
open Go.RowKit Num
theorem own_upto {w w' : World} {U B size n : Nat} {e : TypeId} {v : Value} {xs : List Value} (h : w.ownsRow B e size v n xs) (hb : ∀ b, b < U → w'.heap[b]? = w.heap[b]?) (hv : ∀ g, v.ownBlock = some g → g < U) : w'.ownsRow B e size v n xs := by
 refine ⟨h.1, ?_⟩
 rcases h.2 with h0 | ⟨g, cap, cur, rfl, hB, hg, rest⟩
 ·exact .inl h0
 ·exact .inr ⟨g, cap, cur, rfl, hB, (hb g (hv g rfl)).trans hg, rest⟩
theorem own_but {w w' : World} {D B size n : Nat} {e : TypeId} {v : Value} {xs : List Value} (h : w.ownsRow B e size v n xs) (hb : ∀ b, b ≠ D → w'.heap[b]? = w.heap[b]?) (hv : ∀ g, v.ownBlock = some g → g ≠ D) : w'.ownsRow B e size v n xs := by
 refine ⟨h.1, ?_⟩
 rcases h.2 with h0 | ⟨g, cap, cur, rfl, hB, hg, rest⟩
 ·exact .inl h0
 ·exact .inr ⟨g, cap, cur, rfl, hB, (hb g (hv g rfl)).trans hg, rest⟩
end Go.Proofs.YtaepelipkkmeaaaGreat
namespace Go.Proofs.YtaepelipkkmeaaaGreat
open Go.RowKit Num
theorem Box7.set6 {w : World} {B : Nat} {z0 z1 z2 z3 z4 z5 z6 : Value} (h : Box7 w B z0 z1 z2 z3 z4 z5 z6) (v : Value) : Box7 (w.setCell ⟨B, 6, none⟩ v) B z0 z1 z2 z3 z4 z5 v := by
 have ne : ∀ {j k : Nat}, j ≠ k → (⟨B, j, none⟩ : Addr) ≠ ⟨B, k, none⟩ := fun h e => h (by injection e)
 exact ⟨(cell_set_ne (ne (by decide))).trans h.c0, (cell_set_ne (ne (by decide))).trans h.c1, (cell_set_ne (ne (by decide))).trans h.c2, (cell_set_ne (ne (by decide))).trans h.c3, (cell_set_ne (ne (by decide))).trans h.c4, (cell_set_ne (ne (by decide))).trans h.c5, World.cell?_setCell_same _ _ _ h.c6, fun j => by rw [World.frozen?_setCell]; exact h.fr j⟩
theorem seven_at (w : World) (v0 v1 v2 v3 v4 v5 v6 : Value) (t : TypeId) : ∀ j u, [v0, v1, v2, v3, v4, v5, v6][j]? = some u → (w.alloc (.cells #[v0, v1, v2, v3, v4, v5, v6] t)).cell? ((⟨w.heap.size, 0, none⟩ : Addr).add j) = some u := by
 intro j u h
 match j, h with
 | 0, h => simp at h; subst h; simp [Addr.add]
 | 1, h => simp at h; subst h; simp [Addr.add]
 | 2, h => simp at h; subst h; simp [Addr.add]
 | 3, h => simp at h; subst h; simp [Addr.add]
 | 4, h => simp at h; subst h; simp [Addr.add]
 | 5, h => simp at h; subst h; simp [Addr.add]
 | 6, h => simp at h; subst h; simp [Addr.add]
 | _ + 7, h => simp at h
end Go.Proofs.YtaepelipkkmeaaaGreat
namespace Go.Proofs.YtaepelipkkmeaaaGreat
open Go.RowKit
theorem may6_any (c : Int) (w : World) : Calls Tryz.prog 134 #[.int .i64 c] w fun e w' => e = .returned (.bool (mayZ c)) ∧ w = w' := by
 go_enter Tryz.func134, Tryz.ntmps134
 go_wp2_with fail
 all_goals (go_ret; refine ⟨?_, rfl⟩; unfold mayZ; simp_all; try omega)
end Go.Proofs.YtaepelipkkmeaaaGreat
namespace Go.Proofs.YtaepelipkkmeaaaGreat
open Go.RowKit Num
theorem numRight_any (N : NumF) (c0 c1 c2 : Value) (w : World) (h : NumP w N c0 c1 c2) :
  Calls Tryz.prog 14 #[.agg #[c0, c1, c2]] w (BoolPost (RightF N) w) := by
 obtain ⟨neg, an, fa, am, ga⟩ := N
 obtain ⟨rfl, ⟨ao, ac, rfl, hn, hs, hl⟩, ⟨bo, bc, rfl, hm, hs', hl'⟩⟩ := h
 refine (right4_in neg ao bo an ac am bc fa ga w ⟨hn.1, hn.2.1, hs, hl⟩ ⟨hm.1, hm.2.1, hs', hl'⟩).mono ?_
 rintro e w' ⟨r, rfl, h1, h2, hb⟩
 refine ⟨r, rfl, ⟨fun hr => ?_, fun ⟨P, Q, lw, e1, e2, e3⟩ => ?_⟩, hb⟩
 ·obtain ⟨P, Q, lw, R⟩ := h1 hr
  have n1 := R.top.len_le32 lw.2.2.1
  have n2 := R.bot.len_le32 (x := (Q : Int)) (by simpa using lw.2.2.2)
  have k1 := R.top.canon ⟨hn.1, hn.2.1, by omega, hs, hl⟩
  have k2 := R.bot.canon ⟨hm.1, hm.2.1, by omega, hs', hl'⟩
  obtain ⟨_, _, _, _, _, e⟩ := R.top.ex
  exact ⟨P, Q, lw, e, k1, by simpa using k2⟩
 ·refine h2 P Q lw ⟨⟨fa, hn.1, hn.2.1, hs, e2, e1⟩, ⟨ga, hm.1, hm.2.1, hs', by simpa using e3, by simp⟩⟩
theorem cell8_of (L : Nat) (K : Int) (N : NumF) (C : Int) (k : Nat) (R : Nat → Value → Value → Value → Prop) (e : Nat → Value) (T : Tree) (d : Nat) (P : Prop) (w : World) (h : CellP w L K N C k R e) (hd : d ≤ 8) (hR : ∀ d0 d1 d2, R 0 d0 d1 d2 → ArrP w T d0 d1 d2)
  (hS : ∀ d0 d1 d2 w', R 0 d0 d1 d2 → Below w.heap.size w w' → 0 < d → Calls Tryz.prog 27 #[.agg #[d0, d1, d2], .int .i64 ((d : Int) - 1)] w' (BoolPost P w')) :
  Calls Tryz.prog 84 #[.agg #[e 0, e 1, e 2, e 3, e 4, e 5, e 6], .int .i64 d] w (BoolPost (CellT K N C k (simpleT T) d P) w) := by
 obtain ⟨p0, pL, p1, pK, hN, p5, pC, io, kc, p6, hk, hrow⟩ := h
 obtain ⟨c0, hc0⟩ : ∃ x, x = e 2 := ⟨_, rfl⟩
 have hN' := Lib.hid hN
 obtain ⟨p2, ⟨ao, ac, p3, ha, _⟩, ⟨bo, bc, p4, hb, _⟩⟩ := hN
 rw [p2, p3, p4] at hN'
 rw [p0, p1, p2, p3, p4, p5, p6]
 have kk1 := hk.1; have kk2 := hk.2.1
 have hbel := Lib.hid ((Below.refl w.heap.size w).alloc (Nat.le_refl _) (.cells #[.int .u64 L, .int .i64 K, .bool N.neg, .slice ao N.an ac, .slice bo N.am bc, .int .i64 C, .slice io k kc] 65))
 have hx := Lib.hid (Box7.new (w := w) (B := w.heap.size) (.int .u64 L) (.int .i64 K) (.bool N.neg) (.slice ao N.an ac) (.slice bo N.am bc) (.int .i64 C) (.slice io k kc) 65 rfl)
 have hr1 := Lib.hid hrow; have hS' := Lib.hid hS; have hRT := Lib.hid hR
 clear p0 pL p1 pK p2 p3 p4 p5 pC p6 ha hb hk hrow hS hR hc0 c0
 by_cases K0 : K = 0
 ·subst K0
  by_cases C0 : C = 0
  ·subst C0
   by_cases k0 : k = 0
   ·subst k0
    go_enter Tryz.func84, Tryz.ntmps84
    go_wp2_with fail
    refine (numRight_any N _ _ _ _ (hN'.out.below hbel.out)).mono ?_
    rintro e' w1 ⟨r, rfl, hr, hb1⟩
    have b1 := Lib.hid (hbel.out.trans (hb1.mono hbel.out.size)); have hr' := Lib.hid hr
    clear hb1 hr
    go_wp2_with fail
    go_ret
    refine ⟨r, rfl, ⟨fun h => .inl ⟨rfl, rfl, rfl, hr'.out.1 h⟩, fun h => hr'.out.2 ?_⟩, b1.out⟩
    rcases h with h | h | h
    ·exact h.2.2.2
    ·exact absurd h.1 (by decide)
    ·exact absurd h.1 (by decide)
   ·have kb : ((k : Int) == 0) = false := by rw [beq_eq_false_iff_ne]; omega
    have hn := Lib.hid k0
    clear k0
    go_enter Tryz.func84, Tryz.ntmps84
    go_wp2_with fail
    go_ret
    refine ⟨false, rfl, ⟨fun h => (Bool.false_ne_true h).elim, fun h => ?_⟩, hbel.out⟩
    rcases h with h | h | h
    ·exact absurd h.2.2.1 hn.out
    ·exact absurd h.1 (by decide)
    ·exact absurd h.1 (by decide)
  ·have kb : (C == 0) = false := by rw [beq_eq_false_iff_ne]; exact C0
   have hn := Lib.hid C0
   clear C0
   go_enter Tryz.func84, Tryz.ntmps84
   go_wp2_with fail
   go_ret
   refine ⟨false, rfl, ⟨fun h => (Bool.false_ne_true h).elim, fun h => ?_⟩, hbel.out⟩
   rcases h with h | h | h
   ·exact absurd h.2.1 hn.out
   ·exact absurd h.1 (by decide)
   ·exact absurd h.1 (by decide)
 by_cases K1 : K = 1
 ·subst K1
  clear K0
  go_enter Tryz.func84, Tryz.ntmps84
  go_wp2_with fail
  refine (zero8_any N _ _ _ _ (hN'.out.below hbel.out)).mono ?_
  rintro e' w1 ⟨rfl, hb1⟩
  have b1 := Lib.hid (hbel.out.trans (hb1.mono hbel.out.size)); have x1 := hx.out.later hb1
  have g5 := x1.c5; have g6 := x1.c6
  clear hb1 hx x1
  obtain ⟨z, hz⟩ : ∃ z, z = zeroF N := ⟨_, rfl⟩
  have hz' := Lib.hid hz
  rw [← hz]
  clear hz
  cases z with
  | false =>
   go_wp2_with fail
   go_ret
   refine ⟨false, rfl, ⟨fun h => (Bool.false_ne_true h).elim, fun h => ?_⟩, b1.out⟩
   have hzo := hz'.out
   rcases h with h | h | h
   ·exact absurd h.1 (by decide)
   ·rw [h.2.1] at hzo; cases hzo
   ·exact absurd h.1 (by decide)
  | true =>
   by_cases k0 : k = 0
   ·subst k0
    go_wp2_with fail
    refine (may6_any C _).mono ?_
    rintro e' w2 ⟨rfl, rfl⟩
    go_wp2_with fail
    go_ret
    refine ⟨_, rfl, ⟨fun h => .inr (.inl ⟨rfl, hz'.out.symm, rfl, h⟩), fun h => ?_⟩, b1.out⟩
    rcases h with h | h | h
    ·exact absurd h.1 (by decide)
    ·exact h.2.2.2
    ·exact absurd h.1 (by decide)
   ·have kb : ((k : Int) == 0) = false := by rw [beq_eq_false_iff_ne]; omega
    have hn := Lib.hid k0
    clear k0
    go_wp2_with fail
    go_ret
    refine ⟨false, rfl, ⟨fun h => (Bool.false_ne_true h).elim, fun h => ?_⟩, b1.out⟩
    rcases h with h | h | h
    ·exact absurd h.1 (by decide)
    ·exact absurd h.2.2.1 hn.out
    ·exact absurd h.1 (by decide)
 by_cases K2 : K = 2
 ·subst K2
  clear K0 K1
  go_enter Tryz.func84, Tryz.ntmps84
  go_wp2_with fail
  refine (zero8_any N _ _ _ _ (hN'.out.below hbel.out)).mono ?_
  rintro e' w1 ⟨rfl, hb1⟩
  have b1 := Lib.hid (hbel.out.trans (hb1.mono hbel.out.size)); have x1 := hx.out.later hb1
  have hx1 := Lib.hid x1
  have g5 := x1.c5; have g6 := x1.c6
  clear hb1 hx x1
  obtain ⟨z, hz⟩ : ∃ z, z = zeroF N := ⟨_, rfl⟩
  have hz' := Lib.hid hz
  rw [← hz]
  clear hz
  cases z with
  | false =>
   go_wp2_with fail
   go_ret
   refine ⟨false, rfl, ⟨fun h => (Bool.false_ne_true h).elim, fun h => ?_⟩, b1.out⟩
   have hzo := hz'.out
   rcases h with h | h | h
   ·exact absurd h.1 (by decide)
   ·exact absurd h.1 (by decide)
   ·rw [h.2.1] at hzo; cases hzo
  | true =>
   by_cases C0 : C = 0
   ·subst C0
    by_cases k1 : k = 1
    ·subst k1
     by_cases d0 : d = 0
     ·subst d0
      go_wp2_with fail
      go_ret
      refine ⟨false, rfl, ⟨fun h => (Bool.false_ne_true h).elim, fun h => ?_⟩, b1.out⟩
      rcases h with h | h | h
      ·exact absurd h.1 (by decide)
      ·exact absurd h.1 (by decide)
      ·exact absurd h.2.2.2.2.1 (by decide)
     ·have hd0 : 0 < d := by omega
      have hd1 : (0 : Int) < (d : Int) := by omega
      clear d0
      rcases hr1.out with h0 | ⟨b, o, rfl, hrows⟩
      ·omega
      obtain ⟨u0, u1, u2, r0, r1, r2, r3⟩ := hrows 0 (by decide)
      rw [Nat.zero_mul, Nat.add_zero] at r0 r1 r2
      have s0 := cell_below r0 b1.out; have s1 := cell_below r1 b1.out; have s2 := cell_below r2 b1.out
      have hr3 := Lib.hid r3
      clear hrows
      go_wp2_with fail
      refine (simple8_any T u0 u1 u2 _ (ArrP.below _ _ _ _ (hRT.out _ _ _ hr3.out) b1.out)).mono ?_
      rintro e' w2 ⟨rfl, hb2⟩
      have b2 := Lib.hid (b1.out.trans (hb2.mono b1.out.size))
      have x2 := hx1.out.later hb2
      have t6 := x2.c6
      have v0 := cell_below r0 b2.out; have v1 := cell_below r1 b2.out; have v2 := cell_below r2 b2.out
      obtain ⟨si, hsi⟩ : ∃ si, si = simpleT T := ⟨_, rfl⟩
      have hsi' := Lib.hid hsi
      rw [← hsi]
      clear hsi s0 s1 s2 r0 r1 r2 r3 hb2 x2 g5 g6
      cases si with
      | true =>
       go_wp2_with fail
       go_ret
       refine ⟨false, rfl, ⟨fun h => (Bool.false_ne_true h).elim, fun h => ?_⟩, b2.out⟩
       have hso := hsi'.out
       rcases h with h | h | h
       ·exact absurd h.1 (by decide)
       ·exact absurd h.1 (by decide)
       ·rw [h.2.2.2.2.2.1] at hso; cases hso
      | false =>
       go_wp2_with fail
       refine (hS'.out u0 u1 u2 _ hr3.out b2.out hd0).mono ?_
       rintro e' w3 ⟨r, rfl, hr, hb3⟩
       have b3 := Lib.hid (b2.out.trans (hb3.mono b2.out.size)); have hr' := Lib.hid hr
       clear hb3 hr v0 v1 v2 t6
       go_wp2_with fail
       go_ret
       refine ⟨r, rfl, ⟨fun h => .inr (.inr ⟨rfl, hz'.out.symm, rfl, rfl, hd0, hsi'.out.symm, hr'.out.1 h⟩), fun h => hr'.out.2 ?_⟩, b3.out⟩
       rcases h with h | h | h
       ·exact absurd h.1 (by decide)
       ·exact absurd h.1 (by decide)
       ·exact h.2.2.2.2.2.2
    ·have kb : ((k : Int) == 1) = false := by rw [beq_eq_false_iff_ne]; omega
     have hn := Lib.hid k1
     clear k1
     go_wp2_with fail
     go_ret
     refine ⟨false, rfl, ⟨fun h => (Bool.false_ne_true h).elim, fun h => ?_⟩, b1.out⟩
     rcases h with h | h | h
     ·exact absurd h.1 (by decide)
     ·exact absurd h.1 (by decide)
     ·exact absurd h.2.2.2.1 hn.out
   ·have kb : (C == 0) = false := by rw [beq_eq_false_iff_ne]; exact C0
    have hn := Lib.hid C0
    clear C0
    go_wp2_with fail
    go_ret
    refine ⟨false, rfl, ⟨fun h => (Bool.false_ne_true h).elim, fun h => ?_⟩, b1.out⟩
    rcases h with h | h | h
    ·exact absurd h.1 (by decide)
    ·exact absurd h.1 (by decide)
    ·exact absurd h.2.2.1 hn.out
 have kb0 : (K == 0) = false := by rw [beq_eq_false_iff_ne]; exact K0
 have kb1 : (K == 1) = false := by rw [beq_eq_false_iff_ne]; exact K1
 have kb2 : (K == 2) = false := by rw [beq_eq_false_iff_ne]; exact K2
 have h0 := Lib.hid K0; have h1 := Lib.hid K1; have h2 := Lib.hid K2
 clear K0 K1 K2
 go_enter Tryz.func84, Tryz.ntmps84
 go_wp2_with fail
 go_ret
 refine ⟨false, rfl, ⟨fun h => (Bool.false_ne_true h).elim, fun h => ?_⟩, hbel.out⟩
 rcases h with h | h | h
 ·exact absurd h.1 h0.out
 ·exact absurd h.1 h1.out
 ·exact absurd h.1 h2.out
end Go.Proofs.YtaepelipkkmeaaaGreat
namespace Go.Proofs.YtaepelipkkmeaaaGreat
open Go.RowKit Num
theorem right8_any : ∀ (A : Tree) (d : Nat) (c0 c1 c2 : Value) (w : World), ArrP w A c0 c1 c2 → d ≤ 8 →
  Calls Tryz.prog 27 #[.agg #[c0, c1, c2], .int .i64 d] w (BoolPost (RightT A d) w) := by
 intro A
 induction A with
 | leaf => intros; exact (ArrP.leaf ‹ArrP _ Tree.leaf _ _ _›).elim
 | arr S n sh m L K C N k sub ih =>
  intro d c0 c1 c2 w h hd8
  obtain ⟨rfl, _, ⟨ao, nc, rfl, hn, hsh, _⟩, co, mc, rfl, hm, hc⟩ := h
  have n1 := hn.1; have n2 := hn.2.1; have m1 := hm.1; have m2 := hm.2.1; have m3 := hm.2.2
  have hbel := Lib.hid ((Below.refl w.heap.size w).alloc (Nat.le_refl _) (.cells #[.int .u64 S, .slice ao n nc, .slice co m mc] 45))
  have hx := Lib.hid (Box3.new (w := w) (B := w.heap.size) (.int .u64 S) (.slice ao n nc) (.slice co m mc) 45 rfl)
  have hsh1 := Lib.hid (hsh.below hbel.out)
  have hc1 := Lib.hid hc
  clear hn hm hsh hc
  go_enter Tryz.func27, Tryz.ntmps27
  go_wp2_with fail
  refine (count7_any ao n nc sh _ (by omega) hsh1.out).mono ?_
  rintro e' w1 ⟨⟨M, E, rfl, hcnt⟩, rfl⟩
  have hcnt' := Lib.hid hcnt
  have z2 := hx.out.c2
  clear hcnt
  by_cases hE : E = 0
  ·subst hE
   have hs := Lib.hid (hcnt'.out.shape rfl)
   by_cases hM : M = m
   ·subst hM
    go_wp2_with fail
    go_loopw [7] (fun j wr => ∃ i : Nat, i ≤ m ∧ j = .int .i64 i ∧ Hid (∀ t, t < i → CellT (K t) (N t) (C t) (k t) (simpleT (sub t 0)) d (RightT (sub t 0) (d - 1))) ∧ Hid (Box3 wr w.heap.size (.int .u64 S) (.slice ao n nc) (.slice co m mc)) ∧ Hid (Below w.heap.size w wr)) (fun j _ => m - (intOfZ j).toNat)
    case atStart => exact ⟨0, Nat.zero_le _, rfl, Lib.hid fun t h => by omega, hx, hbel⟩
    case round =>
     obtain ⟨i, hi, rfl, hd, hx2, hb⟩ := hrel
     clear hx hbel hsh1 z2
     by_cases hlt : i < m
     ·rcases hc1.out with h0 | ⟨b, o, rfl, hcells⟩
      ·omega
      obtain ⟨e, he, hcell⟩ := hcells i hlt
      have u2 := hx2.out.c2
      have m0 := cell_below (he 0 (by decide)) hb.out
      rw [Nat.add_zero] at m0
      have m1 := cell_below (he 1 (by decide)) hb.out
      have m2 := cell_below (he 2 (by decide)) hb.out
      have m3 := cell_below (he 3 (by decide)) hb.out
      have m4 := cell_below (he 4 (by decide)) hb.out
      have m5 := cell_below (he 5 (by decide)) hb.out
      have m6 := cell_below (he 6 (by decide)) hb.out
      have hcall := Lib.hid (cell8_of (L i) (K i) (N i) (C i) (k i) _ e (sub i 0) d (RightT (sub i 0) (d - 1)) wr (hcell.below hb.out fun j d0 d1 d2 _ hd => ArrP.below _ _ _ _ hd hb.out) hd8 (fun d0 d1 d2 r => r)
       (fun d0 d1 d2 w' r hw' hd0 => by
        have q := ih i 0 (d - 1) d0 d1 d2 w' (ArrP.below _ _ _ _ r hw') (by omega)
        rwa [show (((d - 1 : Nat) : Int)) = (d : Int) - 1 from by omega] at q))
      clear hcells he hcell
      go_wp2_with fail
      refine hcall.out.mono ?_
      rintro e2 w2 ⟨r, rfl, hr, hb2⟩
      have hr' := Lib.hid hr
      have b3 := Lib.hid (hb.out.trans (hb2.mono hb.out.size)); have x3 := Lib.hid (hx2.out.later hb2)
      clear hr hb2 hcall u2 m0 m1 m2 m3 m4 m5 m6
      cases r with
      | true =>
       go_wp2_with fail
       go_roundw
       case rel =>
        refine ⟨i + 1, by omega, by go_num, Lib.hid fun t ht => ?_, x3, b3⟩
        by_cases e : t = i
        ·rw [e]; exact hr'.out.1 (by first | exact rfl | trivial)
        ·exact hd.out t (by omega)
       case measure => simp [intOfZ]; omega
      | false =>
       go_wp2_with fail
       go_ret
       exact ⟨false, rfl, ⟨fun h => (Bool.false_ne_true h).elim, fun h => absurd (hr'.out.2 (h.2 i hlt)) Bool.false_ne_true⟩, b3.out⟩
     ·obtain rfl : i = m := by omega
      go_wp2_with fail
      go_ret
      exact ⟨true, rfl, ⟨fun _ => ⟨hs.out, hd.out⟩, fun _ => rfl⟩, hb.out⟩
   ·have hd : (M != (m : Int)) = true := by rw [bne_iff_ne]; exact hM
    have hn := Lib.hid hM
    clear hM
    go_wp2_with fail
    go_ret
    refine ⟨false, rfl, ⟨fun h => (Bool.false_ne_true h).elim, fun h => absurd ?_ hn.out⟩, hbel.out⟩
    rw [hs.out.all, ← h.1.all]
  ·have hd : (E != 0) = true := by rw [bne_iff_ne]; exact hE
   have hn := Lib.hid hE
   clear hE
   go_wp2_with fail
   go_ret
   exact ⟨false, rfl, ⟨fun h => (Bool.false_ne_true h).elim, fun h => absurd h.1 ((hcnt'.out.none hn.out).2.2 _)⟩, hbel.out⟩
end Go.Proofs.YtaepelipkkmeaaaGreat
namespace Go.Proofs.YtaepelipkkmeaaaGreat
open Go.RowKit Num
attribute [local go_sem ↓] Go.wp_at_zero Go.wp_at_succ
def confV (a b : Value) (n : Nat) (f : Nat → Int) (m : Nat) (g : Nat → Int) : Value := if n = 0 then b else if confE n f m g = 0 then a else .slice none 0 0
theorem conform10_any (S S' : Nat) (ao bo : Option Addr) (n nc m mc : Nat) (f g : Nat → Int) (c d : Value) (w : World) (hn : IsN n nc) (hm : IsN m mc) (hf : SlZ w ao n f) (hg : SlZ w bo m g) (hc : ∃ o k l, c = .slice o k l) (hd : ∃ o k l, d = .slice o k l) :
  Calls Tryz.prog 32 #[.agg #[.int .u64 S, .slice ao n nc, c], .agg #[.int .u64 S', .slice bo m mc, d]] w (Tell (.tuple #[confV (.slice ao n nc) (.slice bo m mc) n f m g, .int .i64 (confE n f m g)]) w) := by
 obtain ⟨co, ck, cl, rfl⟩ := hc
 obtain ⟨eo, dk, dl, rfl⟩ := hd
 have n1 := hn.1; have n2 := hn.2.1; have n3 := hn.2.2; have m1 := hm.1; have m2 := hm.2.1; have m3 := hm.2.2
 replace hf := Lib.hid hf; replace hg := Lib.hid hg
 clear hn hm
 go_enter Tryz.func32, Tryz.ntmps32
 go_upto_region 1 with fail
 refine told_wp (fun w' => Below w.heap.size w w' ∧ Box3 w' w.heap.size (.int .u64 S) (.slice ao n nc) (.slice co ck cl) ∧ Box3 w' (w.heap.size + 1) (.int .u64 S') (.slice bo m mc) (.slice eo dk dl))
  ⟨((Below.refl _ _).alloc (Nat.le_refl _) _).alloc (by simp) _, (Box3.new _ _ _ _ rfl).alloc _, Box3.new _ _ _ _ (by simp)⟩ ?_
 rintro w1 ⟨bb, X, Y⟩
 have p1 := X.c1; have q1 := Y.c1
 replace bb := Lib.hid bb
 clear X Y
 by_cases h0 : n = 0
 ·subst h0
  have e1 := Lib.hid (show confE 0 f m g = 0 from if_pos rfl); have e2 := Lib.hid (show confV (.slice ao 0 nc) (.slice bo m mc) 0 f m g = .slice bo m mc from if_pos rfl)
  go_wp2_with fail
  go_ret2
  exact ⟨by rw [e1.out, e2.out]; rfl, bb.out⟩
 have d0 : ((n : Int) == 0) = false := by rw [beq_eq_false_iff_ne]; omega
 by_cases g0 : m = 0
 ·subst g0
  have e1 := Lib.hid (show confE n f 0 g = 0 from by unfold confE; rw [if_neg h0, if_pos rfl]); have e2 := Lib.hid (show confV (.slice ao n nc) (.slice bo 0 mc) n f 0 g = .slice ao n nc from by unfold confV; rw [if_neg h0, if_pos e1.out])
  clear h0
  go_wp2_with fail
  go_ret2
  exact ⟨by rw [e1.out, e2.out]; rfl, bb.out⟩
 have d1 : ((m : Int) == 0) = false := by rw [beq_eq_false_iff_ne]; omega
 by_cases hnm : n = m
 ·subst hnm
  have h0' := Lib.hid h0
  clear h0 g0 d1
  go_wp2_with fail
  refine (ints7_any ao bo n nc n mc f g _ (by omega) (hf.out.below bb.out) (hg.out.below bb.out)).mono ?_
  rintro e v2 ⟨hr, hb⟩
  have p1 := (hb.cell (World.block_lt_of_cell? _ _ p1)).trans p1
  replace bb := Lib.hid (bb.out.trans (hb.mono bb.out.size))
  clear hb q1
  rcases hr with ⟨rfl, hs⟩ | ⟨rfl, hs⟩
  ·have e1 := Lib.hid (show confE n f n g = 0 from by unfold confE; rw [if_neg h0'.out, if_neg h0'.out, if_neg (fun h => h rfl), if_pos hs.2])
   have e2 := Lib.hid (show confV (.slice ao n nc) (.slice bo n mc) n f n g = .slice ao n nc from by unfold confV; rw [if_neg h0'.out, if_pos e1.out])
   clear hs
   go_wp2_with fail
   go_ret2
   exact ⟨by rw [e1.out, e2.out]; rfl, bb.out⟩
  ·have e1 := Lib.hid (show confE n f n g = 4 from by unfold confE; rw [if_neg h0'.out, if_neg h0'.out, if_neg (fun h => h rfl), if_neg (fun h => hs ⟨rfl, h⟩)])
   have e2 := Lib.hid (show confV (.slice ao n nc) (.slice bo n mc) n f n g = .slice none 0 0 from by unfold confV; rw [if_neg h0'.out, if_neg (by rw [e1.out]; decide)])
   clear hs
   go_wp2_with fail
   go_ret2
   exact ⟨by rw [e1.out, e2.out]; rfl, bb.out⟩
 ·have e1 := Lib.hid (show confE n f m g = 5 from by unfold confE; rw [if_neg h0, if_neg g0, if_pos hnm])
  have e2 := Lib.hid (show confV (.slice ao n nc) (.slice bo m mc) n f m g = .slice none 0 0 from by unfold confV; rw [if_neg h0, if_neg (by rw [e1.out]; decide)])
  have d2 : ((n : Int) == (m : Int)) = false := by rw [beq_eq_false_iff_ne]; omega
  clear hnm h0 g0
  go_wp2_with fail
  go_ret2
  exact ⟨by rw [e1.out, e2.out]; rfl, bb.out⟩
theorem pickQ_any (A : Tree) (Q0 : Nat → Prop) (c0 c1 c2 : Value) (i : Int) (w : World) (h : ArrQ w Q0 A c0 c1 c2) (i0 : -9223372036854775808 ≤ i) (i1 : i ≤ 9223372036854775807) :
  Calls Tryz.prog 37 #[.agg #[c0, c1, c2], .int .i64 i] w (CellQPost (pickT A i) Q0 w) := by
 obtain _ | ⟨S, n, sh, m, L, K, C, N, k, sub⟩ := A
 ·exact (ArrQ.leaf h).elim
 obtain ⟨rfl, hS, ⟨ao, nc, rfl, hn, _, _⟩, co, mc, rfl, hm, hc⟩ := h
 have n1 := hn.1; have n2 := hn.2.1; have n3 := hn.2.2; have m1 := hm.1; have m2 := hm.2.1; have m3 := hm.2.2
 clear hn hm
 go_enter Tryz.func37, Tryz.ntmps37
 go_upto_region 1 with fail
 refine told_wp (fun w' => Below w.heap.size w w' ∧ Box3 w' w.heap.size (.int .u64 S) (.slice ao n nc) (.slice co m mc) ∧ Box7 w' (w.heap.size + 1) (.int .u64 0) (.int .i64 0) (.bool false) (.slice none 0 0) (.slice none 0 0) (.int .i64 0) (.slice none 0 0))
  ⟨((Below.refl _ _).alloc (Nat.le_refl _) _).alloc (by simp) _, (Box3.new _ _ _ _ rfl).alloc _, Box7.new _ _ _ _ _ _ _ _ (by simp)⟩ ?_
 rintro w1 ⟨bb, X, Y⟩
 have p1 := X.c1; have q2 := X.c2
 clear X
 by_cases hnm : n = 0 ∧ 0 < m
 ·have hp := Lib.hid (show pickT (.arr S n sh m L K C N k sub) i = ⟨L 0, K 0, N 0, C 0, k 0, sub 0⟩ from if_pos hnm)
  obtain ⟨rfl, hm0⟩ := hnm
  have hmi : (0 : Int) < (m : Int) := by omega
  rcases hc with h0 | ⟨b, o, rfl, _, hcells⟩
  ·omega
  obtain ⟨e, he, hcell⟩ := hcells 0 (by omega)
  have m0 := cell_below (he 0 (by decide)) bb
  have m1 := cell_below (he 1 (by decide)) bb
  have m2 := cell_below (he 2 (by decide)) bb
  have m3 := cell_below (he 3 (by decide)) bb
  have m4 := cell_below (he 4 (by decide)) bb
  have m5 := cell_below (he 5 (by decide)) bb
  have m6 := cell_below (he 6 (by decide)) bb
  rw [Nat.zero_mul, Nat.add_zero] at m1 m2 m3 m4 m5 m6
  simp only [Nat.zero_mul, Nat.add_zero] at m0
  have hce := Lib.hid hcell
  obtain ⟨p0, pL, p1', pK, ⟨p2, ⟨a3, c3, p3, ha, _⟩, ⟨a4, c4, p4, hb4, _⟩⟩, p5, pC, io, kc, p6, hk, _⟩ := hcell
  have hv := Lib.hid (show (Value.agg #[.int .u64 (L 0 : Nat), .int .i64 (K 0), .bool (N 0).neg, .slice a3 (N 0).an c3, .slice a4 (N 0).am c4, .int .i64 (C 0), .slice io (k 0) kc]) = .agg #[e 0, e 1, e 2, e 3, e 4, e 5, e 6] from by rw [p0, p1', p2, p3, p4, p5, p6])
  rw [p0] at m0; rw [p1'] at m1; rw [p2] at m2; rw [p3] at m3; rw [p4] at m4; rw [p5] at m5; rw [p6] at m6
  clear hcells he p0 p1' p2 p3 p4 p5 p6 ha hb4
  have hk1 := hk.1; have hk2 := hk.2.1
  have f0 := Y.fr 0; have f1 := Y.fr 1; have f2 := Y.fr 2; have f3 := Y.fr 3; have f4 := Y.fr 4; have f5 := Y.fr 5; have f6 := Y.fr 6
  have d0 := Y.c0; have d1 := Y.c1; have d2 := Y.c2; have d3 := Y.c3; have d4 := Y.c4; have d5 := Y.c5; have d6 := Y.c6
  have z5 := Y.setAll (.int .u64 (L 0 : Nat)) (.int .i64 (K 0)) (.bool (N 0).neg) (.slice a3 (N 0).an c3) (.slice a4 (N 0).am c4) (.int .i64 (C 0)) (.slice io (k 0) kc)
  have b5 := Lib.hid (below_setAll bb (B := w.heap.size + 1) (by omega) (.int .u64 (L 0 : Nat)) (.int .i64 (K 0)) (.bool (N 0).neg) (.slice a3 (N 0).an c3) (.slice a4 (N 0).am c4) (.int .i64 (C 0)) (.slice io (k 0) kc))
  have g0 := z5.c0; have g1 := z5.c1; have g2 := z5.c2; have g3 := z5.c3; have g4 := z5.c4; have g5 := z5.c5; have g6 := z5.c6
  clear bb Y z5
  go_wp2_with fail
  refine bodyPost_ret (v := .agg #[.int .u64 (L 0 : Nat), .int .i64 (K 0), .bool (N 0).neg, .slice a3 (N 0).an c3, .slice a4 (N 0).am c4, .int .i64 (C 0), .slice io (k 0) kc]) (by simp [results, Tryz.results37, go_sem, g0, g1, g2, g3, g4, g5, g6]) rfl ?_
  rw [hp.out]
  exact ⟨e, by rw [hv.out], CellQ.keep hce.out (fun b _ hlt => b5.out.block b hlt) (fun _ hq _ => hq) (fun _ d0 d1 d2 hd => ArrQ.keep (fun b _ hlt => b5.out.block b hlt) (fun _ hq _ => hq) _ _ _ _ hd), b5.out⟩
 ·by_cases h0 : n = 0
  ·obtain rfl : m = 0 := by omega
   have hz : i < 0 ∨ (((0 : Nat) : Int)) ≤ i ∨ n = 0 := .inr (.inr h0)
   have hp := Lib.hid (show pickT (.arr S n sh 0 L K C N k sub) i = zeroD from by show (if _ then _ else _) = _; rw [if_neg hnm, if_pos hz])
   clear hnm hz hc
   subst h0
   by_cases hi0 : i < 0
   ·have hd0 : decide (i < 0) = true := decide_eq_true hi0
    have f0 := Y.fr 0; have f1 := Y.fr 1; have f2 := Y.fr 2; have f3 := Y.fr 3; have f4 := Y.fr 4; have f5 := Y.fr 5; have f6 := Y.fr 6
    have d0 := Y.c0; have d1 := Y.c1; have d2 := Y.c2; have d3 := Y.c3; have d4 := Y.c4; have d5 := Y.c5; have d6 := Y.c6
    have z5 := Y.setAll (.int .u64 0) (.int .i64 0) (.bool false) (.slice none 0 0) (.slice none 0 0) (.int .i64 0) (.slice none 0 0)
    have b5 := Lib.hid (below_setAll bb (B := w.heap.size + 1) (by omega) (.int .u64 0) (.int .i64 0) (.bool false) (.slice none 0 0) (.slice none 0 0) (.int .i64 0) (.slice none 0 0))
    have g0 := z5.c0; have g1 := z5.c1; have g2 := z5.c2; have g3 := z5.c3; have g4 := z5.c4; have g5 := z5.c5; have g6 := z5.c6
    clear bb Y z5
    go_wp2_with fail
    refine bodyPost_ret (v := .agg #[.int .u64 0, .int .i64 0, .bool false, .slice none 0 0, .slice none 0 0, .int .i64 0, .slice none 0 0]) (by simp [results, Tryz.results37, go_sem, g0, g1, g2, g3, g4, g5, g6]) rfl ?_
    rw [hp.out]
    exact ⟨fun i => (#[.int .u64 0, .int .i64 0, .bool false, .slice none 0 0, .slice none 0 0, .int .i64 0, .slice none 0 0] : Array Value).getD i (.bool false), rfl, ⟨rfl, (by decide : (0 : Nat) < 18446744073709551616), rfl, ⟨by decide, by decide⟩, ⟨rfl, ⟨none, 0, rfl, ⟨Nat.le_refl _, by decide, by decide⟩, .inl rfl, fun j hj => absurd hj (Nat.not_lt_zero _)⟩, ⟨none, 0, rfl, ⟨Nat.le_refl _, by decide, by decide⟩, .inl rfl, fun j hj => absurd hj (Nat.not_lt_zero _)⟩⟩, rfl, ⟨by decide, by decide⟩, _, _, rfl, ⟨Nat.le_refl _, by decide, by decide⟩, .inl rfl⟩, b5.out⟩
   ·have hd0 : decide (i < 0) = false := decide_eq_false hi0
    have hi1 : (0 : Int) ≤ i := by omega
    have f0 := Y.fr 0; have f1 := Y.fr 1; have f2 := Y.fr 2; have f3 := Y.fr 3; have f4 := Y.fr 4; have f5 := Y.fr 5; have f6 := Y.fr 6
    have d0 := Y.c0; have d1 := Y.c1; have d2 := Y.c2; have d3 := Y.c3; have d4 := Y.c4; have d5 := Y.c5; have d6 := Y.c6
    have z5 := Y.setAll (.int .u64 0) (.int .i64 0) (.bool false) (.slice none 0 0) (.slice none 0 0) (.int .i64 0) (.slice none 0 0)
    have b5 := Lib.hid (below_setAll bb (B := w.heap.size + 1) (by omega) (.int .u64 0) (.int .i64 0) (.bool false) (.slice none 0 0) (.slice none 0 0) (.int .i64 0) (.slice none 0 0))
    have g0 := z5.c0; have g1 := z5.c1; have g2 := z5.c2; have g3 := z5.c3; have g4 := z5.c4; have g5 := z5.c5; have g6 := z5.c6
    clear bb Y z5
    go_wp2_with fail
    refine bodyPost_ret (v := .agg #[.int .u64 0, .int .i64 0, .bool false, .slice none 0 0, .slice none 0 0, .int .i64 0, .slice none 0 0]) (by simp [results, Tryz.results37, go_sem, g0, g1, g2, g3, g4, g5, g6]) rfl ?_
    rw [hp.out]
    exact ⟨fun i => (#[.int .u64 0, .int .i64 0, .bool false, .slice none 0 0, .slice none 0 0, .int .i64 0, .slice none 0 0] : Array Value).getD i (.bool false), rfl, ⟨rfl, (by decide : (0 : Nat) < 18446744073709551616), rfl, ⟨by decide, by decide⟩, ⟨rfl, ⟨none, 0, rfl, ⟨Nat.le_refl _, by decide, by decide⟩, .inl rfl, fun j hj => absurd hj (Nat.not_lt_zero _)⟩, ⟨none, 0, rfl, ⟨Nat.le_refl _, by decide, by decide⟩, .inl rfl, fun j hj => absurd hj (Nat.not_lt_zero _)⟩⟩, rfl, ⟨by decide, by decide⟩, _, _, rfl, ⟨Nat.le_refl _, by decide, by decide⟩, .inl rfl⟩, b5.out⟩
  ·have dn : ((n : Int) == 0) = false := by rw [beq_eq_false_iff_ne]; omega
   by_cases hi0 : i < 0
   ·have hd0 : decide (i < 0) = true := decide_eq_true hi0
    have hp := Lib.hid (show pickT (.arr S n sh m L K C N k sub) i = zeroD from by show (if _ then _ else _) = _; rw [if_neg hnm, if_pos (.inl hi0)])
    clear hnm hc
    have f0 := Y.fr 0; have f1 := Y.fr 1; have f2 := Y.fr 2; have f3 := Y.fr 3; have f4 := Y.fr 4; have f5 := Y.fr 5; have f6 := Y.fr 6
    have d0 := Y.c0; have d1 := Y.c1; have d2 := Y.c2; have d3 := Y.c3; have d4 := Y.c4; have d5 := Y.c5; have d6 := Y.c6
    have z5 := Y.setAll (.int .u64 0) (.int .i64 0) (.bool false) (.slice none 0 0) (.slice none 0 0) (.int .i64 0) (.slice none 0 0)
    have b5 := Lib.hid (below_setAll bb (B := w.heap.size + 1) (by omega) (.int .u64 0) (.int .i64 0) (.bool false) (.slice none 0 0) (.slice none 0 0) (.int .i64 0) (.slice none 0 0))
    have g0 := z5.c0; have g1 := z5.c1; have g2 := z5.c2; have g3 := z5.c3; have g4 := z5.c4; have g5 := z5.c5; have g6 := z5.c6
    clear bb Y z5
    go_wp2_with fail
    refine bodyPost_ret (v := .agg #[.int .u64 0, .int .i64 0, .bool false, .slice none 0 0, .slice none 0 0, .int .i64 0, .slice none 0 0]) (by simp [results, Tryz.results37, go_sem, g0, g1, g2, g3, g4, g5, g6]) rfl ?_
    rw [hp.out]
    exact ⟨fun i => (#[.int .u64 0, .int .i64 0, .bool false, .slice none 0 0, .slice none 0 0, .int .i64 0, .slice none 0 0] : Array Value).getD i (.bool false), rfl, ⟨rfl, (by decide : (0 : Nat) < 18446744073709551616), rfl, ⟨by decide, by decide⟩, ⟨rfl, ⟨none, 0, rfl, ⟨Nat.le_refl _, by decide, by decide⟩, .inl rfl, fun j hj => absurd hj (Nat.not_lt_zero _)⟩, ⟨none, 0, rfl, ⟨Nat.le_refl _, by decide, by decide⟩, .inl rfl, fun j hj => absurd hj (Nat.not_lt_zero _)⟩⟩, rfl, ⟨by decide, by decide⟩, _, _, rfl, ⟨Nat.le_refl _, by decide, by decide⟩, .inl rfl⟩, b5.out⟩
   ·obtain ⟨j, rfl⟩ := Int.eq_ofNat_of_zero_le (Int.not_lt.1 hi0)
    clear hi0
    by_cases hj : m ≤ j
    ·have hd1 : decide ((m : Int) ≤ (j : Int)) = true := decide_eq_true (by omega)
     have hp := Lib.hid (show pickT (.arr S n sh m L K C N k sub) (j : Int) = zeroD from by show (if _ then _ else _) = _; rw [if_neg hnm, if_pos (.inr (.inl (by omega)))])
     clear hnm hc
     have f0 := Y.fr 0; have f1 := Y.fr 1; have f2 := Y.fr 2; have f3 := Y.fr 3; have f4 := Y.fr 4; have f5 := Y.fr 5; have f6 := Y.fr 6
     have d0 := Y.c0; have d1 := Y.c1; have d2 := Y.c2; have d3 := Y.c3; have d4 := Y.c4; have d5 := Y.c5; have d6 := Y.c6
     have z5 := Y.setAll (.int .u64 0) (.int .i64 0) (.bool false) (.slice none 0 0) (.slice none 0 0) (.int .i64 0) (.slice none 0 0)
     have b5 := Lib.hid (below_setAll bb (B := w.heap.size + 1) (by omega) (.int .u64 0) (.int .i64 0) (.bool false) (.slice none 0 0) (.slice none 0 0) (.int .i64 0) (.slice none 0 0))
     have g0 := z5.c0; have g1 := z5.c1; have g2 := z5.c2; have g3 := z5.c3; have g4 := z5.c4; have g5 := z5.c5; have g6 := z5.c6
     clear bb Y z5
     go_wp2_with fail
     refine bodyPost_ret (v := .agg #[.int .u64 0, .int .i64 0, .bool false, .slice none 0 0, .slice none 0 0, .int .i64 0, .slice none 0 0]) (by simp [results, Tryz.results37, go_sem, g0, g1, g2, g3, g4, g5, g6]) rfl ?_
     rw [hp.out]
     exact ⟨fun i => (#[.int .u64 0, .int .i64 0, .bool false, .slice none 0 0, .slice none 0 0, .int .i64 0, .slice none 0 0] : Array Value).getD i (.bool false), rfl, ⟨rfl, (by decide : (0 : Nat) < 18446744073709551616), rfl, ⟨by decide, by decide⟩, ⟨rfl, ⟨none, 0, rfl, ⟨Nat.le_refl _, by decide, by decide⟩, .inl rfl, fun j hj => absurd hj (Nat.not_lt_zero _)⟩, ⟨none, 0, rfl, ⟨Nat.le_refl _, by decide, by decide⟩, .inl rfl, fun j hj => absurd hj (Nat.not_lt_zero _)⟩⟩, rfl, ⟨by decide, by decide⟩, _, _, rfl, ⟨Nat.le_refl _, by decide, by decide⟩, .inl rfl⟩, b5.out⟩
    ·have hd1 : decide ((m : Int) ≤ (j : Int)) = false := decide_eq_false (by omega)
     have hp := Lib.hid (show pickT (.arr S n sh m L K C N k sub) (j : Int) = ⟨L j, K j, N j, C j, k j, sub j⟩ from by show (if _ then _ else _) = _; rw [if_neg hnm, if_neg (by omega)]; rfl)
     clear hnm
     have hjm : j < m := by omega
     have hjz : (j : Int) < (m : Int) := by omega
     have hd0 : decide ((j : Int) < 0) = false := decide_eq_false (by omega)
     rcases hc with h0 | ⟨b, o, rfl, _, hcells⟩
     ·omega
     obtain ⟨e, he, hcell⟩ := hcells j (by omega)
     have m0 := cell_below (he 0 (by decide)) bb
     have m1 := cell_below (he 1 (by decide)) bb
     have m2 := cell_below (he 2 (by decide)) bb
     have m3 := cell_below (he 3 (by decide)) bb
     have m4 := cell_below (he 4 (by decide)) bb
     have m5 := cell_below (he 5 (by decide)) bb
     have m6 := cell_below (he 6 (by decide)) bb
     rw [Nat.add_zero] at m0
     have hce := Lib.hid hcell
     obtain ⟨p0, pL, p1', pK, ⟨p2, ⟨a3, c3, p3, ha, _⟩, ⟨a4, c4, p4, hb4, _⟩⟩, p5, pC, io, kc, p6, hk, _⟩ := hcell
     have hv := Lib.hid (show (Value.agg #[.int .u64 (L j : Nat), .int .i64 (K j), .bool (N j).neg, .slice a3 (N j).an c3, .slice a4 (N j).am c4, .int .i64 (C j), .slice io (k j) kc]) = .agg #[e 0, e 1, e 2, e 3, e 4, e 5, e 6] from by rw [p0, p1', p2, p3, p4, p5, p6])
     rw [p0] at m0; rw [p1'] at m1; rw [p2] at m2; rw [p3] at m3; rw [p4] at m4; rw [p5] at m5; rw [p6] at m6
     clear hcells he p0 p1' p2 p3 p4 p5 p6 ha hb4
     have hk1 := hk.1; have hk2 := hk.2.1
     have f0 := Y.fr 0; have f1 := Y.fr 1; have f2 := Y.fr 2; have f3 := Y.fr 3; have f4 := Y.fr 4; have f5 := Y.fr 5; have f6 := Y.fr 6
     have d0 := Y.c0; have d1 := Y.c1; have d2 := Y.c2; have d3 := Y.c3; have d4 := Y.c4; have d5 := Y.c5; have d6 := Y.c6
     have z5 := Y.setAll (.int .u64 (L j : Nat)) (.int .i64 (K j)) (.bool (N j).neg) (.slice a3 (N j).an c3) (.slice a4 (N j).am c4) (.int .i64 (C j)) (.slice io (k j) kc)
     have b5 := Lib.hid (below_setAll bb (B := w.heap.size + 1) (by omega) (.int .u64 (L j : Nat)) (.int .i64 (K j)) (.bool (N j).neg) (.slice a3 (N j).an c3) (.slice a4 (N j).am c4) (.int .i64 (C j)) (.slice io (k j) kc))
     have g0 := z5.c0; have g1 := z5.c1; have g2 := z5.c2; have g3 := z5.c3; have g4 := z5.c4; have g5 := z5.c5; have g6 := z5.c6
     clear bb Y z5
     go_wp2_with fail
     refine bodyPost_ret (v := .agg #[.int .u64 (L j : Nat), .int .i64 (K j), .bool (N j).neg, .slice a3 (N j).an c3, .slice a4 (N j).am c4, .int .i64 (C j), .slice io (k j) kc]) (by simp [results, Tryz.results37, go_sem, g0, g1, g2, g3, g4, g5, g6]) rfl ?_
     rw [hp.out]
     exact ⟨e, by rw [hv.out], CellQ.keep hce.out (fun b _ hlt => b5.out.block b hlt) (fun _ hq _ => hq) (fun _ d0 d1 d2 hd => ArrQ.keep (fun b _ hlt => b5.out.block b hlt) (fun _ hq _ => hq) _ _ _ _ hd), b5.out⟩
end Go.Proofs.YtaepelipkkmeaaaGreat
namespace Go.Proofs.YtaepelipkkmeaaaGreat
open Go.RowKit Num
attribute [local go_sem ↓] Go.wp_at_zero Go.wp_at_succ
theorem innerQ_any (c : CellD) (Q0 : Nat → Prop) (e : Nat → Value) (w : World) (h : CellNQ w Q0 c e) (h2 : c.K = 2 → 0 < c.k) :
  Calls Tryz.prog 139 #[.agg #[e 0, e 1, e 2, e 3, e 4, e 5, e 6]] w (TreeQN (innerT c) Q0 w) := by
 obtain ⟨L, K, N, C, k, sub⟩ := c
 replace h2 : K = 2 → 0 < k := h2
 have h' := Lib.hid h
 obtain ⟨p0, pL, p1, pK, ⟨p2, ⟨a3, c3, p3, ha, _⟩, ⟨a4, c4, p4, hb, _⟩⟩, p5, pC, io, kc, p6, hk, hrow⟩ := h
 have hk1 := hk.1; have hk2 := hk.2.1; have hrow' : Hid (RowQ w Q0 io k fun j d0 d1 d2 => ArrQ w Q0 (sub j) d0 d1 d2) := Lib.hid hrow
 have hv := Lib.hid (show (Value.agg #[.int .u64 (0 : Nat), .int .i64 K, .bool N.neg, .slice a3 N.an c3, .slice a4 N.am c4, .int .i64 C, .slice io k kc]) = .agg #[.int .u64 (0 : Nat), e 1, e 2, e 3, e 4, e 5, e 6] from by rw [p1, p2, p3, p4, p5, p6])
 rw [p0, p1, p2, p3, p4, p5, p6]
 clear p0 p1 p2 p3 p4 p5 p6 ha hb pK pC hk hrow
 go_enter Tryz.func139, Tryz.ntmps139
 go_upto_region 1 with fail
 refine told_wp (fun w' => Below w.heap.size w w' ∧ Box7 w' w.heap.size (.int .u64 L) (.int .i64 K) (.bool N.neg) (.slice a3 N.an c3) (.slice a4 N.am c4) (.int .i64 C) (.slice io k kc) ∧ Box3 w' (w.heap.size + 1) (.int .u64 0) (.slice none 0 0) (.slice none 0 0))
  ⟨((Below.refl _ _).alloc (Nat.le_refl _) _).alloc (by simp) _, (Box7.new _ _ _ _ _ _ _ _ rfl).alloc _, Box3.new _ _ _ _ (by simp)⟩ ?_
 rintro w2 ⟨b2, x2, y2⟩
 have q1 := x2.c1; have q6 := x2.c6
 by_cases hK : K = 2
 ·subst hK
  have hk0 := h2 rfl
  rcases hrow'.out with h0 | ⟨b, o, rfl, _, hrows⟩
  ·omega
  obtain ⟨u0, u1, u2, r0, r1, r2, r3⟩ := hrows 0 hk0
  obtain ⟨S', n, nc, m, mc, ao, co, e0, e1, e2⟩ := r3.form
  subst e0; subst e1; subst e2
  rw [Nat.zero_mul, Nat.add_zero] at r0 r1 r2
  have s0 := cell_below r0 b2; have s1 := cell_below r1 b2; have s2 := cell_below r2 b2
  have hA' := Lib.hid r3
  have hup := Lib.hid (show innerT ⟨L, 2, N, C, k, sub⟩ = sub 0 from if_pos rfl)
  have hki : (0 : Int) < (k : Int) := by omega
  clear r0 r1 r2 r3 hrows h2
  have f0 := y2.fr 0; have f1 := y2.fr 1; have f2 := y2.fr 2; have d0 := y2.c0; have d1 := y2.c1; have d2 := y2.c2
  have z := y2.set (.int .u64 S') (.slice ao n nc) (.slice co m mc)
  have g0 := z.c0; have g1 := z.c1; have g2 := z.c2
  have bw := Lib.hid (below_set3 b2 (B := w.heap.size + 1) (by omega) (.int .u64 S') (.slice ao n nc) (.slice co m mc))
  clear z y2 x2 b2
  go_wp2_with fail
  refine bodyPost_ret (v := .agg #[.int .u64 S', .slice ao n nc, .slice co m mc]) (by simp [results, Tryz.results139, go_sem, g0, g1, g2]) rfl ?_
  rw [hup.out]
  exact ⟨_, _, _, rfl, ArrQ.keep (fun b _ hb => bw.out.block b hb) (fun _ hq _ => .inl hq) _ _ _ _ hA'.out, bw.out⟩
 ·have hK1 : (K == 2) = false := by rw [beq_eq_false_iff_ne]; exact hK
  have hup := Lib.hid (show innerT ⟨L, K, N, C, k, sub⟩ = .arr 0 0 (fun _ => 0) 1 (fun _ => 0) (fun _ => K) (fun _ => C) (fun _ => N) (fun _ => k) (fun _ => sub) from if_neg hK)
  have q0 := x2.c0; have fx := x2.fr 0
  have x3 := Lib.hid (x2.set0 (.int .u64 (0 : Nat))); have y3 := Lib.hid (y2.aside7 (D := w.heap.size) (by omega) 0 (.int .u64 (0 : Nat))); have b3 := Lib.hid (b2.setCell (p := ⟨w.heap.size, 0, none⟩) (Nat.le_refl _) (.int .u64 (0 : Nat)))
  clear x2 y2 b2 h2 hK
  go_upto_region 4 with fail
  refine told_wp (fun w' => Below w.heap.size w w' ∧ Box7 w' w.heap.size (.int .u64 (0 : Nat)) (.int .i64 K) (.bool N.neg) (.slice a3 N.an c3) (.slice a4 N.am c4) (.int .i64 C) (.slice io k kc) ∧ Box3 w' (w.heap.size + 1) (.int .u64 0) (.slice none 0 0) (.slice none 0 0)) ⟨b3.out, x3.out, y3.out⟩ ?_
  clear q0 q1 q6 fx b3 x3 y3
  rintro w3 ⟨b3, x3, y3⟩
  have hc0 : CellNQ w Q0 ⟨0, K, N, C, k, sub⟩ (fun i => if i = 0 then .int .u64 (0 : Nat) else e i) := ⟨rfl, (by decide : (0 : Nat) < 18446744073709551616), h'.out.2.2⟩
  have hmade := Lib.hid (madeQ 65 hc0 (by decide : (0 : Nat) < 18446744073709551616) b3 y3 (.int .u64 (0 : Nat)) (.int .i64 K) (.bool N.neg) (.slice a3 N.an c3) (.slice a4 N.am c4) (.int .i64 C) (.slice io k kc) hv.out _ rfl)
  have q0 := x3.c0; have q1 := x3.c1; have q2 := x3.c2; have q3 := x3.c3; have q4 := x3.c4; have q5 := x3.c5; have q6 := x3.c6
  have f0 := y3.fr 0; have f1 := y3.fr 1; have f2 := y3.fr 2; have d0 := y3.c0; have d1 := y3.c1; have d2 := y3.c2
  have hsz : w.heap.size + 1 < w3.heap.size := y3.lt
  have g0 := hmade.out.1.c0; have g1 := hmade.out.1.c1; have g2 := hmade.out.1.c2
  have hz : ((0 : Nat) : Int) = 0 := rfl
  simp only [hz] at g0 g1 g2 q0
  clear b3 x3 y3 hc0 hz
  go_wp2_with fail
  refine bodyPost_ret (v := .agg #[.int .u64 (0 : Nat), .slice none 0 0, .slice (some ⟨w3.heap.size, 0, none⟩) 1 1]) (by simp [results, Tryz.results139, go_sem, g0, g1, g2]) rfl ?_
  rw [hup.out]
  exact ⟨_, _, _, rfl, hmade.out.2.2, hmade.out.2.1⟩
end Go.Proofs.YtaepelipkkmeaaaGreat
namespace Go.Proofs.YtaepelipkkmeaaaGreat
open Go.RowKit Num
theorem twosZ_any (w : World) : Calls Tryz.prog 12 #[] w (ListPost twosZ w) := by
 go_enter Tryz.func12, Tryz.ntmps12
 go_wp2_with fail
 go_ret
 exact ⟨_, rfl, slz_new w twosZ _ _ rfl, (Below.refl _ _).alloc (Nat.le_refl _) _⟩
end Go.Proofs.YtaepelipkkmeaaaGreat
namespace Go.Proofs.YtaepelipkkmeaaaGreat
open Go.RowKit Num
attribute [local go_sem ↓] Go.wp_at_zero Go.wp_at_succ
def SameE (A B : Tree) (e f : Int) : Prop := e = f ∧ SameT A B
theorem same10_any (A B : Tree) (c0 c1 c2 d0 d1 d2 : Value) (e f : Int) (w : World) (hA : ArrP w A c0 c1 c2) (hB : ArrP w B d0 d1 d2) :
  Calls Tryz.prog 26 #[.agg #[c0, c1, c2], .int .i64 e, .agg #[d0, d1, d2], .int .i64 f] w (BoolPost (SameE A B e f) w) := by
 obtain ⟨S, n, nc, m, mc, ao, co, rfl, rfl, rfl⟩ := (ArrP.within _ _ _ _ hA).form
 obtain ⟨S', n', nc', m', mc', ao', co', rfl, rfl, rfl⟩ := (ArrP.within _ _ _ _ hB).form
 replace hA := Lib.hid hA; replace hB := Lib.hid hB
 by_cases h : e = f
 ·subst h
  go_enter Tryz.func26, Tryz.ntmps26
  go_upto_region 1 with fail
  refine told_wp (fun w' => Below w.heap.size w w' ∧ Box3 w' w.heap.size (.int .u64 S) (.slice ao n nc) (.slice co m mc) ∧ Box3 w' (w.heap.size + 1) (.int .u64 S') (.slice ao' n' nc') (.slice co' m' mc'))
   ⟨((Below.refl _ _).alloc (Nat.le_refl _) _).alloc (by simp) _, (Box3.new _ _ _ _ rfl).alloc _, Box3.new _ _ _ _ (by simp)⟩ ?_
  rintro w1 ⟨bb, X, Y⟩
  have p0 := X.c0; have p1 := X.c1; have p2 := X.c2; have q0 := Y.c0; have q1 := Y.c1; have q2 := Y.c2
  replace bb := Lib.hid bb
  clear X Y
  go_wp2_with fail
  refine (same8_any A B _ _ _ _ _ _ w1 (ArrP.below _ _ _ _ hA.out bb.out) (ArrP.below _ _ _ _ hB.out bb.out)).mono ?_
  rintro e' w2 ⟨r, rfl, hr, hb⟩
  replace hr := Lib.hid hr
  replace bb := Lib.hid (bb.out.trans (hb.mono bb.out.size))
  clear hb p0 p1 p2 q0 q1 q2
  cases r
  ·have hs : Hid (¬ SameE A B e e) := Lib.hid fun k => Bool.false_ne_true (hr.out.2 k.2)
   clear hr
   go_wp2_with fail
   go_ret
   exact ⟨_, rfl, ⟨fun h => absurd h Bool.false_ne_true, fun k => absurd k hs.out⟩, bb.out⟩
  ·have hs : Hid (SameE A B e e) := Lib.hid ⟨rfl, hr.out.1 rfl⟩
   clear hr
   go_wp2_with fail
   go_ret
   exact ⟨_, rfl, ⟨fun _ => hs.out, fun _ => rfl⟩, bb.out⟩
 ·have he : (e == f) = false := by rw [beq_eq_false_iff_ne]; exact h
  go_enter Tryz.func26, Tryz.ntmps26
  have hbel := Lib.hid (((Below.refl w.heap.size w).alloc (Nat.le_refl _) (.cells #[.int .u64 S, .slice ao n nc, .slice co m mc] 45)).alloc (by simp) (.cells #[.int .u64 S', .slice ao' n' nc', .slice co' m' mc'] 45))
  go_wp2_with fail
  go_ret
  exact ⟨_, rfl, ⟨fun h => absurd h Bool.false_ne_true, fun k => absurd k.1 h⟩, hbel.out⟩
end Go.Proofs.YtaepelipkkmeaaaGreat
namespace Go.Proofs.YtaepelipkkmeaaaGreat
open Go.RowKit Num
theorem Shut.below {w w' : World} {U b : Nat} (h : Shut w b) (hb : Below U w w') (hU : b < U) : Shut w' b := h.keep (hb.block b hU)
theorem zeroCells_in {z : Array Value} {n i : Nat} {v : Value} (h : (Builtin.zeroCells z n)[i]? = some v) : v ∈ z := by
 unfold Builtin.zeroCells at h
 rw [Array.getElem?_map] at h
 obtain ⟨j, hj, rfl⟩ := Option.map_eq_some_iff.1 h
 have hlt : i < n * z.size := by
  rcases Nat.lt_or_ge i (n * z.size) with h | h
  ·exact h
  ·rw [Array.getElem?_eq_none (by simpa using h)] at hj; cases hj
 have e : j = i := by
  rw [Array.getElem?_range] at hj
  simp [hlt] at hj
  exact hj.symm
 subst e
 have hz : 0 < z.size := by
  rcases Nat.eq_zero_or_pos z.size with h | h
  ·rw [h, Nat.mul_zero] at hlt; omega
  ·exact h
 have hm : j % z.size < z.size := Nat.mod_lt _ hz
 rw [getElem!_pos z (j % z.size) hm]
 exact Array.getElem_mem hm
theorem append_shut {P : Program} {w : World} (t ty : TypeId) (base : Nat) (e : TypeId) (i : TypeInfo) (z : Value) (size bytes : Nat) (ht : P.underlying t = some (.slice e)) (hi : P.info? e = some i) (hz : i.zero = some z)
  (hsize : i.size = size) (hby : i.bytes = bytes) (hzs : z.cells.size = size) (hsz : 0 < size)
  (v : Value) (n : Nat) (xs : List Value) (hown : w.ownsRow base e size v n xs)
  (ad : Addr) (m c : Nat) (news : List Value) (hl : news.length = m * size) (hnews : ∀ j u, news[j]? = some u → w.cell? (ad.add j) = some u) (h1 : ∀ u ∈ news, u.oneCell' = true)
  (hm : 0 < m) (h63 : n + m ≤ maxLen) (hbytes : (n + m) * bytes ≤ 140737488355328)
  (hz32 : ∀ u ∈ z.cells, ∀ x, u ≠ .int .u32 x) (hn32 : ∀ u ∈ news, ∀ x, u ≠ .int .u32 x) (hv32 : ∀ g, v.ownBlock = some g → Shut w g)
  {v' : Value} {w' : World} (hr : (Builtin.append_ #[t, t] ty #[v, .slice (some ad) m c]).run P w = .ok v' w') : ∀ g, v'.ownBlock = some g → Shut w' g := by
 subst hsize
 subst hby
 have hsmall : n + m ≤ 9223372036854775807 := by simp only [maxLen] at h63; omega
 have grown : ∀ (N : Nat) (ys : List Value), (∀ u ∈ ys, ∀ x, u ≠ .int .u32 x) → Shut (w.drew.alloc (.cells (ys.toArray ++ news.toArray ++ Builtin.zeroCells z.cells N) e)) w.heap.size := fun N ys hys => by
  have hs : w.drew.heap.size = w.heap.size := rfl
  rw [← hs]
  refine Shut.new fun j x hx => ?_
  have hx' := Array.mem_of_getElem? hx
  rw [Array.mem_append, Array.mem_append] at hx'
  rcases hx' with (h | h) | h
  ·exact hys _ (by simpa using h) x rfl
  ·exact hn32 _ (by simpa using h) x rfl
  ·obtain ⟨j', hj'⟩ := Array.mem_iff_getElem?.1 h
   exact hz32 _ (zeroCells_in hj') x rfl
 rcases hown.2 with ⟨rfl, rfl⟩ | ⟨g, cap, cur, rfl, hbg, hg, hnc, hcm, hcs, htake⟩
 ·have h := run_append_nil (P := P) w t ty e i z ht hi hz ad m c news hl hnews hm (by omega) (by simp only [Nat.zero_add] at hbytes; omega)
  rw [h] at hr
  injection hr with e1 e2
  subst e1; subst e2
  intro g hg
  obtain rfl : w.heap.size = g := Option.some.inj hg
  have := grown (grownCap w m 0 e - m) [] (fun u hu => by cases hu)
  simpa using this
 ·by_cases hroom : n + m ≤ cap
  ·have hfit : n * i.size + news.length ≤ cur.size := by rw [hl, hcs, ← Nat.add_mul]; exact Nat.mul_le_mul_right _ hroom
   have h := run_append_room (P := P) w t ty e i ht hi g n cap cur hg ad m c news hl hnews h1 hroom hfit
   rw [h] at hr
   injection hr with e1 e2
   subst e1; subst e2
   intro g' hg'
   obtain rfl : g = g' := Option.some.inj hg'
   have hw := hv32 g rfl
   have hset := setRow_heap w g cur ((cur.toList.take (n * i.size) ++ news ++ cur.toList.drop (n * i.size + news.length)).toArray) _ _ hg
   have hcur : ∀ u ∈ cur.toList, ∀ x, u ≠ .int .u32 x := fun u hu x e => by
    obtain ⟨j, hj⟩ := List.mem_iff_getElem?.1 hu
    refine hw.2 j x ?_
    show (match w.heap[g]? with | some (.cells c _ _) => if (none : Option (Option Addr)).isSome then none else c[j]? | _ => none) = _
    rw [hg]
    rw [Array.getElem?_toList] at hj
    simp [hj, e]
   refine ⟨?_, fun o x e => ?_⟩
   ·rcases Nat.lt_or_ge g (w.setRow g ((cur.toList.take (n * i.size) ++ news ++ cur.toList.drop (n * i.size + news.length)).toArray)).heap.size with h' | h'
    ·exact h'
    ·rw [Array.getElem?_eq_none h'] at hset; cases hset
   ·unfold World.cell? at e
    simp only [hset] at e
    have hin := List.mem_of_getElem? (l := cur.toList.take (n * i.size) ++ news ++ cur.toList.drop (n * i.size + news.length)) (i := o) (a := .int .u32 x) (by simpa using e)
    rw [List.mem_append, List.mem_append] at hin
    rcases hin with (hin | hin) | hin
    ·exact hcur _ (List.mem_of_mem_take hin) x rfl
    ·exact hn32 _ hin x rfl
    ·exact hcur _ (List.mem_of_mem_drop hin) x rfl
  ·have holds : ∀ j u, xs[j]? = some u → w.cell? ((⟨g, 0, none⟩ : Addr).add j) = some u := hown.cells (g := g) rfl
   have h := run_append_grow (P := P) w t ty e i z ht hi hz ⟨g, 0, none⟩ n cap xs hown.1 holds ad m c news hl hnews (by omega) (by omega) (growslice_fits (by omega) hbytes)
   rw [h] at hr
   injection hr with e1 e2
   subst e1; subst e2
   intro g' hg'
   obtain rfl : w.heap.size = g' := Option.some.inj hg'
   refine grown _ xs fun u hu x e => ?_
   obtain ⟨j, hj⟩ := List.mem_iff_getElem?.1 hu
   have := holds j u hj
   rw [Addr.add_lit, Nat.zero_add] at this
   exact (hv32 g rfl).2 j x (by rw [this, e])
theorem wp_append_shut {P : Program} {w : World} {o : Oper} {a : Act} {K : Act → World → Prop} {Q : Exit → Act → World → Prop} (s x : Operand) (t : TypeId)
  (ho : o.op = .call { callee := .builtin .append, args := #[s, x], argTypes := #[t, t] })
  (base : Nat) (e : TypeId) (i : TypeInfo) (z : Value) (size bytes : Nat) (ht : P.underlying t = some (.slice e)) (hi : P.info? e = some i) (hz : i.zero = some z)
  (hsize : i.size = size) (hby : i.bytes = bytes) (hzs : z.cells.size = size) (hsz : 0 < size)
  (v : Value) (n : Nat) (xs : List Value) (hs : a.eval s = v) (hown : w.ownsRow base e size v n xs)
  (ad : Addr) (m c : Nat) (news : List Value) (hx : a.eval x = .slice (some ad) m c) (hl : news.length = m * size) (hnews : ∀ j u, news[j]? = some u → w.cell? (ad.add j) = some u) (h1 : ∀ u ∈ news, u.oneCell' = true)
  (hm : 0 < m) (h63 : n + m ≤ maxLen) (hbytes : (n + m) * bytes ≤ 140737488355328) (hbase : base ≤ w.heap.size)
  (hz32 : ∀ u ∈ z.cells, ∀ x, u ≠ .int .u32 x) (hn32 : ∀ u ∈ news, ∀ x, u ≠ .int .u32 x) (hv32 : ∀ g, v.ownBlock = some g → Shut w g) (H : Nat) (hH : w.heap.size = H)
  (h : ∀ g cap w', w'.ownsRow base e size (.slice (some ⟨g, 0, none⟩) (n + m) cap) (n + m) (xs ++ news) → w.grownBy w' v.ownBlock → (v.ownBlock = some g ∨ g = H) → Shut w' g → K (a.put o.dst (.slice (some ⟨g, 0, none⟩) (n + m) cap)) w') : o.wp P a w K Q := by
 obtain ⟨g, cap, w', hr, h2, h3, h4, h5⟩ := run_append_lies (P := P) w t o.type base e i z size bytes ht hi hz hsize hby hzs hsz v n xs hown ad m c news hl hnews h1 hm h63 hbytes hbase H hH
 have h6 := append_shut t o.type base e i z size bytes ht hi hz hsize hby hzs hsz v n xs hown ad m c news hl hnews h1 hm h63 hbytes hz32 hn32 hv32 hr g rfl
 unfold Oper.wp execOp
 simp only [ho, resolve, invoke, builtin, Sem.run_bind, Sem.run_pure, Result.andThen_ok, List.map_toArray, List.map_cons, List.map_nil, hs, hx, hr]
 exact h g cap w' h2 h3 h4 h6
theorem wpList_append_shut {P : Program} {w : World} {ops : Array Oper} {rest : List Oper} {o : Oper} {a : Act} {Q : Exit → Act → World → Prop} (hgd : o.guard = none) (s x : Operand) (t : TypeId)
  (ho : o.op = .call { callee := .builtin .append, args := #[s, x], argTypes := #[t, t] })
  (base : Nat) (e : TypeId) (i : TypeInfo) (z : Value) (size bytes : Nat) (ht : P.underlying t = some (.slice e)) (hi : P.info? e = some i) (hz : i.zero = some z)
  (hsize : i.size = size) (hby : i.bytes = bytes) (hzs : z.cells.size = size) (hsz : 0 < size)
  (v : Value) (n : Nat) (xs : List Value) (hs : a.eval s = v) (hown : w.ownsRow base e size v n xs)
  (ad : Addr) (m c : Nat) (news : List Value) (hx : a.eval x = .slice (some ad) m c) (hl : news.length = m * size) (hnews : ∀ j u, news[j]? = some u → w.cell? (ad.add j) = some u) (h1 : ∀ u ∈ news, u.oneCell' = true)
  (hm : 0 < m) (h63 : n + m ≤ maxLen) (hbytes : (n + m) * bytes ≤ 140737488355328) (hbase : base ≤ w.heap.size)
  (hz32 : ∀ u ∈ z.cells, ∀ x, u ≠ .int .u32 x) (hn32 : ∀ u ∈ news, ∀ x, u ≠ .int .u32 x) (hv32 : ∀ g, v.ownBlock = some g → Shut w g) (H : Nat) (hH : w.heap.size = H)
  (h : ∀ g cap w', w'.ownsRow base e size (.slice (some ⟨g, 0, none⟩) (n + m) cap) (n + m) (xs ++ news) → w.grownBy w' v.ownBlock → (v.ownBlock = some g ∨ g = H) → Shut w' g → wpList P ops Q rest (a.put o.dst (.slice (some ⟨g, 0, none⟩) (n + m) cap)) w') : wpList P ops Q (o :: rest) a w :=
 wpList_plain hgd fun _ hK => wp_append_shut s x t ho base e i z size bytes ht hi hz hsize hby hzs hsz v n xs hs hown ad m c news hx hl hnews h1 hm h63 hbytes hbase hz32 hn32 hv32 H hH fun g cap w' h2 h3 h4 h5 => hK _ _ (h g cap w' h2 h3 h4 h5)
end Go.Proofs.YtaepelipkkmeaaaGreat
namespace Go.Proofs.YtaepelipkkmeaaaGreat
open Go.RowKit Num
structure Mk (F : CellF) (M Pv : Nat → Prop) (Bo U : Nat) (w wr : World) (o0 a1 : Value) (t : Nat) (V : Value) (es : Nat → List Value) : Prop where
 out : Box3 wr Bo o0 a1 V
 row : wr.ownsRow (Bo + 1) 65 7 V t (rowsN es t)
 cells : ∀ x, x < t → (es x).length = 7 ∧ F x wr (fun b => Pv b ∧ ¬ M b ∧ some b ≠ V.ownBlock ∧ b < U) (fun q => (es x).getD q undef)
 bel : Below w.heap.size w wr
 sh : ∀ b, M b → Shut wr b
 shV : ∀ g, V.ownBlock = some g → Shut wr g
 MU : ∀ b, M b → w.heap.size ≤ b ∧ b ≤ Bo
 MB : M Bo
 BU : Bo + 1 ≤ U
 Uw : U ≤ wr.heap.size
 vU : ∀ g, V.ownBlock = some g → g < U
theorem Mk.sB {F : CellF} {M Pv : Nat → Prop} {Bo U : Nat} {w wr : World} {o0 a1 : Value} {t : Nat} {V : Value} {es : Nat → List Value} (h : Mk F M Pv Bo U w wr o0 a1 t V es) : w.heap.size ≤ Bo := (h.MU _ h.MB).1
theorem Mk.upto {F : CellF} (hF : KeepF F) {M Pv : Nat → Prop} {Bo U : Nat} {w wr w' : World} {o0 a1 : Value} {t : Nat} {V : Value} {es : Nat → List Value} (h : Mk F M Pv Bo U w wr o0 a1 t V es) (hb : Below U wr w') : Mk F M Pv Bo U w w' o0 a1 t V es := by
 have hs := h.sB; have hB := h.BU
 exact ⟨h.out.below hb (by omega), own_upto h.row (fun b hb' => hb.block b hb') h.vU,
  fun x hx => ⟨(h.cells x hx).1, hF x _ _ _ _ _ (h.cells x hx).2 (fun b hq _ => hb.block b hq.2.2.2) fun b hq _ => hq⟩, h.bel.trans (hb.mono (by omega)),
  fun b hm => (h.sh b hm).below hb (by have := (h.MU b hm).2; omega), fun g hg => (h.shV g hg).below hb (h.vU g hg), h.MU, h.MB, h.BU, Nat.le_trans h.Uw hb.size, h.vU⟩
theorem Mk.lift {F : CellF} (hF : KeepF F) {M Pv : Nat → Prop} {Bo U : Nat} {w wr : World} {o0 a1 : Value} {t : Nat} {V : Value} {es : Nat → List Value} (h : Mk F M Pv Bo U w wr o0 a1 t V es) : Mk F M Pv Bo wr.heap.size w wr o0 a1 t V es :=
 ⟨h.out, h.row, fun x hx => ⟨(h.cells x hx).1, hF x _ _ _ _ _ (h.cells x hx).2 (fun _ _ _ => rfl) fun _ hq hb => ⟨hq.1, hq.2.1, hq.2.2.1, hb⟩⟩, h.bel, h.sh, h.shV, h.MU, h.MB, Nat.le_trans h.BU h.Uw, Nat.le_refl _, fun g hg => Nat.lt_of_lt_of_le (h.vU g hg) h.Uw⟩
theorem Mk.step {F : CellF} (hF : KeepF F) {M Pv : Nat → Prop} {Bo U : Nat} {w wk w5 : World} {o0 a1 : Value} {t : Nat} {V : Value} {es : Nat → List Value} (h : Mk F M Pv Bo U w wk o0 a1 t V es) (o : Obj) {g cap : Nat} {x : List Value} (hx : x.length = 7)
  (hown : w5.ownsRow (Bo + 1) 65 7 (.slice (some ⟨g, 0, none⟩) (t + 1) cap) (t + 1) (rowsN es t ++ x)) (hgr : (wk.alloc o).grownBy w5 V.ownBlock) (hat : V.ownBlock = some g ∨ g = wk.heap.size + 1) (hsg : Shut w5 g)
  (hnew : F t wk (fun b => Pv b ∧ ¬ M b ∧ some b ≠ V.ownBlock) (fun q => x.getD q undef)) :
  Mk F M Pv Bo w5.heap.size w (w5.setCell ⟨Bo, 2, none⟩ (.slice (some ⟨g, 0, none⟩) (t + 1) cap)) o0 a1 (t + 1) (.slice (some ⟨g, 0, none⟩) (t + 1) cap) (putL es t x) := by
 have hBU := h.BU; have hUw := h.Uw; have hsB := h.sB
 have hg3 : Bo + 1 ≤ g ∧ g < w5.heap.size := hown.lt g rfl
 have hV : ∀ b, some b = V.ownBlock → Bo + 1 ≤ b ∧ b < U := fun b e => ⟨(h.row.lt b e.symm).1, h.vU b e.symm⟩
 have hk1 : ∀ b, some b ≠ V.ownBlock → b < wk.heap.size → w5.heap[b]? = wk.heap[b]? := fun b h1 h2 => (hgr.block b (by simp; omega) h1).trans (Lib.alloc_old wk o b h2)
 have hk2 : ∀ b, b ≠ Bo → (w5.setCell ⟨Bo, 2, none⟩ (.slice (some ⟨g, 0, none⟩) (t + 1) cap)).heap[b]? = w5.heap[b]? := fun b hb => Below.heap_setCell _ _ _ _ hb
 have hb3 : Below (Bo + 1) wk w5 := ((Below.refl _ wk).alloc (by omega) o).grown hgr (by simp; omega) (fun q hq => (h.row.lt q hq).1)
 have hMn : ∀ b, M b → some b ≠ V.ownBlock := fun b hm e => by have := (hV b e).1; have := (h.MU b hm).2; omega
 have hk : ∀ b, ¬ M b → some b ≠ V.ownBlock → b < wk.heap.size → (w5.setCell ⟨Bo, 2, none⟩ (.slice (some ⟨g, 0, none⟩) (t + 1) cap)).heap[b]? = wk.heap[b]? := fun b h1 h2 h3 => (hk2 b (fun e => h1 (by rw [e]; exact h.MB))).trans (hk1 b h2 h3)
 have hng : ∀ b, some b ≠ V.ownBlock → b < wk.heap.size → some b ≠ (Value.slice (some ⟨g, 0, none⟩) (t + 1) cap).ownBlock := fun b h1 h2 e => by
  simp only [Value.ownBlock, Option.some.injEq] at e
  rcases hat with k | k
  ·exact h1 (by rw [k, e])
  ·omega
 have hsz : wk.heap.size ≤ w5.heap.size := hb3.size
 refine ⟨?_, own_but (by rw [rowsN_snoc] at hown; exact hown) hk2 (fun q hq => by have e : g = q := Option.some.inj hq; omega), fun y hy => ?_, (h.bel.trans (hb3.mono (by omega))).setCell (p := ⟨Bo, 2, none⟩) (by show w.heap.size ≤ Bo; omega) _, fun b hm => ?_, fun q hq => ?_, h.MU, h.MB, by omega, by simp [World.setCell], fun q hq => by cases hq; exact hg3.2⟩
 ·have x3 := h.out.below hb3 (by omega)
  have ne : ∀ {j k : Nat}, j ≠ k → (⟨Bo, j, none⟩ : Addr) ≠ ⟨Bo, k, none⟩ := fun h e => h (by injection e)
  exact ⟨(cell_set_ne (ne (by decide))).trans x3.c0, (cell_set_ne (ne (by decide))).trans x3.c1, World.cell?_setCell_same _ _ _ x3.c2, fun j => by rw [World.frozen?_setCell]; exact x3.fr j⟩
 ·by_cases e : y = t
  ·subst e
   unfold putL
   rw [if_pos rfl]
   exact ⟨hx, hF y _ _ _ _ _ hnew (fun b hq hb => hk b hq.2.1 hq.2.2 hb) fun b hq hb => ⟨hq.1, hq.2.1, hng b hq.2.2 hb, by omega⟩⟩
  ·unfold putL
   rw [if_neg e]
   obtain ⟨k1, k2⟩ := h.cells y (by omega)
   exact ⟨k1, hF y _ _ _ _ _ k2 (fun b hq hb => hk b hq.2.1 hq.2.2.1 hb) fun b hq hb => ⟨hq.1, hq.2.1, hng b hq.2.2.1 hb, by omega⟩⟩
 ·have h1 : Shut w5 b := (h.sh b hm).keep (hk1 b (hMn b hm) (h.sh b hm).1)
  by_cases e : b = Bo
  ·subst e; exact h1.set _ _ fun x e => by cases e
  ·exact h1.other e _ _
 ·have e : g = q := Option.some.inj hq
  subst e
  exact hsg.other (by omega) _ _
theorem Mk.row_cells {F : CellF} (hF : KeepF F) {M Pv : Nat → Prop} {Bo U : Nat} {w wr : World} {o0 a1 : Value} {t : Nat} {V : Value} {es : Nat → List Value} (h : Mk F M Pv Bo U w wr o0 a1 t V es) (ht : t ≤ 140737488355328) (hnew : ∀ b, w.heap.size ≤ b → Pv b) :
  ∃ co cap, V = .slice co t cap ∧ IsN t cap ∧ (t = 0 ∨ ∃ b o, co = some ⟨b, o, none⟩ ∧ (Pv b ∧ ¬ M b) ∧ ∀ i, i < t → ∃ e : Nat → Value, (∀ q, q < 7 → wr.cell? ⟨b, o + i * 7 + q, none⟩ = some (e q)) ∧ F i wr (fun b => Pv b ∧ ¬ M b) e) := by
 have hsB := h.sB
 obtain ⟨co, cap, rfl, h1, h2, hf⟩ := own_form h.row
 refine ⟨co, cap, rfl, ⟨h1, h2, ht⟩, ?_⟩
 rcases hf with h0 | ⟨g, rfl, hg0, hg, _⟩
 ·exact .inl h0
 ·refine .inr ⟨g, 0, rfl, ⟨hnew g (by omega), fun hm => by have := (h.MU g hm).2; omega⟩, fun i hi => ?_⟩
  obtain ⟨k1, k2⟩ := h.cells i hi
  refine ⟨fun q => (es i).getD q undef, fun q hq => ?_, hF i _ _ _ _ _ k2 (fun _ _ _ => rfl) fun b hq _ => ⟨hq.1, hq.2.1⟩⟩
  have hlt : i * 7 + q < t * 7 := by omega
  rw [Nat.zero_add, h.row.cellAt (i * 7 + q) hlt, rowsN_get t (fun i hi => (h.cells i hi).1) i q hi hq]
  show (es i)[q]? = some ((es i).getD q undef)
  rw [List.getD_eq_getElem?_getD, List.getElem?_eq_getElem (by omega)]
  rfl
end Go.Proofs.YtaepelipkkmeaaaGreat
namespace Go.Proofs.YtaepelipkkmeaaaGreat
open Go.RowKit Num
theorem no_limb_cell : ∀ u ∈ (Value.agg #[.int .u64 0, .int .i64 0, .bool false, .slice none 0 0, .slice none 0 0, .int .i64 0, .slice none 0 0]).cells, ∀ x, u ≠ .int .u32 x := by
 intro u hu x e
 subst e
 simp [Value.cells] at hu
theorem heap_set234 {w : World} {B b : Nat} (h : b ≠ B) (u2 u3 u4 : Value) : (((w.setCell ⟨B, 2, none⟩ u2).setCell ⟨B, 3, none⟩ u3).setCell ⟨B, 4, none⟩ u4).heap[b]? = w.heap[b]? := by
 rw [Below.heap_setCell _ _ _ _ h, Below.heap_setCell _ _ _ _ h, Below.heap_setCell _ _ _ _ h]
theorem Box7.set234 {w : World} {B : Nat} {z0 z1 z2 z3 z4 z5 z6 : Value} (h : Box7 w B z0 z1 z2 z3 z4 z5 z6) (u2 u3 u4 : Value) : Box7 (((w.setCell ⟨B, 2, none⟩ u2).setCell ⟨B, 3, none⟩ u3).setCell ⟨B, 4, none⟩ u4) B z0 z1 u2 u3 u4 z5 z6 := by
 have ne : ∀ {j k : Nat}, j ≠ k → (⟨B, j, none⟩ : Addr) ≠ ⟨B, k, none⟩ := fun h e => h (by injection e)
 have far : ∀ {j : Nat} {v : Value}, j ≠ 2 → j ≠ 3 → j ≠ 4 → w.cell? ⟨B, j, none⟩ = some v → (((w.setCell ⟨B, 2, none⟩ u2).setCell ⟨B, 3, none⟩ u3).setCell ⟨B, 4, none⟩ u4).cell? ⟨B, j, none⟩ = some v := fun h2 h3 h4 hv =>
  (cell_set_ne (ne h4)).trans ((cell_set_ne (ne h3)).trans ((cell_set_ne (ne h2)).trans hv))
 have e2 : (w.setCell ⟨B, 2, none⟩ u2).cell? ⟨B, 2, none⟩ = some u2 := World.cell?_setCell_same _ _ _ h.c2
 have e3 : ((w.setCell ⟨B, 2, none⟩ u2).setCell ⟨B, 3, none⟩ u3).cell? ⟨B, 3, none⟩ = some u3 := World.cell?_setCell_same _ _ _ ((cell_set_ne (ne (by decide))).trans h.c3)
 have e4 : (((w.setCell ⟨B, 2, none⟩ u2).setCell ⟨B, 3, none⟩ u3).setCell ⟨B, 4, none⟩ u4).cell? ⟨B, 4, none⟩ = some u4 := World.cell?_setCell_same _ _ _ ((cell_set_ne (ne (by decide))).trans ((cell_set_ne (ne (by decide))).trans h.c4))
 exact ⟨far (by decide) (by decide) (by decide) h.c0, far (by decide) (by decide) (by decide) h.c1, (cell_set_ne (ne (by decide))).trans ((cell_set_ne (ne (by decide))).trans e2), (cell_set_ne (ne (by decide))).trans e3, e4, far (by decide) (by decide) (by decide) h.c5, far (by decide) (by decide) (by decide) h.c6, fun j => by rw [World.frozen?_setCell, World.frozen?_setCell, World.frozen?_setCell]; exact h.fr j⟩
end Go.Proofs.YtaepelipkkmeaaaGreat
namespace Go.Proofs.YtaepelipkkmeaaaGreat
open Go.RowKit Num
def TwoOf (f : Int) (d : Nat) : Prop := ∀ (A B : Tree) (Q0 : Nat → Prop) (c0 c1 c2 d0 d1 d2 : Value) (w : World), ArrQ w Q0 A c0 c1 c2 → ArrQ w Q0 B d0 d1 d2 → RightT A d → RightT B d → partsT A ≤ 4000 → partsT B ≤ 4000 →
 Calls Tryz.prog 30 #[.int .i64 f, .agg #[c0, c1, c2], .agg #[d0, d1, d2]] w (ResQ (twoE f (d + 1) A B) (twoT f (d + 1) A B) Q0 w)
def TwoCell (f : Int) (d : Nat) : Prop := ∀ (x y : CellD) (Q0 : Nat → Prop) (e e' : Nat → Value) (w : World), CellNQ w Q0 x e → CellNQ w Q0 y e' → CellOk x d → CellOk y d →
 Calls Tryz.prog 90 #[.int .i64 f, .agg #[e 0, e 1, e 2, e 3, e 4, e 5, e 6], .agg #[e' 0, e' 1, e' 2, e' 3, e' 4, e' 5, e' 6]] w (CellResQ (cellE f x y (twoE f d (innerT x) (innerT y))) (twoD f x y (twoT f d (innerT x) (innerT y))) Q0 w)
end Go.Proofs.YtaepelipkkmeaaaGreat
