/-
  scrimlaw10.Light: it ends with a bool.
  scalar.Conform, Pick.
  scrimlaw10.exponents: it ends with a bool.
  scrimlaw10.ScalarOne, walked.
  scrimlaw10.ScalarTwo, walked.
-/
import Derived.Test.YtaepelipkkmeaaaGreatMgtA
import Derived.Test.YtaepelipkkmeaaaGreatMgtB
import Derived.Test.YtaepelipkkmeaaaGreatMgtC
import Derived.Test.YtaepelipkkmeaaaGreatMgtD
import Derived.Test.YtaepelipkkmeaaaGreatMgtE
import Derived.Test.YtaepelipkkmeaaaGreatMgtF
import Derived.Test.YtaepelipkkmeaaaGreatMgtG
import Derived.Test.YtaepelipkkmeaaaGreatMgtH
import Derived.Test.YtaepelipkkmeaaaGreatMgtI
import Derived.Test.YtaepelipkkmeaaaGreatMgtScalarTwo1
import Derived.Test.YtaepelipkkmeaaaGreatMgtScalarTwo2
import Derived.Test.YtaepelipkkmeaaaGreatMgtScalarTwo3
import Derived.Deep.LoopGhost
import Derived.OpenShut
import Derived.SizedLaws
import Derived.WalkKit
import Derived.Lib.BitFns
import Derived.Laws.AppendOwn
import Derived.Deep.AppendLies
import Derived.Deep.RegionHeld3
import Derived.Deep.CutRange
import Derived.BigQuiet
import Derived.Deep.DrawnRows
import Derived.Laws.OwnMore
import Derived.Deep.RegionWith
import Derived.WalkSpells
import Derived.WalkLawsBesides
import Derived.Lib.Hide
import Derived.Laws.CopyOwn
import Derived.Lib.Small
import Derived.Lib.Walk
import Derived.Deep.QuietTactic
import Derived.Lib.SliceRun
import Derived.Deep.RegionLaw
set_option maxRecDepth 20000
set_option maxHeartbeats 16000000
namespace Go.Proofs.YtaepelipkkmeaaaGreat
open Go.RowKit Num
theorem cell_num {K : Int} {N : NumF} {C : Int} {k : Nat} {s : Bool} {d : Nat} {R : Prop} (h : CellT K N C k s d R) : RightF N ∨ zeroF N = true := by
 rcases h with ⟨_, _, _, h⟩ | ⟨_, h, _, _⟩ | ⟨_, h, _⟩
 ·exact .inl h
 ·exact .inr h
 ·exact .inr h
theorem light10_any : ∀ (A : Tree) (dd : Nat) (c0 c1 c2 : Value) (w : World), ArrP w A c0 c1 c2 → RightT A dd →
  Calls Tryz.prog 23 #[.agg #[c0, c1, c2]] w (SomeBool w) := by
 intro A
 induction A with
 | leaf => intro dd c0 c1 c2 w h; exact (ArrP.leaf h).elim
 | arr S n sh m L K C N k sub ih =>
  intro dd c0 c1 c2 w h hr
  obtain ⟨rfl, hS, ⟨ao, nc, rfl, hn, _, _⟩, co, mc, rfl, hm, hc⟩ := h
  have n1 := hn.1; have n2 := hn.2.1; have n3 := hn.2.2; have m1 := hm.1; have m2 := hm.2.1; have m3 := hm.2.2
  have hr' := Lib.hid hr.2; have hc' := Lib.hid hc
  clear hc hn hm hr hS
  go_enter Tryz.func23, Tryz.ntmps23
  go_upto_region 1 with fail
  refine told_wp (fun w' => Below w.heap.size w w' ∧ Box3 w' w.heap.size (.int .u64 S) (.slice ao n nc) (.slice co m mc)) ⟨(Below.refl _ _).alloc (Nat.le_refl _) _, Box3.new _ _ _ _ rfl⟩ ?_
  rintro w1 ⟨b1, x1⟩
  have hv0 := Lib.hid b1; have hx0 := Lib.hid x1
  clear b1 x1
  go_wp2_with fail
  go_loopw [3] (fun i wr => ∃ (t : Nat), t ≤ m ∧ i = .int .i64 t ∧ Hid (Below w.heap.size w wr) ∧ Hid (Box3 wr w.heap.size (.int .u64 S) (.slice ao n nc) (.slice co m mc))) (fun i _ => m - (intOfZ i).toNat)
  case atStart => exact ⟨0, Nat.zero_le _, rfl, hv0, hx0⟩
  case round =>
   obtain ⟨t, ht, rfl, hv, hx⟩ := hrel
   clear hv0 hx0
   have z2 := hx.out.c2
   by_cases hlt : t < m
   ·rcases hc'.out with h0 | ⟨b, o, rfl, hcells⟩
    ·omega
    obtain ⟨e, he, q0, qL, q1, qK, ⟨q2, ⟨a1, ac, q3, ha, hsa, hla⟩, ⟨b1, bc, q4, hb', hsb, hlb⟩⟩, q5, qC, io, kc, q6, hk, hrow⟩ := hcells t hlt
    have hCT := Lib.hid (hr'.out t hlt)
    have hrow' : Hid (RowP w io (k t) fun j d0 d1 d2 => ArrP w (sub t j) d0 d1 d2) := Lib.hid hrow
    have hnum := Lib.hid (show NumP w (N t) (.bool (N t).neg) (.slice a1 (N t).an ac) (.slice b1 (N t).am bc) from ⟨rfl, ⟨a1, ac, rfl, ha, hsa, hla⟩, ⟨b1, bc, rfl, hb', hsb, hlb⟩⟩)
    have y0 := cell_below (he 0 (by decide)) hv.out; have y1 := cell_below (he 1 (by decide)) hv.out; have y2 := cell_below (he 2 (by decide)) hv.out; have y3 := cell_below (he 3 (by decide)) hv.out
    have y4 := cell_below (he 4 (by decide)) hv.out; have y5 := cell_below (he 5 (by decide)) hv.out; have y6 := cell_below (he 6 (by decide)) hv.out
    rw [q0, Nat.add_zero] at y0; rw [q1] at y1; rw [q2] at y2; rw [q3] at y3; rw [q4] at y4; rw [q5] at y5; rw [q6] at y6
    have kk1 := hk.1; have kk2 := hk.2.1
    have l1 := ha.1; have l2 := ha.2.1; have l3 := hb'.1; have l4 := hb'.2.1
    have hv2 := hv.out.alloc hv.out.size (.cells #[.int .u64 (L t), .int .i64 (K t), .bool (N t).neg, .slice a1 (N t).an ac, .slice b1 (N t).am bc, .int .i64 (C t), .slice io (k t) kc] 65)
    have hx2 := hx.out.alloc (.cells #[.int .u64 (L t), .int .i64 (K t), .bool (N t).neg, .slice a1 (N t).an ac, .slice b1 (N t).am bc, .int .i64 (C t), .slice io (k t) kc] 65)
    have hy2 := Box7.new (w := wr) (B := wr.heap.size) (.int .u64 (L t)) (.int .i64 (K t)) (.bool (N t).neg) (.slice a1 (N t).an ac) (.slice b1 (N t).am bc) (.int .i64 (C t)) (.slice io (k t) kc) 65 rfl
    obtain ⟨U, hU⟩ : ∃ U, U = wr.heap.size := ⟨_, rfl⟩
    clear hcells he q0 qL q1 qK q2 q3 q4 q5 qC q6 ha hsa hla hb' hsb hlb hk hrow
    go_upto_region 5 with fail
    rw [← hU] at hy2 ⊢
    refine told_wp (fun wx => Below w.heap.size w wx ∧ Box3 wx w.heap.size (.int .u64 S) (.slice ao n nc) (.slice (some ⟨b, o, none⟩) m mc) ∧ Box7 wx U (.int .u64 (L t)) (.int .i64 (K t)) (.bool (N t).neg) (.slice a1 (N t).an ac) (.slice b1 (N t).am bc) (.int .i64 (C t)) (.slice io (k t) kc)) ⟨hv2, hx2, hy2⟩ ?_
    clear hv hx z2 y0 y1 y2 y3 y4 y5 y6 hv2 hx2 hy2 hU
    rintro wa ⟨va, xa, ya⟩
    have p2 := ya.c2; have p3 := ya.c3; have p4 := ya.c4
    have hva := Lib.hid va; have hxa := Lib.hid xa; have hya := Lib.hid ya
    clear va xa ya
    go_wp2_with fail
    refine (small4_cell (N t) a1 b1 ac bc wa (hnum.out.below hva.out) (cell_num hCT.out)).mono ?_
    rintro e2 wb ⟨kk, r, hkk, rfl, hb⟩
    have hv := Lib.hid (below_then hva.out (Nat.le_refl _) hb); have x := Lib.hid (hxa.out.later hb); have y := Lib.hid (hya.out.later hb)
    obtain ⟨hkk1, hkk2⟩ := hkk
    clear hva hxa hya hb p2 p3 p4
    have p0 := y.out.c0; have p1 := y.out.c1; have p2 := y.out.c2; have p3 := y.out.c3; have p4 := y.out.c4; have p5 := y.out.c5; have p6 := y.out.c6
    go_upto_region 6 with fail
    go_cut [55] from 26 to 55 (fun s wx => ∃ f : Bool, s = .bool f ∧ wx = wb)
    case first =>
     by_cases h1 : 4 < (N t).an
     ·have d1 : decide ((4 : Int) < ((N t).an : Int)) = true := decide_eq_true (by omega)
      by_cases h2 : 4 < (N t).am
      ·have d2 : decide ((4 : Int) < ((N t).am : Int)) = true := decide_eq_true (by omega)
       cases r
       ·first
        | (exfalso; omega)
        | (go_wp2_with fail; go_meet; exact ⟨_, rfl, rfl⟩)
       ·by_cases h3 : 300 < kk
        ·have d3 : decide ((300 : Int) < kk) = true := decide_eq_true (by omega)
         by_cases h4 : kk < -300
         ·have d4 : decide (kk < (-300 : Int)) = true := decide_eq_true (by omega)
          by_cases h5 : 1 < (N t).an
          ·have d5 : decide ((1 : Int) < ((N t).an : Int)) = true := decide_eq_true (by omega)
           first
           | (exfalso; omega)
           | (go_wp2_with fail; go_meet; exact ⟨_, rfl, rfl⟩)
          ·have d5 : decide ((1 : Int) < ((N t).an : Int)) = false := decide_eq_false (by omega)
           first
           | (exfalso; omega)
           | (go_wp2_with fail; go_meet; exact ⟨_, rfl, rfl⟩)
         ·have d4 : decide (kk < (-300 : Int)) = false := decide_eq_false (by omega)
          by_cases h5 : 1 < (N t).an
          ·have d5 : decide ((1 : Int) < ((N t).an : Int)) = true := decide_eq_true (by omega)
           first
           | (exfalso; omega)
           | (go_wp2_with fail; go_meet; exact ⟨_, rfl, rfl⟩)
          ·have d5 : decide ((1 : Int) < ((N t).an : Int)) = false := decide_eq_false (by omega)
           first
           | (exfalso; omega)
           | (go_wp2_with fail; go_meet; exact ⟨_, rfl, rfl⟩)
        ·have d3 : decide ((300 : Int) < kk) = false := decide_eq_false (by omega)
         by_cases h4 : kk < -300
         ·have d4 : decide (kk < (-300 : Int)) = true := decide_eq_true (by omega)
          by_cases h5 : 1 < (N t).an
          ·have d5 : decide ((1 : Int) < ((N t).an : Int)) = true := decide_eq_true (by omega)
           first
           | (exfalso; omega)
           | (go_wp2_with fail; go_meet; exact ⟨_, rfl, rfl⟩)
          ·have d5 : decide ((1 : Int) < ((N t).an : Int)) = false := decide_eq_false (by omega)
           first
           | (exfalso; omega)
           | (go_wp2_with fail; go_meet; exact ⟨_, rfl, rfl⟩)
         ·have d4 : decide (kk < (-300 : Int)) = false := decide_eq_false (by omega)
          by_cases h5 : 1 < (N t).an
          ·have d5 : decide ((1 : Int) < ((N t).an : Int)) = true := decide_eq_true (by omega)
           first
           | (exfalso; omega)
           | (go_wp2_with fail; go_meet; exact ⟨_, rfl, rfl⟩)
          ·have d5 : decide ((1 : Int) < ((N t).an : Int)) = false := decide_eq_false (by omega)
           first
           | (exfalso; omega)
           | (go_wp2_with fail; go_meet; exact ⟨_, rfl, rfl⟩)
      ·have d2 : decide ((4 : Int) < ((N t).am : Int)) = false := decide_eq_false (by omega)
       cases r
       ·first
        | (exfalso; omega)
        | (go_wp2_with fail; go_meet; exact ⟨_, rfl, rfl⟩)
       ·by_cases h3 : 300 < kk
        ·have d3 : decide ((300 : Int) < kk) = true := decide_eq_true (by omega)
         by_cases h4 : kk < -300
         ·have d4 : decide (kk < (-300 : Int)) = true := decide_eq_true (by omega)
          by_cases h5 : 1 < (N t).an
          ·have d5 : decide ((1 : Int) < ((N t).an : Int)) = true := decide_eq_true (by omega)
           first
           | (exfalso; omega)
           | (go_wp2_with fail; go_meet; exact ⟨_, rfl, rfl⟩)
          ·have d5 : decide ((1 : Int) < ((N t).an : Int)) = false := decide_eq_false (by omega)
           first
           | (exfalso; omega)
           | (go_wp2_with fail; go_meet; exact ⟨_, rfl, rfl⟩)
         ·have d4 : decide (kk < (-300 : Int)) = false := decide_eq_false (by omega)
          by_cases h5 : 1 < (N t).an
          ·have d5 : decide ((1 : Int) < ((N t).an : Int)) = true := decide_eq_true (by omega)
           first
           | (exfalso; omega)
           | (go_wp2_with fail; go_meet; exact ⟨_, rfl, rfl⟩)
          ·have d5 : decide ((1 : Int) < ((N t).an : Int)) = false := decide_eq_false (by omega)
           first
           | (exfalso; omega)
           | (go_wp2_with fail; go_meet; exact ⟨_, rfl, rfl⟩)
        ·have d3 : decide ((300 : Int) < kk) = false := decide_eq_false (by omega)
         by_cases h4 : kk < -300
         ·have d4 : decide (kk < (-300 : Int)) = true := decide_eq_true (by omega)
          by_cases h5 : 1 < (N t).an
          ·have d5 : decide ((1 : Int) < ((N t).an : Int)) = true := decide_eq_true (by omega)
           first
           | (exfalso; omega)
           | (go_wp2_with fail; go_meet; exact ⟨_, rfl, rfl⟩)
          ·have d5 : decide ((1 : Int) < ((N t).an : Int)) = false := decide_eq_false (by omega)
           first
           | (exfalso; omega)
           | (go_wp2_with fail; go_meet; exact ⟨_, rfl, rfl⟩)
         ·have d4 : decide (kk < (-300 : Int)) = false := decide_eq_false (by omega)
          by_cases h5 : 1 < (N t).an
          ·have d5 : decide ((1 : Int) < ((N t).an : Int)) = true := decide_eq_true (by omega)
           first
           | (exfalso; omega)
           | (go_wp2_with fail; go_meet; exact ⟨_, rfl, rfl⟩)
          ·have d5 : decide ((1 : Int) < ((N t).an : Int)) = false := decide_eq_false (by omega)
           first
           | (exfalso; omega)
           | (go_wp2_with fail; go_meet; exact ⟨_, rfl, rfl⟩)
     ·have d1 : decide ((4 : Int) < ((N t).an : Int)) = false := decide_eq_false (by omega)
      by_cases h2 : 4 < (N t).am
      ·have d2 : decide ((4 : Int) < ((N t).am : Int)) = true := decide_eq_true (by omega)
       cases r
       ·first
        | (exfalso; omega)
        | (go_wp2_with fail; go_meet; exact ⟨_, rfl, rfl⟩)
       ·by_cases h3 : 300 < kk
        ·have d3 : decide ((300 : Int) < kk) = true := decide_eq_true (by omega)
         by_cases h4 : kk < -300
         ·have d4 : decide (kk < (-300 : Int)) = true := decide_eq_true (by omega)
          by_cases h5 : 1 < (N t).an
          ·have d5 : decide ((1 : Int) < ((N t).an : Int)) = true := decide_eq_true (by omega)
           first
           | (exfalso; omega)
           | (go_wp2_with fail; go_meet; exact ⟨_, rfl, rfl⟩)
          ·have d5 : decide ((1 : Int) < ((N t).an : Int)) = false := decide_eq_false (by omega)
           first
           | (exfalso; omega)
           | (go_wp2_with fail; go_meet; exact ⟨_, rfl, rfl⟩)
         ·have d4 : decide (kk < (-300 : Int)) = false := decide_eq_false (by omega)
          by_cases h5 : 1 < (N t).an
          ·have d5 : decide ((1 : Int) < ((N t).an : Int)) = true := decide_eq_true (by omega)
           first
           | (exfalso; omega)
           | (go_wp2_with fail; go_meet; exact ⟨_, rfl, rfl⟩)
          ·have d5 : decide ((1 : Int) < ((N t).an : Int)) = false := decide_eq_false (by omega)
           first
           | (exfalso; omega)
           | (go_wp2_with fail; go_meet; exact ⟨_, rfl, rfl⟩)
        ·have d3 : decide ((300 : Int) < kk) = false := decide_eq_false (by omega)
         by_cases h4 : kk < -300
         ·have d4 : decide (kk < (-300 : Int)) = true := decide_eq_true (by omega)
          by_cases h5 : 1 < (N t).an
          ·have d5 : decide ((1 : Int) < ((N t).an : Int)) = true := decide_eq_true (by omega)
           first
           | (exfalso; omega)
           | (go_wp2_with fail; go_meet; exact ⟨_, rfl, rfl⟩)
          ·have d5 : decide ((1 : Int) < ((N t).an : Int)) = false := decide_eq_false (by omega)
           first
           | (exfalso; omega)
           | (go_wp2_with fail; go_meet; exact ⟨_, rfl, rfl⟩)
         ·have d4 : decide (kk < (-300 : Int)) = false := decide_eq_false (by omega)
          by_cases h5 : 1 < (N t).an
          ·have d5 : decide ((1 : Int) < ((N t).an : Int)) = true := decide_eq_true (by omega)
           first
           | (exfalso; omega)
           | (go_wp2_with fail; go_meet; exact ⟨_, rfl, rfl⟩)
          ·have d5 : decide ((1 : Int) < ((N t).an : Int)) = false := decide_eq_false (by omega)
           first
           | (exfalso; omega)
           | (go_wp2_with fail; go_meet; exact ⟨_, rfl, rfl⟩)
      ·have d2 : decide ((4 : Int) < ((N t).am : Int)) = false := decide_eq_false (by omega)
       cases r
       ·first
        | (exfalso; omega)
        | (go_wp2_with fail; go_meet; exact ⟨_, rfl, rfl⟩)
       ·by_cases h3 : 300 < kk
        ·have d3 : decide ((300 : Int) < kk) = true := decide_eq_true (by omega)
         by_cases h4 : kk < -300
         ·have d4 : decide (kk < (-300 : Int)) = true := decide_eq_true (by omega)
          by_cases h5 : 1 < (N t).an
          ·have d5 : decide ((1 : Int) < ((N t).an : Int)) = true := decide_eq_true (by omega)
           first
           | (exfalso; omega)
           | (go_wp2_with fail; go_meet; exact ⟨_, rfl, rfl⟩)
          ·have d5 : decide ((1 : Int) < ((N t).an : Int)) = false := decide_eq_false (by omega)
           first
           | (exfalso; omega)
           | (go_wp2_with fail; go_meet; exact ⟨_, rfl, rfl⟩)
         ·have d4 : decide (kk < (-300 : Int)) = false := decide_eq_false (by omega)
          by_cases h5 : 1 < (N t).an
          ·have d5 : decide ((1 : Int) < ((N t).an : Int)) = true := decide_eq_true (by omega)
           first
           | (exfalso; omega)
           | (go_wp2_with fail; go_meet; exact ⟨_, rfl, rfl⟩)
          ·have d5 : decide ((1 : Int) < ((N t).an : Int)) = false := decide_eq_false (by omega)
           first
           | (exfalso; omega)
           | (go_wp2_with fail; go_meet; exact ⟨_, rfl, rfl⟩)
        ·have d3 : decide ((300 : Int) < kk) = false := decide_eq_false (by omega)
         by_cases h4 : kk < -300
         ·have d4 : decide (kk < (-300 : Int)) = true := decide_eq_true (by omega)
          by_cases h5 : 1 < (N t).an
          ·have d5 : decide ((1 : Int) < ((N t).an : Int)) = true := decide_eq_true (by omega)
           first
           | (exfalso; omega)
           | (go_wp2_with fail; go_meet; exact ⟨_, rfl, rfl⟩)
          ·have d5 : decide ((1 : Int) < ((N t).an : Int)) = false := decide_eq_false (by omega)
           first
           | (exfalso; omega)
           | (go_wp2_with fail; go_meet; exact ⟨_, rfl, rfl⟩)
         ·have d4 : decide (kk < (-300 : Int)) = false := decide_eq_false (by omega)
          by_cases h5 : 1 < (N t).an
          ·have d5 : decide ((1 : Int) < ((N t).an : Int)) = true := decide_eq_true (by omega)
           first
           | (exfalso; omega)
           | (go_wp2_with fail; go_meet; exact ⟨_, rfl, rfl⟩)
          ·have d5 : decide ((1 : Int) < ((N t).an : Int)) = false := decide_eq_false (by omega)
           first
           | (exfalso; omega)
           | (go_wp2_with fail; go_meet; exact ⟨_, rfl, rfl⟩)
    case rest =>
     obtain ⟨f, rfl, rfl⟩ := hcut
     cases f with
     | true =>
      go_wp2_with fail
      go_ret
      exact ⟨⟨_, rfl⟩, hv.out⟩
     | false =>
     go_upto_region 8 with fail
     go_cut [64] from 56 to 64 (fun s wx => ∃ f : Bool, s = .bool f ∧ wx = wc)
     case first =>
      cases r
      ·first
       | (exfalso; omega)
       | (go_wp2_with fail; go_meet; exact ⟨_, rfl, rfl⟩)
      ·by_cases h3 : 100000 < kk
       ·have d3 : decide ((100000 : Int) < kk) = true := decide_eq_true (by omega)
        by_cases h4 : kk < -100000
        ·have d4 : decide (kk < (-100000 : Int)) = true := decide_eq_true (by omega)
         first
         | (exfalso; omega)
         | (go_wp2_with fail; go_meet; exact ⟨_, rfl, rfl⟩)
        ·have d4 : decide (kk < (-100000 : Int)) = false := decide_eq_false (by omega)
         first
         | (exfalso; omega)
         | (go_wp2_with fail; go_meet; exact ⟨_, rfl, rfl⟩)
       ·have d3 : decide ((100000 : Int) < kk) = false := decide_eq_false (by omega)
        by_cases h4 : kk < -100000
        ·have d4 : decide (kk < (-100000 : Int)) = true := decide_eq_true (by omega)
         first
         | (exfalso; omega)
         | (go_wp2_with fail; go_meet; exact ⟨_, rfl, rfl⟩)
        ·have d4 : decide (kk < (-100000 : Int)) = false := decide_eq_false (by omega)
         first
         | (exfalso; omega)
         | (go_wp2_with fail; go_meet; exact ⟨_, rfl, rfl⟩)
     case rest =>
      obtain ⟨f, rfl, rfl⟩ := hcut
      cases f with
      | true =>
       go_wp2_with fail
       go_ret
       exact ⟨⟨_, rfl⟩, hv.out⟩
      | false =>
       go_upto_region 10 with fail
       have hyy := y
       obtain ⟨kt, hkt⟩ : ∃ kt, kt = k t := ⟨_, rfl⟩
       rw [← hkt] at hyy kk1
       have hkt' := Lib.hid hkt
       clear hkt y p0 p1 p2 p3 p4 p5 p6
       go_wp2_with fail
       go_loopw [7] (fun j wi => ∃ (u : Nat), u ≤ kt ∧ j = .int .i64 u ∧ Hid (Below w.heap.size w wi) ∧ Hid (Box3 wi w.heap.size (.int .u64 S) (.slice ao n nc) (.slice (some ⟨b, o, none⟩) m mc)) ∧ Hid (Box7 wi U (.int .u64 (L t)) (.int .i64 (K t)) (.bool (N t).neg) (.slice a1 (N t).an ac) (.slice b1 (N t).am bc) (.int .i64 (C t)) (.slice io kt kc))) (fun j _ => kt - (intOfZ j).toNat)
       case atStart => exact ⟨0, Nat.zero_le _, rfl, hv, x, hyy⟩
       case round =>
        obtain ⟨u, hu, rfl, hvi, hxi, hyi⟩ := hrel
        clear hv x hyy
        have p6 := hyi.out.c6
        by_cases hul : u < kt
        ·have hku := Lib.hid (show u < k t by rw [← hkt'.out]; exact hul)
         rcases hrow'.out with h0 | ⟨b', o', rfl, hrows⟩
         ·have := hku.out; omega
         obtain ⟨d0, d1, d2, r0, r1, r2, r3⟩ := hrows u hku.out
         obtain ⟨S', n', nc', m', mc', ao', co', e0, e1, e2⟩ := (ArrP.within _ _ _ _ r3).form
         subst e0; subst e1; subst e2
         have s0 := cell_below r0 hvi.out; have s1 := cell_below r1 hvi.out; have s2 := cell_below r2 hvi.out
         have hA := Lib.hid (ArrP.below _ _ _ _ r3 hvi.out)
         have hsR := Lib.hid (show RightT (sub t u) (dd - 1) from by
          rcases hCT.out with ⟨_, _, hk0, _⟩ | ⟨_, _, hk0, _⟩ | ⟨_, _, _, hk1, _, _, hR⟩
          ·have := hku.out; omega
          ·have := hku.out; omega
          ·have hu0 : u = 0 := by have := hku.out; omega
           rw [hu0]; exact hR)
         clear hrows r0 r1 r2 r3
         go_wp2_with fail
         refine (ih t u (dd - 1) _ _ _ _ hA.out hsR.out).mono ?_
         rintro e2 w4 ⟨⟨r, rfl⟩, hb4⟩
         have hv4 := Lib.hid (below_then hvi.out (Nat.le_refl _) hb4); have x4 := Lib.hid (hxi.out.later hb4); have y4 := Lib.hid (hyi.out.later hb4)
         clear hvi hxi hyi hA s0 s1 s2 p6 hb4
         cases r
         ·go_wp2_with fail
          go_ret
          exact ⟨⟨_, rfl⟩, hv4.out⟩
         ·go_wp2_with fail
          go_roundw
          case rel => exact ⟨u + 1, by omega, by go_num, hv4, x4, y4⟩
          case measure => simp [intOfZ]; omega
        ·obtain rfl : u = kt := by omega
         go_wp2_with fail
         go_roundw
         case rel => exact ⟨t + 1, by omega, by go_num, hvi, hxi⟩
         case measure => simp [intOfZ]; omega
   ·obtain rfl : t = m := by omega
    go_wp2_with fail
    go_ret
    exact ⟨⟨_, rfl⟩, hv.out⟩
end Go.Proofs.YtaepelipkkmeaaaGreat
namespace Go.Proofs.YtaepelipkkmeaaaGreat
open Go.RowKit Num
attribute [local go_sem ↓] Go.wp_at_zero Go.wp_at_succ
attribute [local go_sem] fieldA1 fieldA2
theorem ArrP.few {w : World} {A : Tree} {c0 c1 c2 : Value} (h : ArrP w A c0 c1 c2) (hf : FewT A) : rankT A ≤ 4000 ∧ cellsT A ≤ 4000 := by
 obtain _ | ⟨S, n, sh, m, L, K, C, N, k, sub⟩ := A
 ·exact (ArrP.leaf h).elim
 have h1 := parts_here (S := S) (n := n) (m := m) (sh := sh) (L := L) (K := K) (C := C) (N := N) (k := k) (sub := sub)
 have h2 := hf.1
 exact ⟨by show n ≤ 4000; omega, by show m ≤ 4000; omega⟩
theorem conformC : ConformC := by
 intro A B c0 c1 c2 d0 d1 d2 w hA hB fA fB
 have hA' := hA.few fA; have hB' := hB.few fB
 obtain ⟨ao, co, nc, mc, rfl, rfl, rfl, lA, nA, sA, zA, mA⟩ := (ArrP.within _ _ _ _ hA).top
 obtain ⟨bo, eo, bc, ec, rfl, rfl, rfl, lB, nB, sB, zB, mB⟩ := (ArrP.within _ _ _ _ hB).top
 refine (conformP_any _ _ ao bo co eo _ nc _ bc _ mc _ ec (shapeT A) (shapeT B) w nA nB (by omega) (by omega) sA.plain sB.plain).mono ?_
 rintro e w' ⟨so, N, sc, rfl, rfl, k1, k2, hb⟩
 exact ⟨so, sc, rfl, k1, k2.plain, hb⟩
end Go.Proofs.YtaepelipkkmeaaaGreat
namespace Go.Proofs.YtaepelipkkmeaaaGreat
open Go.RowKit Num
theorem exponents10_any : ∀ (A : Tree) (dd : Nat) (c0 c1 c2 : Value) (w : World), ArrP w A c0 c1 c2 → RightT A dd →
  Calls Tryz.prog 28 #[.agg #[c0, c1, c2]] w (SomeBool w) := by
 intro A
 induction A with
 | leaf => intro dd c0 c1 c2 w h; exact (ArrP.leaf h).elim
 | arr S n sh m L K C N k sub ih =>
  intro dd c0 c1 c2 w h hr
  obtain ⟨rfl, hS, ⟨ao, nc, rfl, hn, _, _⟩, co, mc, rfl, hm, hc⟩ := h
  have n1 := hn.1; have n2 := hn.2.1; have n3 := hn.2.2; have m1 := hm.1; have m2 := hm.2.1; have m3 := hm.2.2
  have hr' := Lib.hid hr.2; have hc' := Lib.hid hc
  clear hc hn hm hr hS
  go_enter Tryz.func28, Tryz.ntmps28
  go_upto_region 1 with fail
  refine told_wp (fun w' => Below w.heap.size w w' ∧ Box3 w' w.heap.size (.int .u64 S) (.slice ao n nc) (.slice co m mc)) ⟨(Below.refl _ _).alloc (Nat.le_refl _) _, Box3.new _ _ _ _ rfl⟩ ?_
  rintro w1 ⟨b1, x1⟩
  have hv0 := Lib.hid b1; have hx0 := Lib.hid x1
  clear b1 x1
  go_wp2_with fail
  go_loopw [3] (fun i wr => ∃ (t : Nat), t ≤ m ∧ i = .int .i64 t ∧ Hid (Below w.heap.size w wr) ∧ Hid (Box3 wr w.heap.size (.int .u64 S) (.slice ao n nc) (.slice co m mc))) (fun i _ => m - (intOfZ i).toNat)
  case atStart => exact ⟨0, Nat.zero_le _, rfl, hv0, hx0⟩
  case round =>
   obtain ⟨t, ht, rfl, hv, hx⟩ := hrel
   clear hv0 hx0
   have z2 := hx.out.c2
   by_cases hlt : t < m
   ·rcases hc'.out with h0 | ⟨b, o, rfl, hcells⟩
    ·omega
    obtain ⟨e, he, q0, qL, q1, qK, ⟨q2, ⟨a1, ac, q3, ha, hsa, hla⟩, ⟨b1, bc, q4, hb', hsb, hlb⟩⟩, q5, qC, io, kc, q6, hk, hrow⟩ := hcells t hlt
    have hCT := Lib.hid (hr'.out t hlt)
    have hrow' : Hid (RowP w io (k t) fun j d0 d1 d2 => ArrP w (sub t j) d0 d1 d2) := Lib.hid hrow
    have hnum := Lib.hid (show NumP w (N t) (.bool (N t).neg) (.slice a1 (N t).an ac) (.slice b1 (N t).am bc) from ⟨rfl, ⟨a1, ac, rfl, ha, hsa, hla⟩, ⟨b1, bc, rfl, hb', hsb, hlb⟩⟩)
    have y0 := cell_below (he 0 (by decide)) hv.out; have y1 := cell_below (he 1 (by decide)) hv.out; have y2 := cell_below (he 2 (by decide)) hv.out; have y3 := cell_below (he 3 (by decide)) hv.out
    have y4 := cell_below (he 4 (by decide)) hv.out; have y5 := cell_below (he 5 (by decide)) hv.out; have y6 := cell_below (he 6 (by decide)) hv.out
    rw [q0, Nat.add_zero] at y0; rw [q1] at y1; rw [q2] at y2; rw [q3] at y3; rw [q4] at y4; rw [q5] at y5; rw [q6] at y6
    have hy6 := Lib.hid (show w.cell? ⟨b, o + t * 7 + 6, none⟩ = some (.slice io (k t) kc) from by rw [he 6 (by decide), q6])
    have kk1 := hk.1; have kk2 := hk.2.1
    have l1 := ha.1; have l2 := ha.2.1; have l3 := hb'.1; have l4 := hb'.2.1
    clear hcells q0 qL q1 qK q2 q3 q4 q5 qC q6 ha hsa hla hb' hsb hlb hk hrow z2 y0 y1 y5
    have z2 := hx.out.c2
    go_wp2_with fail
    refine (small4_cell (N t) a1 b1 ac bc wr (hnum.out.below hv.out) (cell_num hCT.out)).mono ?_
    rintro e2 wb ⟨kk, r, hkk, rfl, hb⟩
    have hva := hv; have hxa := hx
    have y6b := cell_below y6 hb
    have hcell6 := Lib.hid (show ∀ wi, Below w.heap.size w wi → wi.cell? ⟨b, o + t * 7 + 6, none⟩ = some (.slice io (k t) kc) from fun wi hi => cell_below hy6.out hi)
    clear y2 y3 y4 y6 z2 he
    have hv := Lib.hid (below_then hva.out (Nat.le_refl _) hb); have x := Lib.hid (hxa.out.later hb)
    obtain ⟨hkk1, hkk2⟩ := hkk
    clear hva hxa hb
    go_upto_region 5 with fail
    go_cut [32] from 24 to 32 (fun s wx => ∃ f : Bool, s = .bool f ∧ wx = wb)
    case first =>
     cases r
     ·first
      | (exfalso; omega)
      | (go_wp2_with fail; go_meet; exact ⟨_, rfl, rfl⟩)
     ·by_cases h3 : 300 < kk
      ·have d3 : decide ((300 : Int) < kk) = true := decide_eq_true (by omega)
       by_cases h4 : kk < -300
       ·have d4 : decide (kk < (-300 : Int)) = true := decide_eq_true (by omega)
        first
        | (exfalso; omega)
        | (go_wp2_with fail; go_meet; exact ⟨_, rfl, rfl⟩)
       ·have d4 : decide (kk < (-300 : Int)) = false := decide_eq_false (by omega)
        first
        | (exfalso; omega)
        | (go_wp2_with fail; go_meet; exact ⟨_, rfl, rfl⟩)
      ·have d3 : decide ((300 : Int) < kk) = false := decide_eq_false (by omega)
       by_cases h4 : kk < -300
       ·have d4 : decide (kk < (-300 : Int)) = true := decide_eq_true (by omega)
        first
        | (exfalso; omega)
        | (go_wp2_with fail; go_meet; exact ⟨_, rfl, rfl⟩)
       ·have d4 : decide (kk < (-300 : Int)) = false := decide_eq_false (by omega)
        first
        | (exfalso; omega)
        | (go_wp2_with fail; go_meet; exact ⟨_, rfl, rfl⟩)
    case rest =>
     obtain ⟨f, rfl, rfl⟩ := hcut
     cases f with
     | true =>
      go_wp2_with fail
      go_ret
      exact ⟨⟨_, rfl⟩, hv.out⟩
     | false =>
      go_upto_region 7 with fail
      obtain ⟨kt, hkt⟩ : ∃ kt, kt = k t := ⟨_, rfl⟩
      rw [← hkt] at kk1 hcell6
      have hkt' := Lib.hid hkt
      clear hkt y6b
      go_wp2_with fail
      go_loopw [6] (fun j wi => ∃ (u : Nat), u ≤ kt ∧ j = .int .i64 u ∧ Hid (Below w.heap.size w wi) ∧ Hid (Box3 wi w.heap.size (.int .u64 S) (.slice ao n nc) (.slice (some ⟨b, o, none⟩) m mc))) (fun j _ => kt - (intOfZ j).toNat)
      case atStart => exact ⟨0, Nat.zero_le _, rfl, hv, x⟩
      case round =>
       obtain ⟨u, hu, rfl, hvi, hxi⟩ := hrel
       clear hv x
       have p6 := hcell6.out _ hvi.out; have z2 := hxi.out.c2
       by_cases hul : u < kt
       ·have hku := Lib.hid (show u < k t by rw [← hkt'.out]; exact hul)
        rcases hrow'.out with h0 | ⟨b', o', rfl, hrows⟩
        ·have := hku.out; omega
        obtain ⟨d0, d1, d2, r0, r1, r2, r3⟩ := hrows u hku.out
        obtain ⟨S', n', nc', m', mc', ao', co', e0, e1, e2⟩ := (ArrP.within _ _ _ _ r3).form
        subst e0; subst e1; subst e2
        have s0 := cell_below r0 hvi.out; have s1 := cell_below r1 hvi.out; have s2 := cell_below r2 hvi.out
        have hA := Lib.hid (ArrP.below _ _ _ _ r3 hvi.out)
        have hsR := Lib.hid (show RightT (sub t u) (dd - 1) from by
         rcases hCT.out with ⟨_, _, hk0, _⟩ | ⟨_, _, hk0, _⟩ | ⟨_, _, _, hk1, _, _, hR⟩
         ·have := hku.out; omega
         ·have := hku.out; omega
         ·have hu0 : u = 0 := by have := hku.out; omega
          rw [hu0]; exact hR)
        clear hrows r0 r1 r2 r3
        go_wp2_with fail
        refine (ih t u (dd - 1) _ _ _ _ hA.out hsR.out).mono ?_
        rintro e2 w4 ⟨⟨r, rfl⟩, hb4⟩
        have hv4 := Lib.hid (below_then hvi.out (Nat.le_refl _) hb4); have x4 := Lib.hid (hxi.out.later hb4)
        clear hvi hxi hA s0 s1 s2 p6 z2 hb4
        cases r
        ·go_wp2_with fail
         go_ret
         exact ⟨⟨_, rfl⟩, hv4.out⟩
        ·go_wp2_with fail
         go_roundw
         case rel => exact ⟨u + 1, by omega, by go_num, hv4, x4⟩
         case measure => simp [intOfZ]; omega
       ·obtain rfl : u = kt := by omega
        go_wp2_with fail
        go_roundw
        case rel => exact ⟨t + 1, by omega, by go_num, hvi, hxi⟩
        case measure => simp [intOfZ]; omega
   ·obtain rfl : t = m := by omega
    go_wp2_with fail
    go_ret
    exact ⟨⟨_, rfl⟩, hv.out⟩
end Go.Proofs.YtaepelipkkmeaaaGreat
namespace Go.Proofs.YtaepelipkkmeaaaGreat
open Go.RowKit Num
def GoodPost (A : Tree) (w : World) (e : Ending) (w' : World) : Prop := ∃ r : Bool, e = .returned (.bool r) ∧ (r = true → FewT A ∧ RightT A 8) ∧ Below w.heap.size w w'
theorem good8_any (A : Tree) (c0 c1 c2 : Value) (w : World) (h : ArrP w A c0 c1 c2) : Calls Tryz.prog 22 #[.agg #[c0, c1, c2]] w (GoodPost A w) := by
 obtain ⟨S, n, nc, m, mc, ao, co, rfl, rfl, rfl⟩ := (ArrP.within _ _ _ _ h).form
 have h' := Lib.hid h
 clear h
 go_enter Tryz.func22, Tryz.ntmps22
 go_upto_region 1 with fail
 refine told_wp (fun w' => Below w.heap.size w w' ∧ Box3 w' w.heap.size (.int .u64 S) (.slice ao n nc) (.slice co m mc)) ⟨(Below.refl _ _).alloc (Nat.le_refl _) _, Box3.new _ _ _ _ rfl⟩ ?_
 rintro w0 ⟨bb, x⟩
 have q0 := x.c0; have q1 := x.c1; have q2 := x.c2
 have bb' := Lib.hid bb; have x' := Lib.hid x
 clear bb x
 go_wp2_with fail
 refine (few8_any A _ _ _ w0 (h'.out.later bb'.out)).mono ?_
 rintro e w1 ⟨⟨r, rfl, hr⟩, hb⟩
 replace bb' := Lib.hid (below_then bb'.out (Nat.le_refl _) hb); replace x' := Lib.hid (x'.out.later hb)
 clear q0 q1 q2 hb
 cases r with
 | false =>
  clear hr
  go_wp2_with fail
  go_ret
  exact ⟨false, rfl, fun h => (Bool.false_ne_true h).elim, bb'.out⟩
 | true =>
  have hF := Lib.hid (hr rfl)
  have q0 := x'.out.c0; have q1 := x'.out.c1; have q2 := x'.out.c2
  clear hr
  go_wp2_with fail
  refine (right8_any A 8 _ _ _ w1 (h'.out.later bb'.out) (by decide)).mono ?_
  rintro e w2 ⟨r, rfl, hr, hb⟩
  replace bb' := Lib.hid (below_then bb'.out (Nat.le_refl _) hb)
  have hr' := Lib.hid hr
  clear q0 q1 q2 hb hr
  go_wp2_with fail
  go_ret
  exact ⟨r, rfl, fun h => ⟨hF.out, hr'.out.1 h⟩, bb'.out⟩
end Go.Proofs.YtaepelipkkmeaaaGreat
namespace Go.Proofs.YtaepelipkkmeaaaGreat
open Go.RowKit Num
theorem twoR_zero {f : Int} {d : Nat} {A B : Tree} (h : twoR f d A B = 0) : twoE f d A B = 0 := by
 unfold twoR at h
 by_cases hm : f ∈ twosZ
 ·rw [if_pos hm] at h; exact h
 ·rw [if_neg hm] at h; exact absurd h (by decide)
theorem conf10_any (A B : Tree) (c0 c1 c2 d0 d1 d2 : Value) (w : World) (h : ArrP w A c0 c1 c2) (h' : ArrP w B d0 d1 d2) : Calls Tryz.prog 32 #[.agg #[c0, c1, c2], .agg #[d0, d1, d2]] w (ConfPost A B w) := by
 obtain ⟨ca, da, ea, ga, rfl, rfl, rfl, _, hna, hsa, _, _⟩ := (ArrP.within _ _ _ _ h).top
 obtain ⟨cb, db, eb, gb, rfl, rfl, rfl, _, hnb, hsb, _, _⟩ := (ArrP.within _ _ _ _ h').top
 refine (conform10_any (labT A) (labT B) ca cb (rankT A) ea (rankT B) eb (shapeT A) (shapeT B) _ _ w hna hnb hsa.plain hsb.plain ⟨_, _, _, rfl⟩ ⟨_, _, _, rfl⟩).mono ?_
 rintro e w' ⟨rfl, hb⟩
 have key : ∃ (tv : Option Addr) (tn : Nat), confV (.slice ca (rankT A) ea) (.slice cb (rankT B) eb) (rankT A) (shapeT A) (rankT B) (shapeT B) = .slice tv (confN A B) tn ∧ IsN (confN A B) tn ∧ SlZ w tv (confN A B) (confZ A B) := by
  unfold confV confN confZ
  by_cases h0 : rankT A = 0
  ·have hz : confE (rankT A) (shapeT A) (rankT B) (shapeT B) = 0 := by unfold confE; rw [if_pos h0]
   rw [if_pos h0, if_pos hz, if_pos h0, if_pos h0]; exact ⟨cb, eb, rfl, hnb, hsb.plain⟩
  ·rw [if_neg h0, if_neg h0, if_neg h0]
   by_cases hz : confE (rankT A) (shapeT A) (rankT B) (shapeT B) = 0
   ·rw [if_pos hz, if_pos hz]; exact ⟨ca, ea, rfl, hna, hsa.plain⟩
   ·rw [if_neg hz, if_neg hz]; exact ⟨none, 0, rfl, ⟨Nat.le_refl _, by decide, by decide⟩, .inl rfl⟩
 obtain ⟨tv, tn, htv, htl, hts⟩ := key
 rw [htv]
 exact ⟨tv, tn, rfl, htl, hts.below hb, hb⟩
theorem two10_walk (hA : Awake10C) (hT : TwoSC) (hC : ConformC) (f : Int) (A B : Tree) (a0 a1 a2 b0 b1 b2 : Value) (w : World) (hf : IsZ f) (ha : ArrP w A a0 a1 a2) (hb : ArrP w B b0 b1 b2) :
  Calls Tryz.prog 5 #[.int .i64 f, .agg #[a0, a1, a2], .agg #[b0, b1, b2]] w (Tell (.bool true) w) := by
 replace hA := Lib.hid hA; replace hT := Lib.hid hT; replace hC := Lib.hid hC; replace hf := Lib.hid hf
 obtain ⟨S, n, nc, m, mc, ao, co, rfl, rfl, rfl⟩ := (ArrP.within _ _ _ _ ha).form
 obtain ⟨S', n', nc', m', mc', ao', co', rfl, rfl, rfl⟩ := (ArrP.within _ _ _ _ hb).form
 have h1 := Lib.hid ha; have h2 := Lib.hid hb
 clear ha hb
 go_enter Tryz.func5, Tryz.ntmps5
 go_upto_region 1 with fail
 refine told_wp (fun w' => Below w.heap.size w w' ∧ Box3 w' w.heap.size (.int .u64 S) (.slice ao n nc) (.slice co m mc) ∧ Box3 w' (w.heap.size + 1) (.int .u64 S') (.slice ao' n' nc') (.slice co' m' mc')) ⟨((Below.refl _ _).alloc (Nat.le_refl _) _).alloc (by simp) _, (Box3.new _ _ _ _ rfl).alloc _, Box3.new _ _ _ _ (by simp)⟩ ?_
 rintro w0 ⟨bb, x, y⟩
 replace bb := Lib.hid bb; replace x := Lib.hid x; replace y := Lib.hid y
 have q0 := x.out.c0; have q1 := x.out.c1; have q2 := x.out.c2
 go_wp2_with fail
 refine (good8_any A _ _ _ w0 (h1.out.later bb.out)).mono ?_
 rintro e w1 ⟨r, rfl, hr, hb⟩
 replace bb := Lib.hid (below_then bb.out (Nat.le_refl _) hb); replace x := Lib.hid (x.out.later hb); replace y := Lib.hid (y.out.later hb)
 clear q0 q1 q2 hb
 cases r with
 | false =>
  clear x y
  go_wp2_with fail
  refine (hA.out _).mono ?_
  rintro e wz ⟨rfl, hb⟩
  replace bb := Lib.hid (below_then bb.out (Nat.le_refl _) hb)
  clear hb
  go_wp2_with fail
  go_ret
  exact ⟨rfl, bb.out⟩
 | true =>
  obtain ⟨hF0, hR0⟩ := hr rfl
  have hF1 := Lib.hid hF0; have hR1 := Lib.hid hR0
  clear hr hF0 hR0
  have q0 := y.out.c0; have q1 := y.out.c1; have q2 := y.out.c2
  go_wp2_with fail
  refine (good8_any B _ _ _ w1 (h2.out.later bb.out)).mono ?_
  rintro e w2 ⟨r, rfl, hr, hb⟩
  replace bb := Lib.hid (below_then bb.out (Nat.le_refl _) hb); replace x := Lib.hid (x.out.later hb); replace y := Lib.hid (y.out.later hb)
  clear q0 q1 q2 hb
  cases r with
  | false =>
   clear x y
   go_wp2_with fail
   refine (hA.out _).mono ?_
   rintro e wz ⟨rfl, hb⟩
   replace bb := Lib.hid (below_then bb.out (Nat.le_refl _) hb)
   clear hb
   go_wp2_with fail
   go_ret
   exact ⟨rfl, bb.out⟩
  | true =>
   obtain ⟨hF0, hR0⟩ := hr rfl
   have hF2 := Lib.hid hF0; have hR2 := Lib.hid hR0
   clear hr hF0 hR0
   have q0 := x.out.c0; have q1 := x.out.c1; have q2 := x.out.c2
   go_wp2_with fail
   refine (light10_any A 8 _ _ _ w2 (h1.out.later bb.out) hR1.out).mono ?_
   rintro e w3 ⟨⟨r, rfl⟩, hb⟩
   replace bb := Lib.hid (below_then bb.out (Nat.le_refl _) hb); replace x := Lib.hid (x.out.later hb); replace y := Lib.hid (y.out.later hb)
   clear q0 q1 q2 hb
   cases r with
   | false =>
    clear x y
    go_wp2_with fail
    refine (hA.out _).mono ?_
    rintro e wz ⟨rfl, hb⟩
    replace bb := Lib.hid (below_then bb.out (Nat.le_refl _) hb)
    clear hb
    go_wp2_with fail
    go_ret
    exact ⟨rfl, bb.out⟩
   | true =>
    have q0 := y.out.c0; have q1 := y.out.c1; have q2 := y.out.c2
    go_wp2_with fail
    refine (light10_any B 8 _ _ _ w3 (h2.out.later bb.out) hR2.out).mono ?_
    rintro e w4 ⟨⟨r, rfl⟩, hb⟩
    replace bb := Lib.hid (below_then bb.out (Nat.le_refl _) hb); replace x := Lib.hid (x.out.later hb); replace y := Lib.hid (y.out.later hb)
    clear q0 q1 q2 hb
    cases r with
    | false =>
     clear x y
     go_wp2_with fail
     refine (hA.out _).mono ?_
     rintro e wz ⟨rfl, hb⟩
     replace bb := Lib.hid (below_then bb.out (Nat.le_refl _) hb)
     clear hb
     go_wp2_with fail
     go_ret
     exact ⟨rfl, bb.out⟩
    | true =>
     cases hfb : (f == 42) with
     | true =>
      have q0 := y.out.c0; have q1 := y.out.c1; have q2 := y.out.c2
      go_wp2_with fail
      refine (exponents10_any B 8 _ _ _ w4 (h2.out.later bb.out) hR2.out).mono ?_
      rintro e w5 ⟨⟨r, rfl⟩, hb⟩
      replace bb := Lib.hid (below_then bb.out (Nat.le_refl _) hb); replace x := Lib.hid (x.out.later hb); replace y := Lib.hid (y.out.later hb)
      clear q0 q1 q2 hb
      cases r with
      | false =>
       clear x y
       go_wp2_with fail
       refine (hA.out _).mono ?_
       rintro e wz ⟨rfl, hb⟩
       replace bb := Lib.hid (below_then bb.out (Nat.le_refl _) hb)
       clear hb
       go_wp2_with fail
       go_ret
       exact ⟨rfl, bb.out⟩
      | true =>
       go_upto_region 3 with fail
       have q0 := x.out.c0; have q1 := x.out.c1; have q2 := x.out.c2
       have r0 := y.out.c0; have r1 := y.out.c1; have r2 := y.out.c2
       go_wp2_with fail
       refine (hT.out f A B _ _ _ _ _ _ w5 hf.out (h1.out.later bb.out) (h2.out.later bb.out) hF1.out hF2.out hR1.out hR2.out).mono ?_
       intro e w6 hp
       obtain ⟨S1, k1, kc1, l1, lc1, o1, p1, rfl, hX, hb⟩ := hp.form
       have hb' := hb.alloc hb.size (.cells #[.int .u64 S1, .slice o1 k1 kc1, .slice p1 l1 lc1] 45)
       have bb1 := below_then bb.out (Nat.le_refl _) hb'; have x1 := x.out.later hb'; have y1 := y.out.later hb'
       have X11 := hX.later ((Below.refl _ _).alloc (Nat.le_refl _) (.cells #[.int .u64 S1, .slice o1 k1 kc1, .slice p1 l1 lc1] 45))
       have u11 := Box3.new (w := w6) (B := w6.heap.size) (.int .u64 S1) (.slice o1 k1 kc1) (.slice p1 l1 lc1) 45 rfl
       obtain ⟨B1, hB1⟩ : ∃ B1, B1 = w6.heap.size := ⟨_, rfl⟩
       clear q0 q1 q2 r0 r1 r2 hb hp hX hb' bb x y
       go_upto_region 4 with fail
       rw [← hB1] at u11 ⊢
       refine told_wp (fun w' => Below w.heap.size w w' ∧ Box3 w' w.heap.size (.int .u64 S) (.slice ao n nc) (.slice co m mc) ∧ Box3 w' (w.heap.size + 1) (.int .u64 S') (.slice ao' n' nc') (.slice co' m' mc') ∧ ArrP w' (resT (twoR f 9 A B) (twoT f 9 A B)) (.int .u64 S1) (.slice o1 k1 kc1) (.slice p1 l1 lc1) ∧ Box3 w' B1 (.int .u64 S1) (.slice o1 k1 kc1) (.slice p1 l1 lc1)) ⟨bb1, x1, y1, X11, u11⟩ ?_
       clear bb1 x1 y1 hB1 X11 u11
       rintro w7 ⟨bb, x, y, X1, u1⟩
       replace bb := Lib.hid bb; replace x := Lib.hid x; replace y := Lib.hid y; replace X1 := Lib.hid X1; replace u1 := Lib.hid u1
       have q0 := x.out.c0; have q1 := x.out.c1; have q2 := x.out.c2
       have r0 := y.out.c0; have r1 := y.out.c1; have r2 := y.out.c2
       go_wp2_with fail
       refine (two10_any f A B _ _ _ _ _ _ w7 (h1.out.later bb.out) (h2.out.later bb.out) hF1.out hF2.out hR1.out hR2.out).mono ?_
       intro e w8 hp
       obtain ⟨S2, k2, kc2, l2, lc2, o2, p2, rfl, hX, hb⟩ := hp.form
       have hb' := hb.alloc hb.size (.cells #[.int .u64 S2, .slice o2 k2 kc2, .slice p2 l2 lc2] 45)
       have bb1 := below_then bb.out (Nat.le_refl _) hb'; have x1 := x.out.later hb'; have y1 := y.out.later hb'
       have u11 := u1.out.later hb'; have X11 := X1.out.later hb'
       have X21 := hX.later ((Below.refl _ _).alloc (Nat.le_refl _) (.cells #[.int .u64 S2, .slice o2 k2 kc2, .slice p2 l2 lc2] 45))
       have u21 := Box3.new (w := w8) (B := w8.heap.size) (.int .u64 S2) (.slice o2 k2 kc2) (.slice p2 l2 lc2) 45 rfl
       obtain ⟨B2, hB2⟩ : ∃ B2, B2 = w8.heap.size := ⟨_, rfl⟩
       clear q0 q1 q2 r0 r1 r2 hb hp hX hb' bb x y u1 X1
       go_upto_region 5 with fail
       rw [← hB2] at u21 ⊢
       refine told_wp (fun w' => Below w.heap.size w w' ∧ Box3 w' w.heap.size (.int .u64 S) (.slice ao n nc) (.slice co m mc) ∧ Box3 w' (w.heap.size + 1) (.int .u64 S') (.slice ao' n' nc') (.slice co' m' mc') ∧ ArrP w' (resT (twoR f 9 A B) (twoT f 9 A B)) (.int .u64 S1) (.slice o1 k1 kc1) (.slice p1 l1 lc1) ∧ Box3 w' B1 (.int .u64 S1) (.slice o1 k1 kc1) (.slice p1 l1 lc1) ∧ ArrP w' (resT (twoR f 9 A B) (twoT f 9 A B)) (.int .u64 S2) (.slice o2 k2 kc2) (.slice p2 l2 lc2) ∧ Box3 w' B2 (.int .u64 S2) (.slice o2 k2 kc2) (.slice p2 l2 lc2)) ⟨bb1, x1, y1, X11, u11, X21, u21⟩ ?_
       clear bb1 x1 y1 hB2 X11 u11 X21 u21
       rintro w9 ⟨bb, x, y, X1, u1, X2, u2⟩
       replace bb := Lib.hid bb; replace x := Lib.hid x; replace y := Lib.hid y; replace X1 := Lib.hid X1; replace u1 := Lib.hid u1; replace X2 := Lib.hid X2; replace u2 := Lib.hid u2
       have q0 := x.out.c0; have q1 := x.out.c1; have q2 := x.out.c2
       have r0 := y.out.c0; have r1 := y.out.c1; have r2 := y.out.c2
       go_wp2_with fail
       refine (hC.out A B _ _ _ _ _ _ w9 (h1.out.later bb.out) (h2.out.later bb.out) hF1.out hF2.out).mono ?_
       rintro e w10 ⟨so, sc, rfl, hs, hss, hb⟩
       have s1 := hs.1; have s2 := hs.2.1
       replace hss := Lib.hid hss
       replace bb := Lib.hid (below_then bb.out (Nat.le_refl _) hb); replace x := Lib.hid (x.out.later hb); replace y := Lib.hid (y.out.later hb); replace X1 := Lib.hid (X1.out.later hb); replace u1 := Lib.hid (u1.out.later hb); replace X2 := Lib.hid (X2.out.later hb); replace u2 := Lib.hid (u2.out.later hb)
       clear q0 q1 q2 r0 r1 r2 hb
       have q0 := x.out.c0; have q1 := x.out.c1; have q2 := x.out.c2
       have r0 := y.out.c0; have r1 := y.out.c1; have r2 := y.out.c2
       have hcf := conf10_any A B _ _ _ _ _ _ w10 (h1.out.later bb.out) (h2.out.later bb.out)
       replace hcf := Lib.hid hcf
       go_wp2_with fail
       refine hcf.out.mono ?_
       rintro e w11 ⟨tq, tc, rfl, ht, hts, hb⟩
       have t1 := ht.1; have t2 := ht.2.1
       replace hts := Lib.hid hts; replace hss := Lib.hid (hss.out.below hb)
       replace bb := Lib.hid (below_then bb.out (Nat.le_refl _) hb); replace X1 := Lib.hid (X1.out.later hb); replace u1 := Lib.hid (u1.out.later hb); replace X2 := Lib.hid (X2.out.later hb); replace u2 := Lib.hid (u2.out.later hb)
       clear q0 q1 q2 r0 r1 r2 hb x y hcf
       obtain ⟨E, hE⟩ : ∃ E, E = twoR f 9 A B := ⟨_, rfl⟩
       obtain ⟨T, hTe⟩ : ∃ T, T = resT (twoR f 9 A B) (twoT f 9 A B) := ⟨_, rfl⟩
       have hE' := Lib.hid hE; have hT' := Lib.hid hTe
       rw [← hTe] at X1 X2
       rw [← hE]
       clear hE hTe
       obtain ⟨cn, hcn⟩ : ∃ cn, cn = confN A B := ⟨_, rfl⟩
       obtain ⟨cz, hcz⟩ : ∃ cz, cz = confZ A B := ⟨_, rfl⟩
       obtain ⟨ce, hce⟩ : ∃ ce, ce = confE (rankT A) (shapeT A) (rankT B) (shapeT B) := ⟨_, rfl⟩
       rw [← hcn, ← hcz] at hts hss
       rw [← hcn] at s1 t1
       rw [← hcn, ← hce]
       clear hcn hcz hce hs ht
       have q0 := u1.out.c0; have q1 := u1.out.c1; have q2 := u1.out.c2
       have r0 := u2.out.c0; have r1 := u2.out.c1; have r2 := u2.out.c2
       go_wp2_with fail
       refine ((same10_any T T _ _ _ _ _ _ E E w11 X1.out X2.out).mono fun _ _ h => BoolPost.tell (b := true) ⟨fun _ => ⟨rfl, same_refl _ (ArrP.full _ _ _ _ X1.out)⟩, fun _ => rfl⟩ h).mono ?_
       rintro e w12 ⟨rfl, hb⟩
       replace hss := Lib.hid (hss.out.below hb); replace hts := Lib.hid (hts.out.below hb)
       replace bb := Lib.hid (below_then bb.out (Nat.le_refl _) hb); replace X1 := Lib.hid (X1.out.later hb); replace u1 := Lib.hid (u1.out.later hb)
       clear q0 q1 q2 r0 r1 r2 hb X2 u2
       by_cases hE0 : E = 0
       ·subst hE0
        have hTr := Lib.hid (show RightT T 8 from by
         rw [hT'.out, ← hE'.out]
         exact two_right f 8 A B hR1.out hR2.out hF1.out.1 hF2.out.1 (twoR_zero hE'.out.symm))
        have q0 := u1.out.c0; have q1 := u1.out.c1; have q2 := u1.out.c2
        go_wp2_with fail
        refine ((right8_any T 8 _ _ _ w12 X1.out (by decide)).mono fun _ _ h => BoolPost.tell (b := true) ⟨fun _ => hTr.out, fun _ => rfl⟩ h).mono ?_
        rintro e w13 ⟨rfl, hb⟩
        replace bb := Lib.hid (below_then bb.out (Nat.le_refl _) hb); replace hss := Lib.hid (hss.out.below hb); replace hts := Lib.hid (hts.out.below hb)
        clear q0 q1 q2 hb u1 X1
        go_wp2_with fail
        refine (ints7_any so tq cn sc cn tc cz cz _ (by omega) hss.out hts.out).mono ?_
        rintro e w14 ⟨hre, hb⟩
        obtain ⟨rfl, _⟩ := hre.resolve_right fun k => k.2 ⟨rfl, fun _ _ => rfl⟩
        replace bb := Lib.hid (below_then bb.out (Nat.le_refl _) hb)
        clear hre hb hss hts
        go_wp2_with fail
        refine (hA.out _).mono ?_
        rintro e wz ⟨rfl, hb⟩
        replace bb := Lib.hid (below_then bb.out (Nat.le_refl _) hb)
        clear hb
        go_wp2_with fail
        go_ret
        exact ⟨rfl, bb.out⟩
       ·have hEn : (E != 0) = true := by rw [bne_iff_ne]; exact hE0
        clear u1 X1
        go_wp2_with fail
        refine (ints7_any so tq cn sc cn tc cz cz _ (by omega) hss.out hts.out).mono ?_
        rintro e w14 ⟨hre, hb⟩
        obtain ⟨rfl, _⟩ := hre.resolve_right fun k => k.2 ⟨rfl, fun _ _ => rfl⟩
        replace bb := Lib.hid (below_then bb.out (Nat.le_refl _) hb)
        clear hre hb hss hts
        go_wp2_with fail
        refine (hA.out _).mono ?_
        rintro e wz ⟨rfl, hb⟩
        replace bb := Lib.hid (below_then bb.out (Nat.le_refl _) hb)
        clear hb
        go_wp2_with fail
        go_ret
        exact ⟨rfl, bb.out⟩
     | false =>
      go_upto_region 3 with fail
      have q0 := x.out.c0; have q1 := x.out.c1; have q2 := x.out.c2
      have r0 := y.out.c0; have r1 := y.out.c1; have r2 := y.out.c2
      go_wp2_with fail
      refine (hT.out f A B _ _ _ _ _ _ w4 hf.out (h1.out.later bb.out) (h2.out.later bb.out) hF1.out hF2.out hR1.out hR2.out).mono ?_
      intro e w5 hp
      obtain ⟨S1, k1, kc1, l1, lc1, o1, p1, rfl, hX, hb⟩ := hp.form
      have hb' := hb.alloc hb.size (.cells #[.int .u64 S1, .slice o1 k1 kc1, .slice p1 l1 lc1] 45)
      have bb1 := below_then bb.out (Nat.le_refl _) hb'; have x1 := x.out.later hb'; have y1 := y.out.later hb'
      have X11 := hX.later ((Below.refl _ _).alloc (Nat.le_refl _) (.cells #[.int .u64 S1, .slice o1 k1 kc1, .slice p1 l1 lc1] 45))
      have u11 := Box3.new (w := w5) (B := w5.heap.size) (.int .u64 S1) (.slice o1 k1 kc1) (.slice p1 l1 lc1) 45 rfl
      obtain ⟨B1, hB1⟩ : ∃ B1, B1 = w5.heap.size := ⟨_, rfl⟩
      clear q0 q1 q2 r0 r1 r2 hb hp hX hb' bb x y
      go_upto_region 4 with fail
      rw [← hB1] at u11 ⊢
      refine told_wp (fun w' => Below w.heap.size w w' ∧ Box3 w' w.heap.size (.int .u64 S) (.slice ao n nc) (.slice co m mc) ∧ Box3 w' (w.heap.size + 1) (.int .u64 S') (.slice ao' n' nc') (.slice co' m' mc') ∧ ArrP w' (resT (twoR f 9 A B) (twoT f 9 A B)) (.int .u64 S1) (.slice o1 k1 kc1) (.slice p1 l1 lc1) ∧ Box3 w' B1 (.int .u64 S1) (.slice o1 k1 kc1) (.slice p1 l1 lc1)) ⟨bb1, x1, y1, X11, u11⟩ ?_
      clear bb1 x1 y1 hB1 X11 u11
      rintro w6 ⟨bb, x, y, X1, u1⟩
      replace bb := Lib.hid bb; replace x := Lib.hid x; replace y := Lib.hid y; replace X1 := Lib.hid X1; replace u1 := Lib.hid u1
      have q0 := x.out.c0; have q1 := x.out.c1; have q2 := x.out.c2
      have r0 := y.out.c0; have r1 := y.out.c1; have r2 := y.out.c2
      go_wp2_with fail
      refine (two10_any f A B _ _ _ _ _ _ w6 (h1.out.later bb.out) (h2.out.later bb.out) hF1.out hF2.out hR1.out hR2.out).mono ?_
      intro e w7 hp
      obtain ⟨S2, k2, kc2, l2, lc2, o2, p2, rfl, hX, hb⟩ := hp.form
      have hb' := hb.alloc hb.size (.cells #[.int .u64 S2, .slice o2 k2 kc2, .slice p2 l2 lc2] 45)
      have bb1 := below_then bb.out (Nat.le_refl _) hb'; have x1 := x.out.later hb'; have y1 := y.out.later hb'
      have u11 := u1.out.later hb'; have X11 := X1.out.later hb'
      have X21 := hX.later ((Below.refl _ _).alloc (Nat.le_refl _) (.cells #[.int .u64 S2, .slice o2 k2 kc2, .slice p2 l2 lc2] 45))
      have u21 := Box3.new (w := w7) (B := w7.heap.size) (.int .u64 S2) (.slice o2 k2 kc2) (.slice p2 l2 lc2) 45 rfl
      obtain ⟨B2, hB2⟩ : ∃ B2, B2 = w7.heap.size := ⟨_, rfl⟩
      clear q0 q1 q2 r0 r1 r2 hb hp hX hb' bb x y u1 X1
      go_upto_region 5 with fail
      rw [← hB2] at u21 ⊢
      refine told_wp (fun w' => Below w.heap.size w w' ∧ Box3 w' w.heap.size (.int .u64 S) (.slice ao n nc) (.slice co m mc) ∧ Box3 w' (w.heap.size + 1) (.int .u64 S') (.slice ao' n' nc') (.slice co' m' mc') ∧ ArrP w' (resT (twoR f 9 A B) (twoT f 9 A B)) (.int .u64 S1) (.slice o1 k1 kc1) (.slice p1 l1 lc1) ∧ Box3 w' B1 (.int .u64 S1) (.slice o1 k1 kc1) (.slice p1 l1 lc1) ∧ ArrP w' (resT (twoR f 9 A B) (twoT f 9 A B)) (.int .u64 S2) (.slice o2 k2 kc2) (.slice p2 l2 lc2) ∧ Box3 w' B2 (.int .u64 S2) (.slice o2 k2 kc2) (.slice p2 l2 lc2)) ⟨bb1, x1, y1, X11, u11, X21, u21⟩ ?_
      clear bb1 x1 y1 hB2 X11 u11 X21 u21
      rintro w8 ⟨bb, x, y, X1, u1, X2, u2⟩
      replace bb := Lib.hid bb; replace x := Lib.hid x; replace y := Lib.hid y; replace X1 := Lib.hid X1; replace u1 := Lib.hid u1; replace X2 := Lib.hid X2; replace u2 := Lib.hid u2
      have q0 := x.out.c0; have q1 := x.out.c1; have q2 := x.out.c2
      have r0 := y.out.c0; have r1 := y.out.c1; have r2 := y.out.c2
      go_wp2_with fail
      refine (hC.out A B _ _ _ _ _ _ w8 (h1.out.later bb.out) (h2.out.later bb.out) hF1.out hF2.out).mono ?_
      rintro e w9 ⟨so, sc, rfl, hs, hss, hb⟩
      have s1 := hs.1; have s2 := hs.2.1
      replace hss := Lib.hid hss
      replace bb := Lib.hid (below_then bb.out (Nat.le_refl _) hb); replace x := Lib.hid (x.out.later hb); replace y := Lib.hid (y.out.later hb); replace X1 := Lib.hid (X1.out.later hb); replace u1 := Lib.hid (u1.out.later hb); replace X2 := Lib.hid (X2.out.later hb); replace u2 := Lib.hid (u2.out.later hb)
      clear q0 q1 q2 r0 r1 r2 hb
      have q0 := x.out.c0; have q1 := x.out.c1; have q2 := x.out.c2
      have r0 := y.out.c0; have r1 := y.out.c1; have r2 := y.out.c2
      have hcf := conf10_any A B _ _ _ _ _ _ w9 (h1.out.later bb.out) (h2.out.later bb.out)
      replace hcf := Lib.hid hcf
      go_wp2_with fail
      refine hcf.out.mono ?_
      rintro e w10 ⟨tq, tc, rfl, ht, hts, hb⟩
      have t1 := ht.1; have t2 := ht.2.1
      replace hts := Lib.hid hts; replace hss := Lib.hid (hss.out.below hb)
      replace bb := Lib.hid (below_then bb.out (Nat.le_refl _) hb); replace X1 := Lib.hid (X1.out.later hb); replace u1 := Lib.hid (u1.out.later hb); replace X2 := Lib.hid (X2.out.later hb); replace u2 := Lib.hid (u2.out.later hb)
      clear q0 q1 q2 r0 r1 r2 hb x y hcf
      obtain ⟨E, hE⟩ : ∃ E, E = twoR f 9 A B := ⟨_, rfl⟩
      obtain ⟨T, hTe⟩ : ∃ T, T = resT (twoR f 9 A B) (twoT f 9 A B) := ⟨_, rfl⟩
      have hE' := Lib.hid hE; have hT' := Lib.hid hTe
      rw [← hTe] at X1 X2
      rw [← hE]
      clear hE hTe
      obtain ⟨cn, hcn⟩ : ∃ cn, cn = confN A B := ⟨_, rfl⟩
      obtain ⟨cz, hcz⟩ : ∃ cz, cz = confZ A B := ⟨_, rfl⟩
      obtain ⟨ce, hce⟩ : ∃ ce, ce = confE (rankT A) (shapeT A) (rankT B) (shapeT B) := ⟨_, rfl⟩
      rw [← hcn, ← hcz] at hts hss
      rw [← hcn] at s1 t1
      rw [← hcn, ← hce]
      clear hcn hcz hce hs ht
      have q0 := u1.out.c0; have q1 := u1.out.c1; have q2 := u1.out.c2
      have r0 := u2.out.c0; have r1 := u2.out.c1; have r2 := u2.out.c2
      go_wp2_with fail
      refine ((same10_any T T _ _ _ _ _ _ E E w10 X1.out X2.out).mono fun _ _ h => BoolPost.tell (b := true) ⟨fun _ => ⟨rfl, same_refl _ (ArrP.full _ _ _ _ X1.out)⟩, fun _ => rfl⟩ h).mono ?_
      rintro e w11 ⟨rfl, hb⟩
      replace hss := Lib.hid (hss.out.below hb); replace hts := Lib.hid (hts.out.below hb)
      replace bb := Lib.hid (below_then bb.out (Nat.le_refl _) hb); replace X1 := Lib.hid (X1.out.later hb); replace u1 := Lib.hid (u1.out.later hb)
      clear q0 q1 q2 r0 r1 r2 hb X2 u2
      by_cases hE0 : E = 0
      ·subst hE0
       have hTr := Lib.hid (show RightT T 8 from by
        rw [hT'.out, ← hE'.out]
        exact two_right f 8 A B hR1.out hR2.out hF1.out.1 hF2.out.1 (twoR_zero hE'.out.symm))
       have q0 := u1.out.c0; have q1 := u1.out.c1; have q2 := u1.out.c2
       go_wp2_with fail
       refine ((right8_any T 8 _ _ _ w11 X1.out (by decide)).mono fun _ _ h => BoolPost.tell (b := true) ⟨fun _ => hTr.out, fun _ => rfl⟩ h).mono ?_
       rintro e w12 ⟨rfl, hb⟩
       replace bb := Lib.hid (below_then bb.out (Nat.le_refl _) hb); replace hss := Lib.hid (hss.out.below hb); replace hts := Lib.hid (hts.out.below hb)
       clear q0 q1 q2 hb u1 X1
       go_wp2_with fail
       refine (ints7_any so tq cn sc cn tc cz cz _ (by omega) hss.out hts.out).mono ?_
       rintro e w13 ⟨hre, hb⟩
       obtain ⟨rfl, _⟩ := hre.resolve_right fun k => k.2 ⟨rfl, fun _ _ => rfl⟩
       replace bb := Lib.hid (below_then bb.out (Nat.le_refl _) hb)
       clear hre hb hss hts
       go_wp2_with fail
       refine (hA.out _).mono ?_
       rintro e wz ⟨rfl, hb⟩
       replace bb := Lib.hid (below_then bb.out (Nat.le_refl _) hb)
       clear hb
       go_wp2_with fail
       go_ret
       exact ⟨rfl, bb.out⟩
      ·have hEn : (E != 0) = true := by rw [bne_iff_ne]; exact hE0
       clear u1 X1
       go_wp2_with fail
       refine (ints7_any so tq cn sc cn tc cz cz _ (by omega) hss.out hts.out).mono ?_
       rintro e w13 ⟨hre, hb⟩
       obtain ⟨rfl, _⟩ := hre.resolve_right fun k => k.2 ⟨rfl, fun _ _ => rfl⟩
       replace bb := Lib.hid (below_then bb.out (Nat.le_refl _) hb)
       clear hre hb hss hts
       go_wp2_with fail
       refine (hA.out _).mono ?_
       rintro e wz ⟨rfl, hb⟩
       replace bb := Lib.hid (below_then bb.out (Nat.le_refl _) hb)
       clear hb
       go_wp2_with fail
       go_ret
       exact ⟨rfl, bb.out⟩
end Go.Proofs.YtaepelipkkmeaaaGreat
