/-
  scrimlaw10.Light: it ends with a bool.
  scrimlaw10.exponents: it ends with a bool.
  scrimlaw10.ScalarOne, walked.
  scrimlaw10.ScalarTwo, walked.
  scrimlaw10.ScalarBlind, walked.
-/
import Derived.Test.YtaepelipkkmeaaaGreatMgsA
import Derived.Test.YtaepelipkkmeaaaGreatMgsB
import Derived.Test.YtaepelipkkmeaaaGreatMgsC
import Derived.Test.YtaepelipkkmeaaaGreatMgsD
import Derived.Test.YtaepelipkkmeaaaGreatMgsE
import Derived.Test.YtaepelipkkmeaaaGreatMgsF
import Derived.Test.YtaepelipkkmeaaaGreatMgsScalarBlind1
import Derived.Test.YtaepelipkkmeaaaGreatMgsScalarBlind2
import Derived.Test.YtaepelipkkmeaaaGreatMgsScalarBlind3
import Derived.Laws.CopyOwn
import Derived.WalkKit
import Derived.WalkSpells
import Derived.WalkLawsBesides
import Derived.Lib.Hide
import Derived.Laws.AppendOwn
import Derived.Laws.OwnMore
import Derived.BigQuiet
import Derived.Deep.CutRange
import Derived.Deep.RegionHeld3
import Derived.Deep.RegionWith
import Derived.Lib.Small
import Derived.Lib.Walk
import Derived.Lib.BitFns
import Derived.Deep.QuietTactic
import Derived.Deep.LoopGhost
import Derived.OpenShut
import Derived.SizedLaws
import Derived.Deep.AppendLies
import Derived.Deep.DrawnRows
import Derived.Deep.RegionLaw
namespace Go.Proofs.YtaepelipkkmeaaaGreat

open Go.RowKit Num

def SomeBool (w : World) (e : Ending) (w' : World) : Prop := (∃ r : Bool, e = .returned (.bool r)) ∧ Below w.heap.size w w'

theorem cell_num {K : Int} {N : NumF} {C : Int} {k : Nat} {s : Bool} {d : Nat} {R : Prop} (h : CellT K N C k s d R) : RightF N ∨ zeroF N = true := by
  rcases h with ⟨_, _, _, h⟩ | ⟨_, h, _, _⟩ | ⟨_, h, _⟩
  · exact .inl h
  · exact .inr h
  · exact .inr h

set_option maxRecDepth 20000 in
set_option maxHeartbeats 16000000 in
theorem light10_any : ∀ (A : Tree) (dd : Nat) (c0 c1 c2 : Value) (w : World), ArrP w A c0 c1 c2 → RightT A dd →
    Calls Tryz.prog 23 #[.agg #[c0, c1, c2]] w (SomeBool w) := by
  intro A
  induction A with
  | leaf => intro dd c0 c1 c2 w h; exact (ArrP.leaf h).elim
  | arr S n sh m L K C N k sub ih =>
    intro dd c0 c1 c2 w h hr
    obtain ⟨rfl, hS, ⟨ao, nc, rfl, hn, _, _⟩, co, mc, rfl, hm, hc⟩ := h
    have n1 := hn.1; have n2 := hn.2.1; have n3 := hn.2.2; have m1 := hm.1; have m2 := hm.2.1; have m3 := hm.2.2
    have hr' := Lib.hid hr.2; have hc' := Lib.hid hc
    clear hc hn hm hr hS
    go_enter Tryz.func23, Tryz.ntmps23
    go_upto_region 1 with fail
    refine told_wp (fun w' => Below w.heap.size w w' ∧ Box3 w' w.heap.size (.int .u64 S) (.slice ao n nc) (.slice co m mc)) ⟨(Below.refl _ _).alloc (Nat.le_refl _) _, Box3.new _ _ _ _ rfl⟩ ?_
    rintro w1 ⟨b1, x1⟩
    have hv0 := Lib.hid b1; have hx0 := Lib.hid x1
    clear b1 x1
    go_wp2_with fail
    go_loopw [3] (fun i wr => ∃ (t : Nat), t ≤ m ∧ i = .int .i64 t ∧ Hid (Below w.heap.size w wr) ∧ Hid (Box3 wr w.heap.size (.int .u64 S) (.slice ao n nc) (.slice co m mc))) (fun i _ => m - (intOfZ i).toNat)
    case atStart => exact ⟨0, Nat.zero_le _, rfl, hv0, hx0⟩
    case round =>
      obtain ⟨t, ht, rfl, hv, hx⟩ := hrel
      clear hv0 hx0
      have z2 := hx.out.c2
      by_cases hlt : t < m
      · rcases hc'.out with h0 | ⟨b, o, rfl, hcells⟩
        · omega
        obtain ⟨e, he, q0, qL, q1, qK, ⟨q2, ⟨a1, ac, q3, ha, hsa, hla⟩, ⟨b1, bc, q4, hb', hsb, hlb⟩⟩, q5, qC, io, kc, q6, hk, hrow⟩ := hcells t hlt
        have hCT := Lib.hid (hr'.out t hlt)
        have hrow' : Hid (RowP w io (k t) fun j d0 d1 d2 => ArrP w (sub t j) d0 d1 d2) := Lib.hid hrow
        have hnum := Lib.hid (show NumP w (N t) (.bool (N t).neg) (.slice a1 (N t).an ac) (.slice b1 (N t).am bc) from ⟨rfl, ⟨a1, ac, rfl, ha, hsa, hla⟩, ⟨b1, bc, rfl, hb', hsb, hlb⟩⟩)
        have y0 := cell_below (he 0 (by decide)) hv.out; have y1 := cell_below (he 1 (by decide)) hv.out; have y2 := cell_below (he 2 (by decide)) hv.out; have y3 := cell_below (he 3 (by decide)) hv.out
        have y4 := cell_below (he 4 (by decide)) hv.out; have y5 := cell_below (he 5 (by decide)) hv.out; have y6 := cell_below (he 6 (by decide)) hv.out
        rw [q0, Nat.add_zero] at y0; rw [q1] at y1; rw [q2] at y2; rw [q3] at y3; rw [q4] at y4; rw [q5] at y5; rw [q6] at y6
        have kk1 := hk.1; have kk2 := hk.2.1
        have l1 := ha.1; have l2 := ha.2.1; have l3 := hb'.1; have l4 := hb'.2.1
        have hv2 := hv.out.alloc hv.out.size (.cells #[.int .u64 (L t), .int .i64 (K t), .bool (N t).neg, .slice a1 (N t).an ac, .slice b1 (N t).am bc, .int .i64 (C t), .slice io (k t) kc] 65)
        have hx2 := hx.out.alloc (.cells #[.int .u64 (L t), .int .i64 (K t), .bool (N t).neg, .slice a1 (N t).an ac, .slice b1 (N t).am bc, .int .i64 (C t), .slice io (k t) kc] 65)
        have hy2 := Box7.new (w := wr) (B := wr.heap.size) (.int .u64 (L t)) (.int .i64 (K t)) (.bool (N t).neg) (.slice a1 (N t).an ac) (.slice b1 (N t).am bc) (.int .i64 (C t)) (.slice io (k t) kc) 65 rfl
        obtain ⟨U, hU⟩ : ∃ U, U = wr.heap.size := ⟨_, rfl⟩
        clear hcells he q0 qL q1 qK q2 q3 q4 q5 qC q6 ha hsa hla hb' hsb hlb hk hrow
        go_upto_region 5 with fail
        rw [← hU] at hy2 ⊢
        refine told_wp (fun wx => Below w.heap.size w wx ∧ Box3 wx w.heap.size (.int .u64 S) (.slice ao n nc) (.slice (some ⟨b, o, none⟩) m mc) ∧ Box7 wx U (.int .u64 (L t)) (.int .i64 (K t)) (.bool (N t).neg) (.slice a1 (N t).an ac) (.slice b1 (N t).am bc) (.int .i64 (C t)) (.slice io (k t) kc)) ⟨hv2, hx2, hy2⟩ ?_
        clear hv hx z2 y0 y1 y2 y3 y4 y5 y6 hv2 hx2 hy2 hU
        rintro wa ⟨va, xa, ya⟩
        have p2 := ya.c2; have p3 := ya.c3; have p4 := ya.c4
        have hva := Lib.hid va; have hxa := Lib.hid xa; have hya := Lib.hid ya
        clear va xa ya
        go_wp2_with fail
        refine (small4_cell (N t) a1 b1 ac bc wa (hnum.out.below hva.out) (cell_num hCT.out)).mono ?_
        rintro e2 wb ⟨kk, r, hkk, rfl, hb⟩
        have hv := Lib.hid (below_then hva.out (Nat.le_refl _) hb); have x := Lib.hid (hxa.out.later hb); have y := Lib.hid (hya.out.later hb)
        obtain ⟨hkk1, hkk2⟩ := hkk
        clear hva hxa hya hb p2 p3 p4
        have p0 := y.out.c0; have p1 := y.out.c1; have p2 := y.out.c2; have p3 := y.out.c3; have p4 := y.out.c4; have p5 := y.out.c5; have p6 := y.out.c6
        go_upto_region 6 with fail
        go_cut [55] from 26 to 55 (fun s wx => ∃ f : Bool, s = .bool f ∧ wx = wb)
        case first =>
          by_cases h1 : 4 < (N t).an
          · have d1 : decide ((4 : Int) < ((N t).an : Int)) = true := decide_eq_true (by omega)
            by_cases h2 : 4 < (N t).am
            · have d2 : decide ((4 : Int) < ((N t).am : Int)) = true := decide_eq_true (by omega)
              cases r
              · first
                | (exfalso; omega)
                | (go_wp2_with fail; go_meet; exact ⟨_, rfl, rfl⟩)
              · by_cases h3 : 300 < kk
                · have d3 : decide ((300 : Int) < kk) = true := decide_eq_true (by omega)
                  by_cases h4 : kk < -300
                  · have d4 : decide (kk < (-300 : Int)) = true := decide_eq_true (by omega)
                    by_cases h5 : 1 < (N t).an
                    · have d5 : decide ((1 : Int) < ((N t).an : Int)) = true := decide_eq_true (by omega)
                      first
                      | (exfalso; omega)
                      | (go_wp2_with fail; go_meet; exact ⟨_, rfl, rfl⟩)
                    · have d5 : decide ((1 : Int) < ((N t).an : Int)) = false := decide_eq_false (by omega)
                      first
                      | (exfalso; omega)
                      | (go_wp2_with fail; go_meet; exact ⟨_, rfl, rfl⟩)
                  · have d4 : decide (kk < (-300 : Int)) = false := decide_eq_false (by omega)
                    by_cases h5 : 1 < (N t).an
                    · have d5 : decide ((1 : Int) < ((N t).an : Int)) = true := decide_eq_true (by omega)
                      first
                      | (exfalso; omega)
                      | (go_wp2_with fail; go_meet; exact ⟨_, rfl, rfl⟩)
                    · have d5 : decide ((1 : Int) < ((N t).an : Int)) = false := decide_eq_false (by omega)
                      first
                      | (exfalso; omega)
                      | (go_wp2_with fail; go_meet; exact ⟨_, rfl, rfl⟩)
                · have d3 : decide ((300 : Int) < kk) = false := decide_eq_false (by omega)
                  by_cases h4 : kk < -300
                  · have d4 : decide (kk < (-300 : Int)) = true := decide_eq_true (by omega)
                    by_cases h5 : 1 < (N t).an
                    · have d5 : decide ((1 : Int) < ((N t).an : Int)) = true := decide_eq_true (by omega)
                      first
                      | (exfalso; omega)
                      | (go_wp2_with fail; go_meet; exact ⟨_, rfl, rfl⟩)
                    · have d5 : decide ((1 : Int) < ((N t).an : Int)) = false := decide_eq_false (by omega)
                      first
                      | (exfalso; omega)
                      | (go_wp2_with fail; go_meet; exact ⟨_, rfl, rfl⟩)
                  · have d4 : decide (kk < (-300 : Int)) = false := decide_eq_false (by omega)
                    by_cases h5 : 1 < (N t).an
                    · have d5 : decide ((1 : Int) < ((N t).an : Int)) = true := decide_eq_true (by omega)
                      first
                      | (exfalso; omega)
                      | (go_wp2_with fail; go_meet; exact ⟨_, rfl, rfl⟩)
                    · have d5 : decide ((1 : Int) < ((N t).an : Int)) = false := decide_eq_false (by omega)
                      first
                      | (exfalso; omega)
                      | (go_wp2_with fail; go_meet; exact ⟨_, rfl, rfl⟩)
            · have d2 : decide ((4 : Int) < ((N t).am : Int)) = false := decide_eq_false (by omega)
              cases r
              · first
                | (exfalso; omega)
                | (go_wp2_with fail; go_meet; exact ⟨_, rfl, rfl⟩)
              · by_cases h3 : 300 < kk
                · have d3 : decide ((300 : Int) < kk) = true := decide_eq_true (by omega)
                  by_cases h4 : kk < -300
                  · have d4 : decide (kk < (-300 : Int)) = true := decide_eq_true (by omega)
                    by_cases h5 : 1 < (N t).an
                    · have d5 : decide ((1 : Int) < ((N t).an : Int)) = true := decide_eq_true (by omega)
                      first
                      | (exfalso; omega)
                      | (go_wp2_with fail; go_meet; exact ⟨_, rfl, rfl⟩)
                    · have d5 : decide ((1 : Int) < ((N t).an : Int)) = false := decide_eq_false (by omega)
                      first
                      | (exfalso; omega)
                      | (go_wp2_with fail; go_meet; exact ⟨_, rfl, rfl⟩)
                  · have d4 : decide (kk < (-300 : Int)) = false := decide_eq_false (by omega)
                    by_cases h5 : 1 < (N t).an
                    · have d5 : decide ((1 : Int) < ((N t).an : Int)) = true := decide_eq_true (by omega)
                      first
                      | (exfalso; omega)
                      | (go_wp2_with fail; go_meet; exact ⟨_, rfl, rfl⟩)
                    · have d5 : decide ((1 : Int) < ((N t).an : Int)) = false := decide_eq_false (by omega)
                      first
                      | (exfalso; omega)
                      | (go_wp2_with fail; go_meet; exact ⟨_, rfl, rfl⟩)
                · have d3 : decide ((300 : Int) < kk) = false := decide_eq_false (by omega)
                  by_cases h4 : kk < -300
                  · have d4 : decide (kk < (-300 : Int)) = true := decide_eq_true (by omega)
                    by_cases h5 : 1 < (N t).an
                    · have d5 : decide ((1 : Int) < ((N t).an : Int)) = true := decide_eq_true (by omega)
                      first
                      | (exfalso; omega)
                      | (go_wp2_with fail; go_meet; exact ⟨_, rfl, rfl⟩)
                    · have d5 : decide ((1 : Int) < ((N t).an : Int)) = false := decide_eq_false (by omega)
                      first
                      | (exfalso; omega)
                      | (go_wp2_with fail; go_meet; exact ⟨_, rfl, rfl⟩)
                  · have d4 : decide (kk < (-300 : Int)) = false := decide_eq_false (by omega)
                    by_cases h5 : 1 < (N t).an
                    · have d5 : decide ((1 : Int) < ((N t).an : Int)) = true := decide_eq_true (by omega)
                      first
                      | (exfalso; omega)
                      | (go_wp2_with fail; go_meet; exact ⟨_, rfl, rfl⟩)
                    · have d5 : decide ((1 : Int) < ((N t).an : Int)) = false := decide_eq_false (by omega)
                      first
                      | (exfalso; omega)
                      | (go_wp2_with fail; go_meet; exact ⟨_, rfl, rfl⟩)
          · have d1 : decide ((4 : Int) < ((N t).an : Int)) = false := decide_eq_false (by omega)
            by_cases h2 : 4 < (N t).am
            · have d2 : decide ((4 : Int) < ((N t).am : Int)) = true := decide_eq_true (by omega)
              cases r
              · first
                | (exfalso; omega)
                | (go_wp2_with fail; go_meet; exact ⟨_, rfl, rfl⟩)
              · by_cases h3 : 300 < kk
                · have d3 : decide ((300 : Int) < kk) = true := decide_eq_true (by omega)
                  by_cases h4 : kk < -300
                  · have d4 : decide (kk < (-300 : Int)) = true := decide_eq_true (by omega)
                    by_cases h5 : 1 < (N t).an
                    · have d5 : decide ((1 : Int) < ((N t).an : Int)) = true := decide_eq_true (by omega)
                      first
                      | (exfalso; omega)
                      | (go_wp2_with fail; go_meet; exact ⟨_, rfl, rfl⟩)
                    · have d5 : decide ((1 : Int) < ((N t).an : Int)) = false := decide_eq_false (by omega)
                      first
                      | (exfalso; omega)
                      | (go_wp2_with fail; go_meet; exact ⟨_, rfl, rfl⟩)
                  · have d4 : decide (kk < (-300 : Int)) = false := decide_eq_false (by omega)
                    by_cases h5 : 1 < (N t).an
                    · have d5 : decide ((1 : Int) < ((N t).an : Int)) = true := decide_eq_true (by omega)
                      first
                      | (exfalso; omega)
                      | (go_wp2_with fail; go_meet; exact ⟨_, rfl, rfl⟩)
                    · have d5 : decide ((1 : Int) < ((N t).an : Int)) = false := decide_eq_false (by omega)
                      first
                      | (exfalso; omega)
                      | (go_wp2_with fail; go_meet; exact ⟨_, rfl, rfl⟩)
                · have d3 : decide ((300 : Int) < kk) = false := decide_eq_false (by omega)
                  by_cases h4 : kk < -300
                  · have d4 : decide (kk < (-300 : Int)) = true := decide_eq_true (by omega)
                    by_cases h5 : 1 < (N t).an
                    · have d5 : decide ((1 : Int) < ((N t).an : Int)) = true := decide_eq_true (by omega)
                      first
                      | (exfalso; omega)
                      | (go_wp2_with fail; go_meet; exact ⟨_, rfl, rfl⟩)
                    · have d5 : decide ((1 : Int) < ((N t).an : Int)) = false := decide_eq_false (by omega)
                      first
                      | (exfalso; omega)
                      | (go_wp2_with fail; go_meet; exact ⟨_, rfl, rfl⟩)
                  · have d4 : decide (kk < (-300 : Int)) = false := decide_eq_false (by omega)
                    by_cases h5 : 1 < (N t).an
                    · have d5 : decide ((1 : Int) < ((N t).an : Int)) = true := decide_eq_true (by omega)
                      first
                      | (exfalso; omega)
                      | (go_wp2_with fail; go_meet; exact ⟨_, rfl, rfl⟩)
                    · have d5 : decide ((1 : Int) < ((N t).an : Int)) = false := decide_eq_false (by omega)
                      first
                      | (exfalso; omega)
                      | (go_wp2_with fail; go_meet; exact ⟨_, rfl, rfl⟩)
            · have d2 : decide ((4 : Int) < ((N t).am : Int)) = false := decide_eq_false (by omega)
              cases r
              · first
                | (exfalso; omega)
                | (go_wp2_with fail; go_meet; exact ⟨_, rfl, rfl⟩)
              · by_cases h3 : 300 < kk
                · have d3 : decide ((300 : Int) < kk) = true := decide_eq_true (by omega)
                  by_cases h4 : kk < -300
                  · have d4 : decide (kk < (-300 : Int)) = true := decide_eq_true (by omega)
                    by_cases h5 : 1 < (N t).an
                    · have d5 : decide ((1 : Int) < ((N t).an : Int)) = true := decide_eq_true (by omega)
                      first
                      | (exfalso; omega)
                      | (go_wp2_with fail; go_meet; exact ⟨_, rfl, rfl⟩)
                    · have d5 : decide ((1 : Int) < ((N t).an : Int)) = false := decide_eq_false (by omega)
                      first
                      | (exfalso; omega)
                      | (go_wp2_with fail; go_meet; exact ⟨_, rfl, rfl⟩)
                  · have d4 : decide (kk < (-300 : Int)) = false := decide_eq_false (by omega)
                    by_cases h5 : 1 < (N t).an
                    · have d5 : decide ((1 : Int) < ((N t).an : Int)) = true := decide_eq_true (by omega)
                      first
                      | (exfalso; omega)
                      | (go_wp2_with fail; go_meet; exact ⟨_, rfl, rfl⟩)
                    · have d5 : decide ((1 : Int) < ((N t).an : Int)) = false := decide_eq_false (by omega)
                      first
                      | (exfalso; omega)
                      | (go_wp2_with fail; go_meet; exact ⟨_, rfl, rfl⟩)
                · have d3 : decide ((300 : Int) < kk) = false := decide_eq_false (by omega)
                  by_cases h4 : kk < -300
                  · have d4 : decide (kk < (-300 : Int)) = true := decide_eq_true (by omega)
                    by_cases h5 : 1 < (N t).an
                    · have d5 : decide ((1 : Int) < ((N t).an : Int)) = true := decide_eq_true (by omega)
                      first
                      | (exfalso; omega)
                      | (go_wp2_with fail; go_meet; exact ⟨_, rfl, rfl⟩)
                    · have d5 : decide ((1 : Int) < ((N t).an : Int)) = false := decide_eq_false (by omega)
                      first
                      | (exfalso; omega)
                      | (go_wp2_with fail; go_meet; exact ⟨_, rfl, rfl⟩)
                  · have d4 : decide (kk < (-300 : Int)) = false := decide_eq_false (by omega)
                    by_cases h5 : 1 < (N t).an
                    · have d5 : decide ((1 : Int) < ((N t).an : Int)) = true := decide_eq_true (by omega)
                      first
                      | (exfalso; omega)
                      | (go_wp2_with fail; go_meet; exact ⟨_, rfl, rfl⟩)
                    · have d5 : decide ((1 : Int) < ((N t).an : Int)) = false := decide_eq_false (by omega)
                      first
                      | (exfalso; omega)
                      | (go_wp2_with fail; go_meet; exact ⟨_, rfl, rfl⟩)
        case rest =>
          obtain ⟨f, rfl, rfl⟩ := hcut
          cases f with
          | true =>
            go_wp2_with fail
            go_ret
            exact ⟨⟨_, rfl⟩, hv.out⟩
          | false =>
          go_upto_region 8 with fail
          go_cut [64] from 56 to 64 (fun s wx => ∃ f : Bool, s = .bool f ∧ wx = wc)
          case first =>
            cases r
            · first
              | (exfalso; omega)
              | (go_wp2_with fail; go_meet; exact ⟨_, rfl, rfl⟩)
            · by_cases h3 : 100000 < kk
              · have d3 : decide ((100000 : Int) < kk) = true := decide_eq_true (by omega)
                by_cases h4 : kk < -100000
                · have d4 : decide (kk < (-100000 : Int)) = true := decide_eq_true (by omega)
                  first
                  | (exfalso; omega)
                  | (go_wp2_with fail; go_meet; exact ⟨_, rfl, rfl⟩)
                · have d4 : decide (kk < (-100000 : Int)) = false := decide_eq_false (by omega)
                  first
                  | (exfalso; omega)
                  | (go_wp2_with fail; go_meet; exact ⟨_, rfl, rfl⟩)
              · have d3 : decide ((100000 : Int) < kk) = false := decide_eq_false (by omega)
                by_cases h4 : kk < -100000
                · have d4 : decide (kk < (-100000 : Int)) = true := decide_eq_true (by omega)
                  first
                  | (exfalso; omega)
                  | (go_wp2_with fail; go_meet; exact ⟨_, rfl, rfl⟩)
                · have d4 : decide (kk < (-100000 : Int)) = false := decide_eq_false (by omega)
                  first
                  | (exfalso; omega)
                  | (go_wp2_with fail; go_meet; exact ⟨_, rfl, rfl⟩)
          case rest =>
            obtain ⟨f, rfl, rfl⟩ := hcut
            cases f with
            | true =>
              go_wp2_with fail
              go_ret
              exact ⟨⟨_, rfl⟩, hv.out⟩
            | false =>
              go_upto_region 10 with fail
              have hyy := y
              obtain ⟨kt, hkt⟩ : ∃ kt, kt = k t := ⟨_, rfl⟩
              rw [← hkt] at hyy kk1
              have hkt' := Lib.hid hkt
              clear hkt y p0 p1 p2 p3 p4 p5 p6
              go_wp2_with fail
              go_loopw [7] (fun j wi => ∃ (u : Nat), u ≤ kt ∧ j = .int .i64 u ∧ Hid (Below w.heap.size w wi) ∧ Hid (Box3 wi w.heap.size (.int .u64 S) (.slice ao n nc) (.slice (some ⟨b, o, none⟩) m mc)) ∧ Hid (Box7 wi U (.int .u64 (L t)) (.int .i64 (K t)) (.bool (N t).neg) (.slice a1 (N t).an ac) (.slice b1 (N t).am bc) (.int .i64 (C t)) (.slice io kt kc))) (fun j _ => kt - (intOfZ j).toNat)
              case atStart => exact ⟨0, Nat.zero_le _, rfl, hv, x, hyy⟩
              case round =>
                obtain ⟨u, hu, rfl, hvi, hxi, hyi⟩ := hrel
                clear hv x hyy
                have p6 := hyi.out.c6
                by_cases hul : u < kt
                · have hku := Lib.hid (show u < k t by rw [← hkt'.out]; exact hul)
                  rcases hrow'.out with h0 | ⟨b', o', rfl, hrows⟩
                  · have := hku.out; omega
                  obtain ⟨d0, d1, d2, r0, r1, r2, r3⟩ := hrows u hku.out
                  obtain ⟨S', n', nc', m', mc', ao', co', e0, e1, e2⟩ := (ArrP.within _ _ _ _ r3).form
                  subst e0; subst e1; subst e2
                  have s0 := cell_below r0 hvi.out; have s1 := cell_below r1 hvi.out; have s2 := cell_below r2 hvi.out
                  have hA := Lib.hid (ArrP.below _ _ _ _ r3 hvi.out)
                  have hsR := Lib.hid (show RightT (sub t u) (dd - 1) from by
                    rcases hCT.out with ⟨_, _, hk0, _⟩ | ⟨_, _, hk0, _⟩ | ⟨_, _, _, hk1, _, _, hR⟩
                    · have := hku.out; omega
                    · have := hku.out; omega
                    · have hu0 : u = 0 := by have := hku.out; omega
                      rw [hu0]; exact hR)
                  clear hrows r0 r1 r2 r3
                  go_wp2_with fail
                  refine (ih t u (dd - 1) _ _ _ _ hA.out hsR.out).mono ?_
                  rintro e2 w4 ⟨⟨r, rfl⟩, hb4⟩
                  have hv4 := Lib.hid (below_then hvi.out (Nat.le_refl _) hb4); have x4 := Lib.hid (hxi.out.later hb4); have y4 := Lib.hid (hyi.out.later hb4)
                  clear hvi hxi hyi hA s0 s1 s2 p6 hb4
                  cases r
                  · go_wp2_with fail
                    go_ret
                    exact ⟨⟨_, rfl⟩, hv4.out⟩
                  · go_wp2_with fail
                    go_roundw
                    case rel => exact ⟨u + 1, by omega, by go_num, hv4, x4, y4⟩
                    case measure => simp [intOfZ]; omega
                · obtain rfl : u = kt := by omega
                  go_wp2_with fail
                  go_roundw
                  case rel => exact ⟨t + 1, by omega, by go_num, hvi, hxi⟩
                  case measure => simp [intOfZ]; omega
      · obtain rfl : t = m := by omega
        go_wp2_with fail
        go_ret
        exact ⟨⟨_, rfl⟩, hv.out⟩

end Go.Proofs.YtaepelipkkmeaaaGreat
namespace Go.Proofs.YtaepelipkkmeaaaGreat

open Go.RowKit Num

set_option maxRecDepth 20000 in
set_option maxHeartbeats 16000000 in
theorem exponents10_any : ∀ (A : Tree) (dd : Nat) (c0 c1 c2 : Value) (w : World), ArrP w A c0 c1 c2 → RightT A dd →
    Calls Tryz.prog 28 #[.agg #[c0, c1, c2]] w (SomeBool w) := by
  intro A
  induction A with
  | leaf => intro dd c0 c1 c2 w h; exact (ArrP.leaf h).elim
  | arr S n sh m L K C N k sub ih =>
    intro dd c0 c1 c2 w h hr
    obtain ⟨rfl, hS, ⟨ao, nc, rfl, hn, _, _⟩, co, mc, rfl, hm, hc⟩ := h
    have n1 := hn.1; have n2 := hn.2.1; have n3 := hn.2.2; have m1 := hm.1; have m2 := hm.2.1; have m3 := hm.2.2
    have hr' := Lib.hid hr.2; have hc' := Lib.hid hc
    clear hc hn hm hr hS
    go_enter Tryz.func28, Tryz.ntmps28
    go_upto_region 1 with fail
    refine told_wp (fun w' => Below w.heap.size w w' ∧ Box3 w' w.heap.size (.int .u64 S) (.slice ao n nc) (.slice co m mc)) ⟨(Below.refl _ _).alloc (Nat.le_refl _) _, Box3.new _ _ _ _ rfl⟩ ?_
    rintro w1 ⟨b1, x1⟩
    have hv0 := Lib.hid b1; have hx0 := Lib.hid x1
    clear b1 x1
    go_wp2_with fail
    go_loopw [3] (fun i wr => ∃ (t : Nat), t ≤ m ∧ i = .int .i64 t ∧ Hid (Below w.heap.size w wr) ∧ Hid (Box3 wr w.heap.size (.int .u64 S) (.slice ao n nc) (.slice co m mc))) (fun i _ => m - (intOfZ i).toNat)
    case atStart => exact ⟨0, Nat.zero_le _, rfl, hv0, hx0⟩
    case round =>
      obtain ⟨t, ht, rfl, hv, hx⟩ := hrel
      clear hv0 hx0
      have z2 := hx.out.c2
      by_cases hlt : t < m
      · rcases hc'.out with h0 | ⟨b, o, rfl, hcells⟩
        · omega
        obtain ⟨e, he, q0, qL, q1, qK, ⟨q2, ⟨a1, ac, q3, ha, hsa, hla⟩, ⟨b1, bc, q4, hb', hsb, hlb⟩⟩, q5, qC, io, kc, q6, hk, hrow⟩ := hcells t hlt
        have hCT := Lib.hid (hr'.out t hlt)
        have hrow' : Hid (RowP w io (k t) fun j d0 d1 d2 => ArrP w (sub t j) d0 d1 d2) := Lib.hid hrow
        have hnum := Lib.hid (show NumP w (N t) (.bool (N t).neg) (.slice a1 (N t).an ac) (.slice b1 (N t).am bc) from ⟨rfl, ⟨a1, ac, rfl, ha, hsa, hla⟩, ⟨b1, bc, rfl, hb', hsb, hlb⟩⟩)
        have y0 := cell_below (he 0 (by decide)) hv.out; have y1 := cell_below (he 1 (by decide)) hv.out; have y2 := cell_below (he 2 (by decide)) hv.out; have y3 := cell_below (he 3 (by decide)) hv.out
        have y4 := cell_below (he 4 (by decide)) hv.out; have y5 := cell_below (he 5 (by decide)) hv.out; have y6 := cell_below (he 6 (by decide)) hv.out
        rw [q0, Nat.add_zero] at y0; rw [q1] at y1; rw [q2] at y2; rw [q3] at y3; rw [q4] at y4; rw [q5] at y5; rw [q6] at y6
        have hy6 := Lib.hid (show w.cell? ⟨b, o + t * 7 + 6, none⟩ = some (.slice io (k t) kc) from by rw [he 6 (by decide), q6])
        have kk1 := hk.1; have kk2 := hk.2.1
        have l1 := ha.1; have l2 := ha.2.1; have l3 := hb'.1; have l4 := hb'.2.1
        clear hcells q0 qL q1 qK q2 q3 q4 q5 qC q6 ha hsa hla hb' hsb hlb hk hrow z2 y0 y1 y5
        have z2 := hx.out.c2
        go_wp2_with fail
        refine (small4_cell (N t) a1 b1 ac bc wr (hnum.out.below hv.out) (cell_num hCT.out)).mono ?_
        rintro e2 wb ⟨kk, r, hkk, rfl, hb⟩
        have hva := hv; have hxa := hx
        have y6b := cell_below y6 hb
        have hcell6 := Lib.hid (show ∀ wi, Below w.heap.size w wi → wi.cell? ⟨b, o + t * 7 + 6, none⟩ = some (.slice io (k t) kc) from fun wi hi => cell_below hy6.out hi)
        clear y2 y3 y4 y6 z2 he
        have hv := Lib.hid (below_then hva.out (Nat.le_refl _) hb); have x := Lib.hid (hxa.out.later hb)
        obtain ⟨hkk1, hkk2⟩ := hkk
        clear hva hxa hb
        go_upto_region 5 with fail
        go_cut [32] from 24 to 32 (fun s wx => ∃ f : Bool, s = .bool f ∧ wx = wb)
        case first =>
          cases r
          · first
            | (exfalso; omega)
            | (go_wp2_with fail; go_meet; exact ⟨_, rfl, rfl⟩)
          · by_cases h3 : 300 < kk
            · have d3 : decide ((300 : Int) < kk) = true := decide_eq_true (by omega)
              by_cases h4 : kk < -300
              · have d4 : decide (kk < (-300 : Int)) = true := decide_eq_true (by omega)
                first
                | (exfalso; omega)
                | (go_wp2_with fail; go_meet; exact ⟨_, rfl, rfl⟩)
              · have d4 : decide (kk < (-300 : Int)) = false := decide_eq_false (by omega)
                first
                | (exfalso; omega)
                | (go_wp2_with fail; go_meet; exact ⟨_, rfl, rfl⟩)
            · have d3 : decide ((300 : Int) < kk) = false := decide_eq_false (by omega)
              by_cases h4 : kk < -300
              · have d4 : decide (kk < (-300 : Int)) = true := decide_eq_true (by omega)
                first
                | (exfalso; omega)
                | (go_wp2_with fail; go_meet; exact ⟨_, rfl, rfl⟩)
              · have d4 : decide (kk < (-300 : Int)) = false := decide_eq_false (by omega)
                first
                | (exfalso; omega)
                | (go_wp2_with fail; go_meet; exact ⟨_, rfl, rfl⟩)
        case rest =>
          obtain ⟨f, rfl, rfl⟩ := hcut
          cases f with
          | true =>
            go_wp2_with fail
            go_ret
            exact ⟨⟨_, rfl⟩, hv.out⟩
          | false =>
            go_upto_region 7 with fail
            obtain ⟨kt, hkt⟩ : ∃ kt, kt = k t := ⟨_, rfl⟩
            rw [← hkt] at kk1 hcell6
            have hkt' := Lib.hid hkt
            clear hkt y6b
            go_wp2_with fail
            go_loopw [6] (fun j wi => ∃ (u : Nat), u ≤ kt ∧ j = .int .i64 u ∧ Hid (Below w.heap.size w wi) ∧ Hid (Box3 wi w.heap.size (.int .u64 S) (.slice ao n nc) (.slice (some ⟨b, o, none⟩) m mc))) (fun j _ => kt - (intOfZ j).toNat)
            case atStart => exact ⟨0, Nat.zero_le _, rfl, hv, x⟩
            case round =>
              obtain ⟨u, hu, rfl, hvi, hxi⟩ := hrel
              clear hv x
              have p6 := hcell6.out _ hvi.out; have z2 := hxi.out.c2
              by_cases hul : u < kt
              · have hku := Lib.hid (show u < k t by rw [← hkt'.out]; exact hul)
                rcases hrow'.out with h0 | ⟨b', o', rfl, hrows⟩
                · have := hku.out; omega
                obtain ⟨d0, d1, d2, r0, r1, r2, r3⟩ := hrows u hku.out
                obtain ⟨S', n', nc', m', mc', ao', co', e0, e1, e2⟩ := (ArrP.within _ _ _ _ r3).form
                subst e0; subst e1; subst e2
                have s0 := cell_below r0 hvi.out; have s1 := cell_below r1 hvi.out; have s2 := cell_below r2 hvi.out
                have hA := Lib.hid (ArrP.below _ _ _ _ r3 hvi.out)
                have hsR := Lib.hid (show RightT (sub t u) (dd - 1) from by
                  rcases hCT.out with ⟨_, _, hk0, _⟩ | ⟨_, _, hk0, _⟩ | ⟨_, _, _, hk1, _, _, hR⟩
                  · have := hku.out; omega
                  · have := hku.out; omega
                  · have hu0 : u = 0 := by have := hku.out; omega
                    rw [hu0]; exact hR)
                clear hrows r0 r1 r2 r3
                go_wp2_with fail
                refine (ih t u (dd - 1) _ _ _ _ hA.out hsR.out).mono ?_
                rintro e2 w4 ⟨⟨r, rfl⟩, hb4⟩
                have hv4 := Lib.hid (below_then hvi.out (Nat.le_refl _) hb4); have x4 := Lib.hid (hxi.out.later hb4)
                clear hvi hxi hA s0 s1 s2 p6 z2 hb4
                cases r
                · go_wp2_with fail
                  go_ret
                  exact ⟨⟨_, rfl⟩, hv4.out⟩
                · go_wp2_with fail
                  go_roundw
                  case rel => exact ⟨u + 1, by omega, by go_num, hv4, x4⟩
                  case measure => simp [intOfZ]; omega
              · obtain rfl : u = kt := by omega
                go_wp2_with fail
                go_roundw
                case rel => exact ⟨t + 1, by omega, by go_num, hvi, hxi⟩
                case measure => simp [intOfZ]; omega
      · obtain rfl : t = m := by omega
        go_wp2_with fail
        go_ret
        exact ⟨⟨_, rfl⟩, hv.out⟩

end Go.Proofs.YtaepelipkkmeaaaGreat
namespace Go.Proofs.YtaepelipkkmeaaaGreat

open Go.RowKit Num

def GoodPost (A : Tree) (w : World) (e : Ending) (w' : World) : Prop := ∃ r : Bool, e = .returned (.bool r) ∧ (r = true → FewT A ∧ RightT A 8) ∧ Below w.heap.size w w'

set_option maxRecDepth 20000 in
set_option maxHeartbeats 4000000 in
theorem good8_any (A : Tree) (c0 c1 c2 : Value) (w : World) (h : ArrP w A c0 c1 c2) : Calls Tryz.prog 22 #[.agg #[c0, c1, c2]] w (GoodPost A w) := by
  obtain ⟨S, n, nc, m, mc, ao, co, rfl, rfl, rfl⟩ := (ArrP.within _ _ _ _ h).form
  have h' := Lib.hid h
  clear h
  go_enter Tryz.func22, Tryz.ntmps22
  go_upto_region 1 with fail
  refine told_wp (fun w' => Below w.heap.size w w' ∧ Box3 w' w.heap.size (.int .u64 S) (.slice ao n nc) (.slice co m mc)) ⟨(Below.refl _ _).alloc (Nat.le_refl _) _, Box3.new _ _ _ _ rfl⟩ ?_
  rintro w0 ⟨bb, x⟩
  have q0 := x.c0; have q1 := x.c1; have q2 := x.c2
  have bb' := Lib.hid bb; have x' := Lib.hid x
  clear bb x
  go_wp2_with fail
  refine (few8_any A _ _ _ w0 (h'.out.later bb'.out)).mono ?_
  rintro e w1 ⟨⟨r, rfl, hr⟩, hb⟩
  replace bb' := Lib.hid (below_then bb'.out (Nat.le_refl _) hb); replace x' := Lib.hid (x'.out.later hb)
  clear q0 q1 q2 hb
  cases r with
  | false =>
    clear hr
    go_wp2_with fail
    go_ret
    exact ⟨false, rfl, fun h => (Bool.false_ne_true h).elim, bb'.out⟩
  | true =>
    have hF := Lib.hid (hr rfl)
    have q0 := x'.out.c0; have q1 := x'.out.c1; have q2 := x'.out.c2
    clear hr
    go_wp2_with fail
    refine (right8_any A 8 _ _ _ w1 (h'.out.later bb'.out) (by decide)).mono ?_
    rintro e w2 ⟨r, rfl, hr, hb⟩
    replace bb' := Lib.hid (below_then bb'.out (Nat.le_refl _) hb)
    have hr' := Lib.hid hr
    clear q0 q1 q2 hb hr
    go_wp2_with fail
    go_ret
    exact ⟨r, rfl, fun h => ⟨hF.out, hr'.out.1 h⟩, bb'.out⟩

end Go.Proofs.YtaepelipkkmeaaaGreat
namespace Go.Proofs.YtaepelipkkmeaaaGreat

open Go.RowKit Num

theorem twoR_zero {f : Int} {d : Nat} {A B : Tree} (h : twoR f d A B = 0) : twoE f d A B = 0 := by
  unfold twoR at h
  by_cases hm : f ∈ twosZ
  · rw [if_pos hm] at h; exact h
  · rw [if_neg hm] at h; exact absurd h (by decide)

end Go.Proofs.YtaepelipkkmeaaaGreat
namespace Go.Proofs.YtaepelipkkmeaaaGreat

open Go.RowKit Num

set_option maxRecDepth 20000 in
set_option maxHeartbeats 16000000 in
theorem blind10_walk (hA : Awake10C) (hO : OneSC) (hT : TwoSC) (f : Int) (A B C D : Tree) (o : Nat) (a0 a1 a2 b0 b1 b2 c0 c1 c2 d0 d1 d2 : Value) (w : World) (hf : IsZ f) (ha : ArrP w A a0 a1 a2) (hbb : ArrP w B b0 b1 b2) (hc : ArrP w C c0 c1 c2) (hd : ArrP w D d0 d1 d2) (ho : IsL o) :
    Calls Tryz.prog 7 #[.int .i64 f, .agg #[a0, a1, a2], .agg #[b0, b1, b2], .agg #[c0, c1, c2], .agg #[d0, d1, d2], .int .u64 o] w (Tell (.bool true) w) := by
  replace hA := Lib.hid hA; replace hO := Lib.hid hO; replace hT := Lib.hid hT; replace hf := Lib.hid hf; replace ho := Lib.hid ho
  obtain ⟨Sa, na, nca, ma, mca, aoa, coa, rfl, rfl, rfl⟩ := (ArrP.within _ _ _ _ ha).form
  obtain ⟨Sb, nb, ncb, mb, mcb, aob, cob, rfl, rfl, rfl⟩ := (ArrP.within _ _ _ _ hbb).form
  obtain ⟨Sc, nc, ncc, mc, mcc, aoc, coc, rfl, rfl, rfl⟩ := (ArrP.within _ _ _ _ hc).form
  obtain ⟨Sd, nd, ncd, md, mcd, aod, cod, rfl, rfl, rfl⟩ := (ArrP.within _ _ _ _ hd).form
  replace ha := Lib.hid ha
  replace hbb := Lib.hid hbb
  replace hc := Lib.hid hc
  replace hd := Lib.hid hd
  obtain ⟨bab, hbab⟩ := bool_of (AlikeT A B o)
  obtain ⟨bcd, hbcd⟩ := bool_of (AlikeT C D o)
  replace hbab := Lib.hid hbab; replace hbcd := Lib.hid hbcd
  go_enter Tryz.func7, Tryz.ntmps7
  go_upto_region 1 with fail
  refine told_wp (fun w' => Below w.heap.size w w' ∧ Box3 w' w.heap.size (.int .u64 Sa) (.slice aoa na nca) (.slice coa ma mca) ∧ Box3 w' (w.heap.size + 1) (.int .u64 Sb) (.slice aob nb ncb) (.slice cob mb mcb) ∧ Box3 w' (w.heap.size + 2) (.int .u64 Sc) (.slice aoc nc ncc) (.slice coc mc mcc) ∧ Box3 w' (w.heap.size + 3) (.int .u64 Sd) (.slice aod nd ncd) (.slice cod md mcd))
    ⟨(((((Below.refl _ _).alloc (Nat.le_refl _) _).alloc (by first | (simp; done) | (simp; omega)) _).alloc (by first | (simp; done) | (simp; omega)) _).alloc (by first | (simp; done) | (simp; omega)) _), ((((Box3.new _ _ _ _ rfl).alloc _).alloc _).alloc _), (((Box3.new _ _ _ _ (by first | (simp; done) | (simp; omega))).alloc _).alloc _), ((Box3.new _ _ _ _ (by first | (simp; done) | (simp; omega))).alloc _), (Box3.new _ _ _ _ (by first | (simp; done) | (simp; omega)))⟩ ?_
  rintro w0 ⟨bb, xa, xb, xc, xd⟩
  replace bb := Lib.hid bb; replace xa := Lib.hid xa; replace xb := Lib.hid xb; replace xc := Lib.hid xc; replace xd := Lib.hid xd
  have q0 := xa.out.c0; have q1 := xa.out.c1; have q2 := xa.out.c2
  go_wp2_with fail
  refine (good8_any A _ _ _ w0 (ha.out.later bb.out)).mono ?_
  rintro e w1 ⟨r, rfl, hr, hb⟩
  replace bb := Lib.hid (below_then bb.out (Nat.le_refl _) hb); replace xa := Lib.hid (xa.out.later hb); replace xb := Lib.hid (xb.out.later hb); replace xc := Lib.hid (xc.out.later hb); replace xd := Lib.hid (xd.out.later hb)
  clear q0 q1 q2 hb
  cases r with
  | false =>
    clear xa xb xc xd
    go_wp2_with fail
    refine (hA.out _).mono ?_
    rintro e wz ⟨rfl, hb⟩
    replace bb := Lib.hid (below_then bb.out (Nat.le_refl _) hb)
    clear hb
    go_wp2_with fail
    go_ret
    exact ⟨rfl, bb.out⟩
  | true =>
    obtain ⟨hF0, hR0⟩ := hr rfl
    have hFa := Lib.hid hF0; have hRa := Lib.hid hR0
    clear hr hF0 hR0
    have q0 := xb.out.c0; have q1 := xb.out.c1; have q2 := xb.out.c2
    go_wp2_with fail
    refine (good8_any B _ _ _ w1 (hbb.out.later bb.out)).mono ?_
    rintro e w2 ⟨r, rfl, hr, hb⟩
    replace bb := Lib.hid (below_then bb.out (Nat.le_refl _) hb); replace xa := Lib.hid (xa.out.later hb); replace xb := Lib.hid (xb.out.later hb); replace xc := Lib.hid (xc.out.later hb); replace xd := Lib.hid (xd.out.later hb)
    clear q0 q1 q2 hb
    cases r with
    | false =>
      clear xa xb xc xd
      go_wp2_with fail
      refine (hA.out _).mono ?_
      rintro e wz ⟨rfl, hb⟩
      replace bb := Lib.hid (below_then bb.out (Nat.le_refl _) hb)
      clear hb
      go_wp2_with fail
      go_ret
      exact ⟨rfl, bb.out⟩
    | true =>
      obtain ⟨hF0, hR0⟩ := hr rfl
      have hFb := Lib.hid hF0; have hRb := Lib.hid hR0
      clear hr hF0 hR0
      have q0 := xc.out.c0; have q1 := xc.out.c1; have q2 := xc.out.c2
      go_wp2_with fail
      refine (good8_any C _ _ _ w2 (hc.out.later bb.out)).mono ?_
      rintro e w3 ⟨r, rfl, hr, hb⟩
      replace bb := Lib.hid (below_then bb.out (Nat.le_refl _) hb); replace xa := Lib.hid (xa.out.later hb); replace xb := Lib.hid (xb.out.later hb); replace xc := Lib.hid (xc.out.later hb); replace xd := Lib.hid (xd.out.later hb)
      clear q0 q1 q2 hb
      cases r with
      | false =>
        clear xa xb xc xd
        go_wp2_with fail
        refine (hA.out _).mono ?_
        rintro e wz ⟨rfl, hb⟩
        replace bb := Lib.hid (below_then bb.out (Nat.le_refl _) hb)
        clear hb
        go_wp2_with fail
        go_ret
        exact ⟨rfl, bb.out⟩
      | true =>
        obtain ⟨hF0, hR0⟩ := hr rfl
        have hFc := Lib.hid hF0; have hRc := Lib.hid hR0
        clear hr hF0 hR0
        have q0 := xd.out.c0; have q1 := xd.out.c1; have q2 := xd.out.c2
        go_wp2_with fail
        refine (good8_any D _ _ _ w3 (hd.out.later bb.out)).mono ?_
        rintro e w4 ⟨r, rfl, hr, hb⟩
        replace bb := Lib.hid (below_then bb.out (Nat.le_refl _) hb); replace xa := Lib.hid (xa.out.later hb); replace xb := Lib.hid (xb.out.later hb); replace xc := Lib.hid (xc.out.later hb); replace xd := Lib.hid (xd.out.later hb)
        clear q0 q1 q2 hb
        cases r with
        | false =>
          clear xa xb xc xd
          go_wp2_with fail
          refine (hA.out _).mono ?_
          rintro e wz ⟨rfl, hb⟩
          replace bb := Lib.hid (below_then bb.out (Nat.le_refl _) hb)
          clear hb
          go_wp2_with fail
          go_ret
          exact ⟨rfl, bb.out⟩
        | true =>
          obtain ⟨hF0, hR0⟩ := hr rfl
          have hFd := Lib.hid hF0; have hRd := Lib.hid hR0
          clear hr hF0 hR0
          have q0 := xa.out.c0; have q1 := xa.out.c1; have q2 := xa.out.c2
          go_wp2_with fail
          refine (light10_any A 8 _ _ _ w4 (ha.out.later bb.out) hRa.out).mono ?_
          rintro e w5 ⟨⟨r, rfl⟩, hb⟩
          replace bb := Lib.hid (below_then bb.out (Nat.le_refl _) hb); replace xa := Lib.hid (xa.out.later hb); replace xb := Lib.hid (xb.out.later hb); replace xc := Lib.hid (xc.out.later hb); replace xd := Lib.hid (xd.out.later hb)
          clear q0 q1 q2 hb
          cases r with
          | false =>
            clear xa xb xc xd
            go_wp2_with fail
            refine (hA.out _).mono ?_
            rintro e wz ⟨rfl, hb⟩
            replace bb := Lib.hid (below_then bb.out (Nat.le_refl _) hb)
            clear hb
            go_wp2_with fail
            go_ret
            exact ⟨rfl, bb.out⟩
          | true =>
            have q0 := xb.out.c0; have q1 := xb.out.c1; have q2 := xb.out.c2
            go_wp2_with fail
            refine (light10_any B 8 _ _ _ w5 (hbb.out.later bb.out) hRb.out).mono ?_
            rintro e w6 ⟨⟨r, rfl⟩, hb⟩
            replace bb := Lib.hid (below_then bb.out (Nat.le_refl _) hb); replace xa := Lib.hid (xa.out.later hb); replace xb := Lib.hid (xb.out.later hb); replace xc := Lib.hid (xc.out.later hb); replace xd := Lib.hid (xd.out.later hb)
            clear q0 q1 q2 hb
            cases r with
            | false =>
              clear xa xb xc xd
              go_wp2_with fail
              refine (hA.out _).mono ?_
              rintro e wz ⟨rfl, hb⟩
              replace bb := Lib.hid (below_then bb.out (Nat.le_refl _) hb)
              clear hb
              go_wp2_with fail
              go_ret
              exact ⟨rfl, bb.out⟩
            | true =>
              have q0 := xc.out.c0; have q1 := xc.out.c1; have q2 := xc.out.c2
              go_wp2_with fail
              refine (light10_any C 8 _ _ _ w6 (hc.out.later bb.out) hRc.out).mono ?_
              rintro e w7 ⟨⟨r, rfl⟩, hb⟩
              replace bb := Lib.hid (below_then bb.out (Nat.le_refl _) hb); replace xa := Lib.hid (xa.out.later hb); replace xb := Lib.hid (xb.out.later hb); replace xc := Lib.hid (xc.out.later hb); replace xd := Lib.hid (xd.out.later hb)
              clear q0 q1 q2 hb
              cases r with
              | false =>
                clear xa xb xc xd
                go_wp2_with fail
                refine (hA.out _).mono ?_
                rintro e wz ⟨rfl, hb⟩
                replace bb := Lib.hid (below_then bb.out (Nat.le_refl _) hb)
                clear hb
                go_wp2_with fail
                go_ret
                exact ⟨rfl, bb.out⟩
              | true =>
                have q0 := xd.out.c0; have q1 := xd.out.c1; have q2 := xd.out.c2
                go_wp2_with fail
                refine (light10_any D 8 _ _ _ w7 (hd.out.later bb.out) hRd.out).mono ?_
                rintro e w8 ⟨⟨r, rfl⟩, hb⟩
                replace bb := Lib.hid (below_then bb.out (Nat.le_refl _) hb); replace xa := Lib.hid (xa.out.later hb); replace xb := Lib.hid (xb.out.later hb); replace xc := Lib.hid (xc.out.later hb); replace xd := Lib.hid (xd.out.later hb)
                clear q0 q1 q2 hb
                cases r with
                | false =>
                  clear xa xb xc xd
                  go_wp2_with fail
                  refine (hA.out _).mono ?_
                  rintro e wz ⟨rfl, hb⟩
                  replace bb := Lib.hid (below_then bb.out (Nat.le_refl _) hb)
                  clear hb
                  go_wp2_with fail
                  go_ret
                  exact ⟨rfl, bb.out⟩
                | true =>
                  go_upto_region 3 with fail
                  cases hfb : (f == 42) with
                  | true =>
                    have q0 := xc.out.c0; have q1 := xc.out.c1; have q2 := xc.out.c2
                    go_wp2_with fail
                    refine (exponents10_any C 8 _ _ _ w8 (hc.out.later bb.out) hRc.out).mono ?_
                    rintro e w9 ⟨⟨r, rfl⟩, hb⟩
                    replace bb := Lib.hid (below_then bb.out (Nat.le_refl _) hb); replace xa := Lib.hid (xa.out.later hb); replace xb := Lib.hid (xb.out.later hb); replace xc := Lib.hid (xc.out.later hb); replace xd := Lib.hid (xd.out.later hb)
                    clear q0 q1 q2 hb
                    cases r with
                    | false =>
                      clear xa xb xc xd
                      go_wp2_with fail
                      refine (hA.out _).mono ?_
                      rintro e wz ⟨rfl, hb⟩
                      replace bb := Lib.hid (below_then bb.out (Nat.le_refl _) hb)
                      clear hb
                      go_wp2_with fail
                      go_ret
                      exact ⟨rfl, bb.out⟩
                    | true =>
                      have q0 := xd.out.c0; have q1 := xd.out.c1; have q2 := xd.out.c2
                      go_wp2_with fail
                      refine (exponents10_any D 8 _ _ _ w9 (hd.out.later bb.out) hRd.out).mono ?_
                      rintro e w10 ⟨⟨r, rfl⟩, hb⟩
                      replace bb := Lib.hid (below_then bb.out (Nat.le_refl _) hb); replace xa := Lib.hid (xa.out.later hb); replace xb := Lib.hid (xb.out.later hb); replace xc := Lib.hid (xc.out.later hb); replace xd := Lib.hid (xd.out.later hb)
                      clear q0 q1 q2 hb
                      cases r with
                      | false =>
                        clear xa xb xc xd
                        go_wp2_with fail
                        refine (hA.out _).mono ?_
                        rintro e wz ⟨rfl, hb⟩
                        replace bb := Lib.hid (below_then bb.out (Nat.le_refl _) hb)
                        clear hb
                        go_wp2_with fail
                        go_ret
                        exact ⟨rfl, bb.out⟩
                      | true =>
                        have q0 := xa.out.c0; have q1 := xa.out.c1; have q2 := xa.out.c2
                        have r0 := xb.out.c0; have r1 := xb.out.c1; have r2 := xb.out.c2
                        go_wp2_with fail
                        refine ((alike9_any o ho.out A B _ _ _ _ _ _ w10 (ha.out.later bb.out) (hbb.out.later bb.out)).mono fun _ _ h => BoolPost.tell hbab.out h).mono ?_
                        rintro e w11 ⟨rfl, hb⟩
                        replace bb := Lib.hid (below_then bb.out (Nat.le_refl _) hb); replace xa := Lib.hid (xa.out.later hb); replace xb := Lib.hid (xb.out.later hb); replace xc := Lib.hid (xc.out.later hb); replace xd := Lib.hid (xd.out.later hb)
                        clear q0 q1 q2 r0 r1 r2 hb
                        cases bab with
                        | false =>
                          clear xa xb xc xd
                          go_wp2_with fail
                          refine (hA.out _).mono ?_
                          rintro e wz ⟨rfl, hb⟩
                          replace bb := Lib.hid (below_then bb.out (Nat.le_refl _) hb)
                          clear hb
                          go_wp2_with fail
                          go_ret
                          exact ⟨rfl, bb.out⟩
                        | true =>
                          have hab := Lib.hid (hbab.out.1 (by first | exact rfl | trivial))
                          have q0 := xc.out.c0; have q1 := xc.out.c1; have q2 := xc.out.c2
                          have r0 := xd.out.c0; have r1 := xd.out.c1; have r2 := xd.out.c2
                          go_wp2_with fail
                          refine ((alike9_any o ho.out C D _ _ _ _ _ _ w11 (hc.out.later bb.out) (hd.out.later bb.out)).mono fun _ _ h => BoolPost.tell hbcd.out h).mono ?_
                          rintro e w12 ⟨rfl, hb⟩
                          replace bb := Lib.hid (below_then bb.out (Nat.le_refl _) hb); replace xa := Lib.hid (xa.out.later hb); replace xb := Lib.hid (xb.out.later hb); replace xc := Lib.hid (xc.out.later hb); replace xd := Lib.hid (xd.out.later hb)
                          clear q0 q1 q2 r0 r1 r2 hb
                          cases bcd with
                          | false =>
                            clear xa xb xc xd
                            go_wp2_with fail
                            refine (hA.out _).mono ?_
                            rintro e wz ⟨rfl, hb⟩
                            replace bb := Lib.hid (below_then bb.out (Nat.le_refl _) hb)
                            clear hb
                            go_wp2_with fail
                            go_ret
                            exact ⟨rfl, bb.out⟩
                          | true =>
                            have hcd := Lib.hid (hbcd.out.1 (by first | exact rfl | trivial))
                            go_upto_region 5 with fail
                            have q0 := xa.out.c0; have q1 := xa.out.c1; have q2 := xa.out.c2
                            have r0 := xc.out.c0; have r1 := xc.out.c1; have r2 := xc.out.c2
                            go_wp2_with fail
                            refine (hT.out f A C _ _ _ _ _ _ w12 hf.out (ha.out.later bb.out) (hc.out.later bb.out) hFa.out hFc.out hRa.out hRc.out).mono ?_
                            intro e w13 hp
                            obtain ⟨S1, k1, kc1, l1, lc1, o1, p1, rfl, hX, hb⟩ := hp.form
                            have hb' := hb.alloc hb.size (.cells #[.int .u64 S1, .slice o1 k1 kc1, .slice p1 l1 lc1] 45)
                            have bb1 := below_then bb.out (Nat.le_refl _) hb'; have xa1 := xa.out.later hb'; have xb1 := xb.out.later hb'; have xd1 := xd.out.later hb'
                            have X11 := hX.later ((Below.refl _ _).alloc (Nat.le_refl _) (.cells #[.int .u64 S1, .slice o1 k1 kc1, .slice p1 l1 lc1] 45))
                            have u11 := Box3.new (w := w13) (B := w13.heap.size) (.int .u64 S1) (.slice o1 k1 kc1) (.slice p1 l1 lc1) 45 rfl
                            obtain ⟨B1, hB1⟩ : ∃ B1, B1 = w13.heap.size := ⟨_, rfl⟩
                            clear q0 q1 q2 r0 r1 r2 hb hp hX hb' bb xa xb xc xd
                            go_upto_region 6 with fail
                            rw [← hB1] at u11 ⊢
                            refine told_wp (fun w' => Below w.heap.size w w' ∧ Box3 w' w.heap.size (.int .u64 Sa) (.slice aoa na nca) (.slice coa ma mca) ∧ Box3 w' (w.heap.size + 1) (.int .u64 Sb) (.slice aob nb ncb) (.slice cob mb mcb) ∧ Box3 w' (w.heap.size + 3) (.int .u64 Sd) (.slice aod nd ncd) (.slice cod md mcd) ∧ ArrP w' (resT (twoR f 9 A C) (twoT f 9 A C)) (.int .u64 S1) (.slice o1 k1 kc1) (.slice p1 l1 lc1) ∧ Box3 w' B1 (.int .u64 S1) (.slice o1 k1 kc1) (.slice p1 l1 lc1)) ⟨bb1, xa1, xb1, xd1, X11, u11⟩ ?_
                            clear bb1 xa1 xb1 xd1 hB1 X11 u11
                            rintro w14 ⟨bb, xa, xb, xd, X1, u1⟩
                            replace bb := Lib.hid bb; replace xa := Lib.hid xa; replace xb := Lib.hid xb; replace xd := Lib.hid xd; replace X1 := Lib.hid X1; replace u1 := Lib.hid u1
                            have q0 := xb.out.c0; have q1 := xb.out.c1; have q2 := xb.out.c2
                            have r0 := xd.out.c0; have r1 := xd.out.c1; have r2 := xd.out.c2
                            go_wp2_with fail
                            refine (hT.out f B D _ _ _ _ _ _ w14 hf.out (hbb.out.later bb.out) (hd.out.later bb.out) hFb.out hFd.out hRb.out hRd.out).mono ?_
                            intro e w15 hp
                            obtain ⟨S2, k2, kc2, l2, lc2, o2, p2, rfl, hX, hb⟩ := hp.form
                            have hb' := hb.alloc hb.size (.cells #[.int .u64 S2, .slice o2 k2 kc2, .slice p2 l2 lc2] 45)
                            have bb1 := below_then bb.out (Nat.le_refl _) hb'; have xa1 := xa.out.later hb'; have xb1 := xb.out.later hb'
                            have u11 := u1.out.later hb'; have X11 := X1.out.later hb'
                            have X21 := hX.later ((Below.refl _ _).alloc (Nat.le_refl _) (.cells #[.int .u64 S2, .slice o2 k2 kc2, .slice p2 l2 lc2] 45))
                            have u21 := Box3.new (w := w15) (B := w15.heap.size) (.int .u64 S2) (.slice o2 k2 kc2) (.slice p2 l2 lc2) 45 rfl
                            obtain ⟨B2, hB2⟩ : ∃ B2, B2 = w15.heap.size := ⟨_, rfl⟩
                            clear q0 q1 q2 r0 r1 r2 hb hp hX hb' bb xa xb xd u1 X1
                            go_upto_region 7 with fail
                            rw [← hB2] at u21 ⊢
                            refine told_wp (fun w' => Below w.heap.size w w' ∧ Box3 w' w.heap.size (.int .u64 Sa) (.slice aoa na nca) (.slice coa ma mca) ∧ Box3 w' (w.heap.size + 1) (.int .u64 Sb) (.slice aob nb ncb) (.slice cob mb mcb) ∧ ArrP w' (resT (twoR f 9 A C) (twoT f 9 A C)) (.int .u64 S1) (.slice o1 k1 kc1) (.slice p1 l1 lc1) ∧ Box3 w' B1 (.int .u64 S1) (.slice o1 k1 kc1) (.slice p1 l1 lc1) ∧ ArrP w' (resT (twoR f 9 B D) (twoT f 9 B D)) (.int .u64 S2) (.slice o2 k2 kc2) (.slice p2 l2 lc2) ∧ Box3 w' B2 (.int .u64 S2) (.slice o2 k2 kc2) (.slice p2 l2 lc2)) ⟨bb1, xa1, xb1, X11, u11, X21, u21⟩ ?_
                            clear bb1 xa1 xb1 hB2 X11 u11 X21 u21
                            rintro w16 ⟨bb, xa, xb, X1, u1, X2, u2⟩
                            replace bb := Lib.hid bb; replace xa := Lib.hid xa; replace xb := Lib.hid xb; replace X1 := Lib.hid X1; replace u1 := Lib.hid u1; replace X2 := Lib.hid X2; replace u2 := Lib.hid u2
                            obtain ⟨E, hE⟩ : ∃ E, E = twoR f 9 A C := ⟨_, rfl⟩
                            obtain ⟨F, hF⟩ : ∃ F, F = twoR f 9 B D := ⟨_, rfl⟩
                            have hE' := Lib.hid hE; have hF' := Lib.hid hF
                            rw [← hE] at X1; rw [← hF] at X2
                            rw [← hE, ← hF]
                            clear hE hF
                            by_cases hE0 : E = 0
                            · subst hE0
                              by_cases hF0 : F = 0
                              · subst hF0
                                have hal := Lib.hid (two_alike f o 8 A B C D hab.out hcd.out hRa.out hRb.out hRc.out hRd.out hFa.out.1 hFb.out.1 hFc.out.1 hFd.out.1 (twoR_zero hE'.out.symm) (twoR_zero hF'.out.symm))
                                have q0 := u1.out.c0; have q1 := u1.out.c1; have q2 := u1.out.c2
                                have r0 := u2.out.c0; have r1 := u2.out.c1; have r2 := u2.out.c2
                                go_wp2_with fail
                                refine ((alike9_any o ho.out _ _ _ _ _ _ _ _ w16 X1.out X2.out).mono fun _ _ h => BoolPost.tell (b := true) ⟨fun _ => by show AlikeT (twoT f 9 A C) (twoT f 9 B D) o; exact hal.out, fun _ => rfl⟩ h).mono ?_
                                rintro e w17 ⟨rfl, hb⟩
                                replace bb := Lib.hid (below_then bb.out (Nat.le_refl _) hb); replace xa := Lib.hid (xa.out.later hb); replace xb := Lib.hid (xb.out.later hb)
                                clear q0 q1 q2 r0 r1 r2 hb
                                clear X1 X2 u1 u2 hal
                                go_upto_region 9 with fail
                                have q0 := xa.out.c0; have q1 := xa.out.c1; have q2 := xa.out.c2
                                go_wp2_with fail
                                refine (hO.out f A _ _ _ w17 hf.out (ha.out.later bb.out) hFa.out hRa.out).mono ?_
                                intro e w18 hp
                                obtain ⟨S3, k3, kc3, l3, lc3, o3, p3, rfl, hX, hb⟩ := hp.form
                                have hb' := hb.alloc hb.size (.cells #[.int .u64 S3, .slice o3 k3 kc3, .slice p3 l3 lc3] 45)
                                have bb1 := below_then bb.out (Nat.le_refl _) hb'; have xb1 := xb.out.later hb'
                                have X31 := hX.later ((Below.refl _ _).alloc (Nat.le_refl _) (.cells #[.int .u64 S3, .slice o3 k3 kc3, .slice p3 l3 lc3] 45))
                                have u31 := Box3.new (w := w18) (B := w18.heap.size) (.int .u64 S3) (.slice o3 k3 kc3) (.slice p3 l3 lc3) 45 rfl
                                obtain ⟨B3, hB3⟩ : ∃ B3, B3 = w18.heap.size := ⟨_, rfl⟩
                                clear q0 q1 q2 hb hp hX hb' bb xa xb
                                go_upto_region 10 with fail
                                rw [← hB3] at u31 ⊢
                                refine told_wp (fun w' => Below w.heap.size w w' ∧ Box3 w' (w.heap.size + 1) (.int .u64 Sb) (.slice aob nb ncb) (.slice cob mb mcb) ∧ ArrP w' (resT (oneR f A) (oneT f A)) (.int .u64 S3) (.slice o3 k3 kc3) (.slice p3 l3 lc3) ∧ Box3 w' B3 (.int .u64 S3) (.slice o3 k3 kc3) (.slice p3 l3 lc3)) ⟨bb1, xb1, X31, u31⟩ ?_
                                clear bb1 xb1 hB3 X31 u31
                                rintro w19 ⟨bb, xb, X3, u3⟩
                                replace bb := Lib.hid bb; replace xb := Lib.hid xb; replace X3 := Lib.hid X3; replace u3 := Lib.hid u3
                                have q0 := xb.out.c0; have q1 := xb.out.c1; have q2 := xb.out.c2
                                go_wp2_with fail
                                refine (hO.out f B _ _ _ w19 hf.out (hbb.out.later bb.out) hFb.out hRb.out).mono ?_
                                intro e w20 hp
                                obtain ⟨S4, k4, kc4, l4, lc4, o4, p4, rfl, hX, hb⟩ := hp.form
                                have hb' := hb.alloc hb.size (.cells #[.int .u64 S4, .slice o4 k4 kc4, .slice p4 l4 lc4] 45)
                                have bb1 := below_then bb.out (Nat.le_refl _) hb'
                                have u31 := u3.out.later hb'; have X31 := X3.out.later hb'
                                have X41 := hX.later ((Below.refl _ _).alloc (Nat.le_refl _) (.cells #[.int .u64 S4, .slice o4 k4 kc4, .slice p4 l4 lc4] 45))
                                have u41 := Box3.new (w := w20) (B := w20.heap.size) (.int .u64 S4) (.slice o4 k4 kc4) (.slice p4 l4 lc4) 45 rfl
                                obtain ⟨B4, hB4⟩ : ∃ B4, B4 = w20.heap.size := ⟨_, rfl⟩
                                clear q0 q1 q2 hb hp hX hb' bb xb u3 X3
                                go_upto_region 11 with fail
                                rw [← hB4] at u41 ⊢
                                refine told_wp (fun w' => Below w.heap.size w w' ∧ ArrP w' (resT (oneR f A) (oneT f A)) (.int .u64 S3) (.slice o3 k3 kc3) (.slice p3 l3 lc3) ∧ Box3 w' B3 (.int .u64 S3) (.slice o3 k3 kc3) (.slice p3 l3 lc3) ∧ ArrP w' (resT (oneR f B) (oneT f B)) (.int .u64 S4) (.slice o4 k4 kc4) (.slice p4 l4 lc4) ∧ Box3 w' B4 (.int .u64 S4) (.slice o4 k4 kc4) (.slice p4 l4 lc4)) ⟨bb1, X31, u31, X41, u41⟩ ?_
                                clear bb1  hB4 X31 u31 X41 u41
                                rintro w21 ⟨bb, X3, u3, X4, u4⟩
                                replace bb := Lib.hid bb; replace X3 := Lib.hid X3; replace u3 := Lib.hid u3; replace X4 := Lib.hid X4; replace u4 := Lib.hid u4
                                obtain ⟨G, hG⟩ : ∃ G, G = oneR f A := ⟨_, rfl⟩
                                obtain ⟨H, hH⟩ : ∃ H, H = oneR f B := ⟨_, rfl⟩
                                have hG' := Lib.hid hG; have hH' := Lib.hid hH
                                rw [← hG] at X3; rw [← hH] at X4
                                rw [← hG, ← hH]
                                clear hG hH
                                by_cases hG0 : G = 0
                                · subst hG0
                                  by_cases hH0 : H = 0
                                  · subst hH0
                                    have q0 := u3.out.c0; have q1 := u3.out.c1; have q2 := u3.out.c2
                                    have r0 := u4.out.c0; have r1 := u4.out.c1; have r2 := u4.out.c2
                                    go_wp2_with fail
                                    refine ((alike9_any o ho.out _ _ _ _ _ _ _ _ w21 X3.out X4.out).mono fun _ _ h => BoolPost.tell (b := true) ⟨fun _ => by show AlikeT (oneT f A) (oneT f B) o; exact one_alike f o A B hab.out, fun _ => rfl⟩ h).mono ?_
                                    rintro e w22 ⟨rfl, hb⟩
                                    replace bb := Lib.hid (below_then bb.out (Nat.le_refl _) hb)
                                    clear q0 q1 q2 r0 r1 r2 hb
                                    clear X3 X4 u3 u4
                                    go_wp2_with fail
                                    refine (hA.out _).mono ?_
                                    rintro e wz ⟨rfl, hb⟩
                                    replace bb := Lib.hid (below_then bb.out (Nat.le_refl _) hb)
                                    clear hb
                                    go_wp2_with fail
                                    go_ret
                                    exact ⟨rfl, bb.out⟩
                                  · have hn1 : (H == 0) = false := by rw [beq_eq_false_iff_ne]; exact hH0
                                    have hn2 : (H != 0) = true := by rw [bne_iff_ne]; exact hH0
                                    clear X3 X4 u3 u4
                                    go_wp2_with fail
                                    refine (hA.out _).mono ?_
                                    rintro e wz ⟨rfl, hb⟩
                                    replace bb := Lib.hid (below_then bb.out (Nat.le_refl _) hb)
                                    clear hb
                                    go_wp2_with fail
                                    go_ret
                                    exact ⟨rfl, bb.out⟩
                                · have hn1 : (G == 0) = false := by rw [beq_eq_false_iff_ne]; exact hG0
                                  have hn2 : (G != 0) = true := by rw [bne_iff_ne]; exact hG0
                                  clear X3 X4 u3 u4
                                  go_wp2_with fail
                                  refine (hA.out _).mono ?_
                                  rintro e wz ⟨rfl, hb⟩
                                  replace bb := Lib.hid (below_then bb.out (Nat.le_refl _) hb)
                                  clear hb
                                  go_wp2_with fail
                                  go_ret
                                  exact ⟨rfl, bb.out⟩
                              · have hn1 : (F == 0) = false := by rw [beq_eq_false_iff_ne]; exact hF0
                                have hn2 : (F != 0) = true := by rw [bne_iff_ne]; exact hF0
                                clear X1 X2 u1 u2
                                go_upto_region 9 with fail
                                have q0 := xa.out.c0; have q1 := xa.out.c1; have q2 := xa.out.c2
                                go_wp2_with fail
                                refine (hO.out f A _ _ _ w16 hf.out (ha.out.later bb.out) hFa.out hRa.out).mono ?_
                                intro e w17 hp
                                obtain ⟨S3, k3, kc3, l3, lc3, o3, p3, rfl, hX, hb⟩ := hp.form
                                have hb' := hb.alloc hb.size (.cells #[.int .u64 S3, .slice o3 k3 kc3, .slice p3 l3 lc3] 45)
                                have bb1 := below_then bb.out (Nat.le_refl _) hb'; have xb1 := xb.out.later hb'
                                have X31 := hX.later ((Below.refl _ _).alloc (Nat.le_refl _) (.cells #[.int .u64 S3, .slice o3 k3 kc3, .slice p3 l3 lc3] 45))
                                have u31 := Box3.new (w := w17) (B := w17.heap.size) (.int .u64 S3) (.slice o3 k3 kc3) (.slice p3 l3 lc3) 45 rfl
                                obtain ⟨B3, hB3⟩ : ∃ B3, B3 = w17.heap.size := ⟨_, rfl⟩
                                clear q0 q1 q2 hb hp hX hb' bb xa xb
                                go_upto_region 10 with fail
                                rw [← hB3] at u31 ⊢
                                refine told_wp (fun w' => Below w.heap.size w w' ∧ Box3 w' (w.heap.size + 1) (.int .u64 Sb) (.slice aob nb ncb) (.slice cob mb mcb) ∧ ArrP w' (resT (oneR f A) (oneT f A)) (.int .u64 S3) (.slice o3 k3 kc3) (.slice p3 l3 lc3) ∧ Box3 w' B3 (.int .u64 S3) (.slice o3 k3 kc3) (.slice p3 l3 lc3)) ⟨bb1, xb1, X31, u31⟩ ?_
                                clear bb1 xb1 hB3 X31 u31
                                rintro w18 ⟨bb, xb, X3, u3⟩
                                replace bb := Lib.hid bb; replace xb := Lib.hid xb; replace X3 := Lib.hid X3; replace u3 := Lib.hid u3
                                have q0 := xb.out.c0; have q1 := xb.out.c1; have q2 := xb.out.c2
                                go_wp2_with fail
                                refine (hO.out f B _ _ _ w18 hf.out (hbb.out.later bb.out) hFb.out hRb.out).mono ?_
                                intro e w19 hp
                                obtain ⟨S4, k4, kc4, l4, lc4, o4, p4, rfl, hX, hb⟩ := hp.form
                                have hb' := hb.alloc hb.size (.cells #[.int .u64 S4, .slice o4 k4 kc4, .slice p4 l4 lc4] 45)
                                have bb1 := below_then bb.out (Nat.le_refl _) hb'
                                have u31 := u3.out.later hb'; have X31 := X3.out.later hb'
                                have X41 := hX.later ((Below.refl _ _).alloc (Nat.le_refl _) (.cells #[.int .u64 S4, .slice o4 k4 kc4, .slice p4 l4 lc4] 45))
                                have u41 := Box3.new (w := w19) (B := w19.heap.size) (.int .u64 S4) (.slice o4 k4 kc4) (.slice p4 l4 lc4) 45 rfl
                                obtain ⟨B4, hB4⟩ : ∃ B4, B4 = w19.heap.size := ⟨_, rfl⟩
                                clear q0 q1 q2 hb hp hX hb' bb xb u3 X3
                                go_upto_region 11 with fail
                                rw [← hB4] at u41 ⊢
                                refine told_wp (fun w' => Below w.heap.size w w' ∧ ArrP w' (resT (oneR f A) (oneT f A)) (.int .u64 S3) (.slice o3 k3 kc3) (.slice p3 l3 lc3) ∧ Box3 w' B3 (.int .u64 S3) (.slice o3 k3 kc3) (.slice p3 l3 lc3) ∧ ArrP w' (resT (oneR f B) (oneT f B)) (.int .u64 S4) (.slice o4 k4 kc4) (.slice p4 l4 lc4) ∧ Box3 w' B4 (.int .u64 S4) (.slice o4 k4 kc4) (.slice p4 l4 lc4)) ⟨bb1, X31, u31, X41, u41⟩ ?_
                                clear bb1  hB4 X31 u31 X41 u41
                                rintro w20 ⟨bb, X3, u3, X4, u4⟩
                                replace bb := Lib.hid bb; replace X3 := Lib.hid X3; replace u3 := Lib.hid u3; replace X4 := Lib.hid X4; replace u4 := Lib.hid u4
                                obtain ⟨G, hG⟩ : ∃ G, G = oneR f A := ⟨_, rfl⟩
                                obtain ⟨H, hH⟩ : ∃ H, H = oneR f B := ⟨_, rfl⟩
                                have hG' := Lib.hid hG; have hH' := Lib.hid hH
                                rw [← hG] at X3; rw [← hH] at X4
                                rw [← hG, ← hH]
                                clear hG hH
                                by_cases hG0 : G = 0
                                · subst hG0
                                  by_cases hH0 : H = 0
                                  · subst hH0
                                    have q0 := u3.out.c0; have q1 := u3.out.c1; have q2 := u3.out.c2
                                    have r0 := u4.out.c0; have r1 := u4.out.c1; have r2 := u4.out.c2
                                    go_wp2_with fail
                                    refine ((alike9_any o ho.out _ _ _ _ _ _ _ _ w20 X3.out X4.out).mono fun _ _ h => BoolPost.tell (b := true) ⟨fun _ => by show AlikeT (oneT f A) (oneT f B) o; exact one_alike f o A B hab.out, fun _ => rfl⟩ h).mono ?_
                                    rintro e w21 ⟨rfl, hb⟩
                                    replace bb := Lib.hid (below_then bb.out (Nat.le_refl _) hb)
                                    clear q0 q1 q2 r0 r1 r2 hb
                                    clear X3 X4 u3 u4
                                    go_wp2_with fail
                                    refine (hA.out _).mono ?_
                                    rintro e wz ⟨rfl, hb⟩
                                    replace bb := Lib.hid (below_then bb.out (Nat.le_refl _) hb)
                                    clear hb
                                    go_wp2_with fail
                                    go_ret
                                    exact ⟨rfl, bb.out⟩
                                  · have hn1 : (H == 0) = false := by rw [beq_eq_false_iff_ne]; exact hH0
                                    have hn2 : (H != 0) = true := by rw [bne_iff_ne]; exact hH0
                                    clear X3 X4 u3 u4
                                    go_wp2_with fail
                                    refine (hA.out _).mono ?_
                                    rintro e wz ⟨rfl, hb⟩
                                    replace bb := Lib.hid (below_then bb.out (Nat.le_refl _) hb)
                                    clear hb
                                    go_wp2_with fail
                                    go_ret
                                    exact ⟨rfl, bb.out⟩
                                · have hn1 : (G == 0) = false := by rw [beq_eq_false_iff_ne]; exact hG0
                                  have hn2 : (G != 0) = true := by rw [bne_iff_ne]; exact hG0
                                  clear X3 X4 u3 u4
                                  go_wp2_with fail
                                  refine (hA.out _).mono ?_
                                  rintro e wz ⟨rfl, hb⟩
                                  replace bb := Lib.hid (below_then bb.out (Nat.le_refl _) hb)
                                  clear hb
                                  go_wp2_with fail
                                  go_ret
                                  exact ⟨rfl, bb.out⟩
                            · have hn1 : (E == 0) = false := by rw [beq_eq_false_iff_ne]; exact hE0
                              have hn2 : (E != 0) = true := by rw [bne_iff_ne]; exact hE0
                              clear X1 X2 u1 u2
                              go_upto_region 9 with fail
                              have q0 := xa.out.c0; have q1 := xa.out.c1; have q2 := xa.out.c2
                              go_wp2_with fail
                              refine (hO.out f A _ _ _ w16 hf.out (ha.out.later bb.out) hFa.out hRa.out).mono ?_
                              intro e w17 hp
                              obtain ⟨S3, k3, kc3, l3, lc3, o3, p3, rfl, hX, hb⟩ := hp.form
                              have hb' := hb.alloc hb.size (.cells #[.int .u64 S3, .slice o3 k3 kc3, .slice p3 l3 lc3] 45)
                              have bb1 := below_then bb.out (Nat.le_refl _) hb'; have xb1 := xb.out.later hb'
                              have X31 := hX.later ((Below.refl _ _).alloc (Nat.le_refl _) (.cells #[.int .u64 S3, .slice o3 k3 kc3, .slice p3 l3 lc3] 45))
                              have u31 := Box3.new (w := w17) (B := w17.heap.size) (.int .u64 S3) (.slice o3 k3 kc3) (.slice p3 l3 lc3) 45 rfl
                              obtain ⟨B3, hB3⟩ : ∃ B3, B3 = w17.heap.size := ⟨_, rfl⟩
                              clear q0 q1 q2 hb hp hX hb' bb xa xb
                              go_upto_region 10 with fail
                              rw [← hB3] at u31 ⊢
                              refine told_wp (fun w' => Below w.heap.size w w' ∧ Box3 w' (w.heap.size + 1) (.int .u64 Sb) (.slice aob nb ncb) (.slice cob mb mcb) ∧ ArrP w' (resT (oneR f A) (oneT f A)) (.int .u64 S3) (.slice o3 k3 kc3) (.slice p3 l3 lc3) ∧ Box3 w' B3 (.int .u64 S3) (.slice o3 k3 kc3) (.slice p3 l3 lc3)) ⟨bb1, xb1, X31, u31⟩ ?_
                              clear bb1 xb1 hB3 X31 u31
                              rintro w18 ⟨bb, xb, X3, u3⟩
                              replace bb := Lib.hid bb; replace xb := Lib.hid xb; replace X3 := Lib.hid X3; replace u3 := Lib.hid u3
                              have q0 := xb.out.c0; have q1 := xb.out.c1; have q2 := xb.out.c2
                              go_wp2_with fail
                              refine (hO.out f B _ _ _ w18 hf.out (hbb.out.later bb.out) hFb.out hRb.out).mono ?_
                              intro e w19 hp
                              obtain ⟨S4, k4, kc4, l4, lc4, o4, p4, rfl, hX, hb⟩ := hp.form
                              have hb' := hb.alloc hb.size (.cells #[.int .u64 S4, .slice o4 k4 kc4, .slice p4 l4 lc4] 45)
                              have bb1 := below_then bb.out (Nat.le_refl _) hb'
                              have u31 := u3.out.later hb'; have X31 := X3.out.later hb'
                              have X41 := hX.later ((Below.refl _ _).alloc (Nat.le_refl _) (.cells #[.int .u64 S4, .slice o4 k4 kc4, .slice p4 l4 lc4] 45))
                              have u41 := Box3.new (w := w19) (B := w19.heap.size) (.int .u64 S4) (.slice o4 k4 kc4) (.slice p4 l4 lc4) 45 rfl
                              obtain ⟨B4, hB4⟩ : ∃ B4, B4 = w19.heap.size := ⟨_, rfl⟩
                              clear q0 q1 q2 hb hp hX hb' bb xb u3 X3
                              go_upto_region 11 with fail
                              rw [← hB4] at u41 ⊢
                              refine told_wp (fun w' => Below w.heap.size w w' ∧ ArrP w' (resT (oneR f A) (oneT f A)) (.int .u64 S3) (.slice o3 k3 kc3) (.slice p3 l3 lc3) ∧ Box3 w' B3 (.int .u64 S3) (.slice o3 k3 kc3) (.slice p3 l3 lc3) ∧ ArrP w' (resT (oneR f B) (oneT f B)) (.int .u64 S4) (.slice o4 k4 kc4) (.slice p4 l4 lc4) ∧ Box3 w' B4 (.int .u64 S4) (.slice o4 k4 kc4) (.slice p4 l4 lc4)) ⟨bb1, X31, u31, X41, u41⟩ ?_
                              clear bb1  hB4 X31 u31 X41 u41
                              rintro w20 ⟨bb, X3, u3, X4, u4⟩
                              replace bb := Lib.hid bb; replace X3 := Lib.hid X3; replace u3 := Lib.hid u3; replace X4 := Lib.hid X4; replace u4 := Lib.hid u4
                              obtain ⟨G, hG⟩ : ∃ G, G = oneR f A := ⟨_, rfl⟩
                              obtain ⟨H, hH⟩ : ∃ H, H = oneR f B := ⟨_, rfl⟩
                              have hG' := Lib.hid hG; have hH' := Lib.hid hH
                              rw [← hG] at X3; rw [← hH] at X4
                              rw [← hG, ← hH]
                              clear hG hH
                              by_cases hG0 : G = 0
                              · subst hG0
                                by_cases hH0 : H = 0
                                · subst hH0
                                  have q0 := u3.out.c0; have q1 := u3.out.c1; have q2 := u3.out.c2
                                  have r0 := u4.out.c0; have r1 := u4.out.c1; have r2 := u4.out.c2
                                  go_wp2_with fail
                                  refine ((alike9_any o ho.out _ _ _ _ _ _ _ _ w20 X3.out X4.out).mono fun _ _ h => BoolPost.tell (b := true) ⟨fun _ => by show AlikeT (oneT f A) (oneT f B) o; exact one_alike f o A B hab.out, fun _ => rfl⟩ h).mono ?_
                                  rintro e w21 ⟨rfl, hb⟩
                                  replace bb := Lib.hid (below_then bb.out (Nat.le_refl _) hb)
                                  clear q0 q1 q2 r0 r1 r2 hb
                                  clear X3 X4 u3 u4
                                  go_wp2_with fail
                                  refine (hA.out _).mono ?_
                                  rintro e wz ⟨rfl, hb⟩
                                  replace bb := Lib.hid (below_then bb.out (Nat.le_refl _) hb)
                                  clear hb
                                  go_wp2_with fail
                                  go_ret
                                  exact ⟨rfl, bb.out⟩
                                · have hn1 : (H == 0) = false := by rw [beq_eq_false_iff_ne]; exact hH0
                                  have hn2 : (H != 0) = true := by rw [bne_iff_ne]; exact hH0
                                  clear X3 X4 u3 u4
                                  go_wp2_with fail
                                  refine (hA.out _).mono ?_
                                  rintro e wz ⟨rfl, hb⟩
                                  replace bb := Lib.hid (below_then bb.out (Nat.le_refl _) hb)
                                  clear hb
                                  go_wp2_with fail
                                  go_ret
                                  exact ⟨rfl, bb.out⟩
                              · have hn1 : (G == 0) = false := by rw [beq_eq_false_iff_ne]; exact hG0
                                have hn2 : (G != 0) = true := by rw [bne_iff_ne]; exact hG0
                                clear X3 X4 u3 u4
                                go_wp2_with fail
                                refine (hA.out _).mono ?_
                                rintro e wz ⟨rfl, hb⟩
                                replace bb := Lib.hid (below_then bb.out (Nat.le_refl _) hb)
                                clear hb
                                go_wp2_with fail
                                go_ret
                                exact ⟨rfl, bb.out⟩
                  | false =>
                    have q0 := xa.out.c0; have q1 := xa.out.c1; have q2 := xa.out.c2
                    have r0 := xb.out.c0; have r1 := xb.out.c1; have r2 := xb.out.c2
                    go_wp2_with fail
                    refine ((alike9_any o ho.out A B _ _ _ _ _ _ w8 (ha.out.later bb.out) (hbb.out.later bb.out)).mono fun _ _ h => BoolPost.tell hbab.out h).mono ?_
                    rintro e w9 ⟨rfl, hb⟩
                    replace bb := Lib.hid (below_then bb.out (Nat.le_refl _) hb); replace xa := Lib.hid (xa.out.later hb); replace xb := Lib.hid (xb.out.later hb); replace xc := Lib.hid (xc.out.later hb); replace xd := Lib.hid (xd.out.later hb)
                    clear q0 q1 q2 r0 r1 r2 hb
                    cases bab with
                    | false =>
                      clear xa xb xc xd
                      go_wp2_with fail
                      refine (hA.out _).mono ?_
                      rintro e wz ⟨rfl, hb⟩
                      replace bb := Lib.hid (below_then bb.out (Nat.le_refl _) hb)
                      clear hb
                      go_wp2_with fail
                      go_ret
                      exact ⟨rfl, bb.out⟩
                    | true =>
                      have hab := Lib.hid (hbab.out.1 (by first | exact rfl | trivial))
                      have q0 := xc.out.c0; have q1 := xc.out.c1; have q2 := xc.out.c2
                      have r0 := xd.out.c0; have r1 := xd.out.c1; have r2 := xd.out.c2
                      go_wp2_with fail
                      refine ((alike9_any o ho.out C D _ _ _ _ _ _ w9 (hc.out.later bb.out) (hd.out.later bb.out)).mono fun _ _ h => BoolPost.tell hbcd.out h).mono ?_
                      rintro e w10 ⟨rfl, hb⟩
                      replace bb := Lib.hid (below_then bb.out (Nat.le_refl _) hb); replace xa := Lib.hid (xa.out.later hb); replace xb := Lib.hid (xb.out.later hb); replace xc := Lib.hid (xc.out.later hb); replace xd := Lib.hid (xd.out.later hb)
                      clear q0 q1 q2 r0 r1 r2 hb
                      cases bcd with
                      | false =>
                        clear xa xb xc xd
                        go_wp2_with fail
                        refine (hA.out _).mono ?_
                        rintro e wz ⟨rfl, hb⟩
                        replace bb := Lib.hid (below_then bb.out (Nat.le_refl _) hb)
                        clear hb
                        go_wp2_with fail
                        go_ret
                        exact ⟨rfl, bb.out⟩
                      | true =>
                        have hcd := Lib.hid (hbcd.out.1 (by first | exact rfl | trivial))
                        go_upto_region 5 with fail
                        have q0 := xa.out.c0; have q1 := xa.out.c1; have q2 := xa.out.c2
                        have r0 := xc.out.c0; have r1 := xc.out.c1; have r2 := xc.out.c2
                        go_wp2_with fail
                        refine (hT.out f A C _ _ _ _ _ _ w10 hf.out (ha.out.later bb.out) (hc.out.later bb.out) hFa.out hFc.out hRa.out hRc.out).mono ?_
                        intro e w11 hp
                        obtain ⟨S1, k1, kc1, l1, lc1, o1, p1, rfl, hX, hb⟩ := hp.form
                        have hb' := hb.alloc hb.size (.cells #[.int .u64 S1, .slice o1 k1 kc1, .slice p1 l1 lc1] 45)
                        have bb1 := below_then bb.out (Nat.le_refl _) hb'; have xa1 := xa.out.later hb'; have xb1 := xb.out.later hb'; have xd1 := xd.out.later hb'
                        have X11 := hX.later ((Below.refl _ _).alloc (Nat.le_refl _) (.cells #[.int .u64 S1, .slice o1 k1 kc1, .slice p1 l1 lc1] 45))
                        have u11 := Box3.new (w := w11) (B := w11.heap.size) (.int .u64 S1) (.slice o1 k1 kc1) (.slice p1 l1 lc1) 45 rfl
                        obtain ⟨B1, hB1⟩ : ∃ B1, B1 = w11.heap.size := ⟨_, rfl⟩
                        clear q0 q1 q2 r0 r1 r2 hb hp hX hb' bb xa xb xc xd
                        go_upto_region 6 with fail
                        rw [← hB1] at u11 ⊢
                        refine told_wp (fun w' => Below w.heap.size w w' ∧ Box3 w' w.heap.size (.int .u64 Sa) (.slice aoa na nca) (.slice coa ma mca) ∧ Box3 w' (w.heap.size + 1) (.int .u64 Sb) (.slice aob nb ncb) (.slice cob mb mcb) ∧ Box3 w' (w.heap.size + 3) (.int .u64 Sd) (.slice aod nd ncd) (.slice cod md mcd) ∧ ArrP w' (resT (twoR f 9 A C) (twoT f 9 A C)) (.int .u64 S1) (.slice o1 k1 kc1) (.slice p1 l1 lc1) ∧ Box3 w' B1 (.int .u64 S1) (.slice o1 k1 kc1) (.slice p1 l1 lc1)) ⟨bb1, xa1, xb1, xd1, X11, u11⟩ ?_
                        clear bb1 xa1 xb1 xd1 hB1 X11 u11
                        rintro w12 ⟨bb, xa, xb, xd, X1, u1⟩
                        replace bb := Lib.hid bb; replace xa := Lib.hid xa; replace xb := Lib.hid xb; replace xd := Lib.hid xd; replace X1 := Lib.hid X1; replace u1 := Lib.hid u1
                        have q0 := xb.out.c0; have q1 := xb.out.c1; have q2 := xb.out.c2
                        have r0 := xd.out.c0; have r1 := xd.out.c1; have r2 := xd.out.c2
                        go_wp2_with fail
                        refine (hT.out f B D _ _ _ _ _ _ w12 hf.out (hbb.out.later bb.out) (hd.out.later bb.out) hFb.out hFd.out hRb.out hRd.out).mono ?_
                        intro e w13 hp
                        obtain ⟨S2, k2, kc2, l2, lc2, o2, p2, rfl, hX, hb⟩ := hp.form
                        have hb' := hb.alloc hb.size (.cells #[.int .u64 S2, .slice o2 k2 kc2, .slice p2 l2 lc2] 45)
                        have bb1 := below_then bb.out (Nat.le_refl _) hb'; have xa1 := xa.out.later hb'; have xb1 := xb.out.later hb'
                        have u11 := u1.out.later hb'; have X11 := X1.out.later hb'
                        have X21 := hX.later ((Below.refl _ _).alloc (Nat.le_refl _) (.cells #[.int .u64 S2, .slice o2 k2 kc2, .slice p2 l2 lc2] 45))
                        have u21 := Box3.new (w := w13) (B := w13.heap.size) (.int .u64 S2) (.slice o2 k2 kc2) (.slice p2 l2 lc2) 45 rfl
                        obtain ⟨B2, hB2⟩ : ∃ B2, B2 = w13.heap.size := ⟨_, rfl⟩
                        clear q0 q1 q2 r0 r1 r2 hb hp hX hb' bb xa xb xd u1 X1
                        go_upto_region 7 with fail
                        rw [← hB2] at u21 ⊢
                        refine told_wp (fun w' => Below w.heap.size w w' ∧ Box3 w' w.heap.size (.int .u64 Sa) (.slice aoa na nca) (.slice coa ma mca) ∧ Box3 w' (w.heap.size + 1) (.int .u64 Sb) (.slice aob nb ncb) (.slice cob mb mcb) ∧ ArrP w' (resT (twoR f 9 A C) (twoT f 9 A C)) (.int .u64 S1) (.slice o1 k1 kc1) (.slice p1 l1 lc1) ∧ Box3 w' B1 (.int .u64 S1) (.slice o1 k1 kc1) (.slice p1 l1 lc1) ∧ ArrP w' (resT (twoR f 9 B D) (twoT f 9 B D)) (.int .u64 S2) (.slice o2 k2 kc2) (.slice p2 l2 lc2) ∧ Box3 w' B2 (.int .u64 S2) (.slice o2 k2 kc2) (.slice p2 l2 lc2)) ⟨bb1, xa1, xb1, X11, u11, X21, u21⟩ ?_
                        clear bb1 xa1 xb1 hB2 X11 u11 X21 u21
                        rintro w14 ⟨bb, xa, xb, X1, u1, X2, u2⟩
                        replace bb := Lib.hid bb; replace xa := Lib.hid xa; replace xb := Lib.hid xb; replace X1 := Lib.hid X1; replace u1 := Lib.hid u1; replace X2 := Lib.hid X2; replace u2 := Lib.hid u2
                        obtain ⟨E, hE⟩ : ∃ E, E = twoR f 9 A C := ⟨_, rfl⟩
                        obtain ⟨F, hF⟩ : ∃ F, F = twoR f 9 B D := ⟨_, rfl⟩
                        have hE' := Lib.hid hE; have hF' := Lib.hid hF
                        rw [← hE] at X1; rw [← hF] at X2
                        rw [← hE, ← hF]
                        clear hE hF
                        by_cases hE0 : E = 0
                        · subst hE0
                          by_cases hF0 : F = 0
                          · subst hF0
                            have hal := Lib.hid (two_alike f o 8 A B C D hab.out hcd.out hRa.out hRb.out hRc.out hRd.out hFa.out.1 hFb.out.1 hFc.out.1 hFd.out.1 (twoR_zero hE'.out.symm) (twoR_zero hF'.out.symm))
                            have q0 := u1.out.c0; have q1 := u1.out.c1; have q2 := u1.out.c2
                            have r0 := u2.out.c0; have r1 := u2.out.c1; have r2 := u2.out.c2
                            go_wp2_with fail
                            refine ((alike9_any o ho.out _ _ _ _ _ _ _ _ w14 X1.out X2.out).mono fun _ _ h => BoolPost.tell (b := true) ⟨fun _ => by show AlikeT (twoT f 9 A C) (twoT f 9 B D) o; exact hal.out, fun _ => rfl⟩ h).mono ?_
                            rintro e w15 ⟨rfl, hb⟩
                            replace bb := Lib.hid (below_then bb.out (Nat.le_refl _) hb); replace xa := Lib.hid (xa.out.later hb); replace xb := Lib.hid (xb.out.later hb)
                            clear q0 q1 q2 r0 r1 r2 hb
                            clear X1 X2 u1 u2 hal
                            go_upto_region 9 with fail
                            have q0 := xa.out.c0; have q1 := xa.out.c1; have q2 := xa.out.c2
                            go_wp2_with fail
                            refine (hO.out f A _ _ _ w15 hf.out (ha.out.later bb.out) hFa.out hRa.out).mono ?_
                            intro e w16 hp
                            obtain ⟨S3, k3, kc3, l3, lc3, o3, p3, rfl, hX, hb⟩ := hp.form
                            have hb' := hb.alloc hb.size (.cells #[.int .u64 S3, .slice o3 k3 kc3, .slice p3 l3 lc3] 45)
                            have bb1 := below_then bb.out (Nat.le_refl _) hb'; have xb1 := xb.out.later hb'
                            have X31 := hX.later ((Below.refl _ _).alloc (Nat.le_refl _) (.cells #[.int .u64 S3, .slice o3 k3 kc3, .slice p3 l3 lc3] 45))
                            have u31 := Box3.new (w := w16) (B := w16.heap.size) (.int .u64 S3) (.slice o3 k3 kc3) (.slice p3 l3 lc3) 45 rfl
                            obtain ⟨B3, hB3⟩ : ∃ B3, B3 = w16.heap.size := ⟨_, rfl⟩
                            clear q0 q1 q2 hb hp hX hb' bb xa xb
                            go_upto_region 10 with fail
                            rw [← hB3] at u31 ⊢
                            refine told_wp (fun w' => Below w.heap.size w w' ∧ Box3 w' (w.heap.size + 1) (.int .u64 Sb) (.slice aob nb ncb) (.slice cob mb mcb) ∧ ArrP w' (resT (oneR f A) (oneT f A)) (.int .u64 S3) (.slice o3 k3 kc3) (.slice p3 l3 lc3) ∧ Box3 w' B3 (.int .u64 S3) (.slice o3 k3 kc3) (.slice p3 l3 lc3)) ⟨bb1, xb1, X31, u31⟩ ?_
                            clear bb1 xb1 hB3 X31 u31
                            rintro w17 ⟨bb, xb, X3, u3⟩
                            replace bb := Lib.hid bb; replace xb := Lib.hid xb; replace X3 := Lib.hid X3; replace u3 := Lib.hid u3
                            have q0 := xb.out.c0; have q1 := xb.out.c1; have q2 := xb.out.c2
                            go_wp2_with fail
                            refine (hO.out f B _ _ _ w17 hf.out (hbb.out.later bb.out) hFb.out hRb.out).mono ?_
                            intro e w18 hp
                            obtain ⟨S4, k4, kc4, l4, lc4, o4, p4, rfl, hX, hb⟩ := hp.form
                            have hb' := hb.alloc hb.size (.cells #[.int .u64 S4, .slice o4 k4 kc4, .slice p4 l4 lc4] 45)
                            have bb1 := below_then bb.out (Nat.le_refl _) hb'
                            have u31 := u3.out.later hb'; have X31 := X3.out.later hb'
                            have X41 := hX.later ((Below.refl _ _).alloc (Nat.le_refl _) (.cells #[.int .u64 S4, .slice o4 k4 kc4, .slice p4 l4 lc4] 45))
                            have u41 := Box3.new (w := w18) (B := w18.heap.size) (.int .u64 S4) (.slice o4 k4 kc4) (.slice p4 l4 lc4) 45 rfl
                            obtain ⟨B4, hB4⟩ : ∃ B4, B4 = w18.heap.size := ⟨_, rfl⟩
                            clear q0 q1 q2 hb hp hX hb' bb xb u3 X3
                            go_upto_region 11 with fail
                            rw [← hB4] at u41 ⊢
                            refine told_wp (fun w' => Below w.heap.size w w' ∧ ArrP w' (resT (oneR f A) (oneT f A)) (.int .u64 S3) (.slice o3 k3 kc3) (.slice p3 l3 lc3) ∧ Box3 w' B3 (.int .u64 S3) (.slice o3 k3 kc3) (.slice p3 l3 lc3) ∧ ArrP w' (resT (oneR f B) (oneT f B)) (.int .u64 S4) (.slice o4 k4 kc4) (.slice p4 l4 lc4) ∧ Box3 w' B4 (.int .u64 S4) (.slice o4 k4 kc4) (.slice p4 l4 lc4)) ⟨bb1, X31, u31, X41, u41⟩ ?_
                            clear bb1  hB4 X31 u31 X41 u41
                            rintro w19 ⟨bb, X3, u3, X4, u4⟩
                            replace bb := Lib.hid bb; replace X3 := Lib.hid X3; replace u3 := Lib.hid u3; replace X4 := Lib.hid X4; replace u4 := Lib.hid u4
                            obtain ⟨G, hG⟩ : ∃ G, G = oneR f A := ⟨_, rfl⟩
                            obtain ⟨H, hH⟩ : ∃ H, H = oneR f B := ⟨_, rfl⟩
                            have hG' := Lib.hid hG; have hH' := Lib.hid hH
                            rw [← hG] at X3; rw [← hH] at X4
                            rw [← hG, ← hH]
                            clear hG hH
                            by_cases hG0 : G = 0
                            · subst hG0
                              by_cases hH0 : H = 0
                              · subst hH0
                                have q0 := u3.out.c0; have q1 := u3.out.c1; have q2 := u3.out.c2
                                have r0 := u4.out.c0; have r1 := u4.out.c1; have r2 := u4.out.c2
                                go_wp2_with fail
                                refine ((alike9_any o ho.out _ _ _ _ _ _ _ _ w19 X3.out X4.out).mono fun _ _ h => BoolPost.tell (b := true) ⟨fun _ => by show AlikeT (oneT f A) (oneT f B) o; exact one_alike f o A B hab.out, fun _ => rfl⟩ h).mono ?_
                                rintro e w20 ⟨rfl, hb⟩
                                replace bb := Lib.hid (below_then bb.out (Nat.le_refl _) hb)
                                clear q0 q1 q2 r0 r1 r2 hb
                                clear X3 X4 u3 u4
                                go_wp2_with fail
                                refine (hA.out _).mono ?_
                                rintro e wz ⟨rfl, hb⟩
                                replace bb := Lib.hid (below_then bb.out (Nat.le_refl _) hb)
                                clear hb
                                go_wp2_with fail
                                go_ret
                                exact ⟨rfl, bb.out⟩
                              · have hn1 : (H == 0) = false := by rw [beq_eq_false_iff_ne]; exact hH0
                                have hn2 : (H != 0) = true := by rw [bne_iff_ne]; exact hH0
                                clear X3 X4 u3 u4
                                go_wp2_with fail
                                refine (hA.out _).mono ?_
                                rintro e wz ⟨rfl, hb⟩
                                replace bb := Lib.hid (below_then bb.out (Nat.le_refl _) hb)
                                clear hb
                                go_wp2_with fail
                                go_ret
                                exact ⟨rfl, bb.out⟩
                            · have hn1 : (G == 0) = false := by rw [beq_eq_false_iff_ne]; exact hG0
                              have hn2 : (G != 0) = true := by rw [bne_iff_ne]; exact hG0
                              clear X3 X4 u3 u4
                              go_wp2_with fail
                              refine (hA.out _).mono ?_
                              rintro e wz ⟨rfl, hb⟩
                              replace bb := Lib.hid (below_then bb.out (Nat.le_refl _) hb)
                              clear hb
                              go_wp2_with fail
                              go_ret
                              exact ⟨rfl, bb.out⟩
                          · have hn1 : (F == 0) = false := by rw [beq_eq_false_iff_ne]; exact hF0
                            have hn2 : (F != 0) = true := by rw [bne_iff_ne]; exact hF0
                            clear X1 X2 u1 u2
                            go_upto_region 9 with fail
                            have q0 := xa.out.c0; have q1 := xa.out.c1; have q2 := xa.out.c2
                            go_wp2_with fail
                            refine (hO.out f A _ _ _ w14 hf.out (ha.out.later bb.out) hFa.out hRa.out).mono ?_
                            intro e w15 hp
                            obtain ⟨S3, k3, kc3, l3, lc3, o3, p3, rfl, hX, hb⟩ := hp.form
                            have hb' := hb.alloc hb.size (.cells #[.int .u64 S3, .slice o3 k3 kc3, .slice p3 l3 lc3] 45)
                            have bb1 := below_then bb.out (Nat.le_refl _) hb'; have xb1 := xb.out.later hb'
                            have X31 := hX.later ((Below.refl _ _).alloc (Nat.le_refl _) (.cells #[.int .u64 S3, .slice o3 k3 kc3, .slice p3 l3 lc3] 45))
                            have u31 := Box3.new (w := w15) (B := w15.heap.size) (.int .u64 S3) (.slice o3 k3 kc3) (.slice p3 l3 lc3) 45 rfl
                            obtain ⟨B3, hB3⟩ : ∃ B3, B3 = w15.heap.size := ⟨_, rfl⟩
                            clear q0 q1 q2 hb hp hX hb' bb xa xb
                            go_upto_region 10 with fail
                            rw [← hB3] at u31 ⊢
                            refine told_wp (fun w' => Below w.heap.size w w' ∧ Box3 w' (w.heap.size + 1) (.int .u64 Sb) (.slice aob nb ncb) (.slice cob mb mcb) ∧ ArrP w' (resT (oneR f A) (oneT f A)) (.int .u64 S3) (.slice o3 k3 kc3) (.slice p3 l3 lc3) ∧ Box3 w' B3 (.int .u64 S3) (.slice o3 k3 kc3) (.slice p3 l3 lc3)) ⟨bb1, xb1, X31, u31⟩ ?_
                            clear bb1 xb1 hB3 X31 u31
                            rintro w16 ⟨bb, xb, X3, u3⟩
                            replace bb := Lib.hid bb; replace xb := Lib.hid xb; replace X3 := Lib.hid X3; replace u3 := Lib.hid u3
                            have q0 := xb.out.c0; have q1 := xb.out.c1; have q2 := xb.out.c2
                            go_wp2_with fail
                            refine (hO.out f B _ _ _ w16 hf.out (hbb.out.later bb.out) hFb.out hRb.out).mono ?_
                            intro e w17 hp
                            obtain ⟨S4, k4, kc4, l4, lc4, o4, p4, rfl, hX, hb⟩ := hp.form
                            have hb' := hb.alloc hb.size (.cells #[.int .u64 S4, .slice o4 k4 kc4, .slice p4 l4 lc4] 45)
                            have bb1 := below_then bb.out (Nat.le_refl _) hb'
                            have u31 := u3.out.later hb'; have X31 := X3.out.later hb'
                            have X41 := hX.later ((Below.refl _ _).alloc (Nat.le_refl _) (.cells #[.int .u64 S4, .slice o4 k4 kc4, .slice p4 l4 lc4] 45))
                            have u41 := Box3.new (w := w17) (B := w17.heap.size) (.int .u64 S4) (.slice o4 k4 kc4) (.slice p4 l4 lc4) 45 rfl
                            obtain ⟨B4, hB4⟩ : ∃ B4, B4 = w17.heap.size := ⟨_, rfl⟩
                            clear q0 q1 q2 hb hp hX hb' bb xb u3 X3
                            go_upto_region 11 with fail
                            rw [← hB4] at u41 ⊢
                            refine told_wp (fun w' => Below w.heap.size w w' ∧ ArrP w' (resT (oneR f A) (oneT f A)) (.int .u64 S3) (.slice o3 k3 kc3) (.slice p3 l3 lc3) ∧ Box3 w' B3 (.int .u64 S3) (.slice o3 k3 kc3) (.slice p3 l3 lc3) ∧ ArrP w' (resT (oneR f B) (oneT f B)) (.int .u64 S4) (.slice o4 k4 kc4) (.slice p4 l4 lc4) ∧ Box3 w' B4 (.int .u64 S4) (.slice o4 k4 kc4) (.slice p4 l4 lc4)) ⟨bb1, X31, u31, X41, u41⟩ ?_
                            clear bb1  hB4 X31 u31 X41 u41
                            rintro w18 ⟨bb, X3, u3, X4, u4⟩
                            replace bb := Lib.hid bb; replace X3 := Lib.hid X3; replace u3 := Lib.hid u3; replace X4 := Lib.hid X4; replace u4 := Lib.hid u4
                            obtain ⟨G, hG⟩ : ∃ G, G = oneR f A := ⟨_, rfl⟩
                            obtain ⟨H, hH⟩ : ∃ H, H = oneR f B := ⟨_, rfl⟩
                            have hG' := Lib.hid hG; have hH' := Lib.hid hH
                            rw [← hG] at X3; rw [← hH] at X4
                            rw [← hG, ← hH]
                            clear hG hH
                            by_cases hG0 : G = 0
                            · subst hG0
                              by_cases hH0 : H = 0
                              · subst hH0
                                have q0 := u3.out.c0; have q1 := u3.out.c1; have q2 := u3.out.c2
                                have r0 := u4.out.c0; have r1 := u4.out.c1; have r2 := u4.out.c2
                                go_wp2_with fail
                                refine ((alike9_any o ho.out _ _ _ _ _ _ _ _ w18 X3.out X4.out).mono fun _ _ h => BoolPost.tell (b := true) ⟨fun _ => by show AlikeT (oneT f A) (oneT f B) o; exact one_alike f o A B hab.out, fun _ => rfl⟩ h).mono ?_
                                rintro e w19 ⟨rfl, hb⟩
                                replace bb := Lib.hid (below_then bb.out (Nat.le_refl _) hb)
                                clear q0 q1 q2 r0 r1 r2 hb
                                clear X3 X4 u3 u4
                                go_wp2_with fail
                                refine (hA.out _).mono ?_
                                rintro e wz ⟨rfl, hb⟩
                                replace bb := Lib.hid (below_then bb.out (Nat.le_refl _) hb)
                                clear hb
                                go_wp2_with fail
                                go_ret
                                exact ⟨rfl, bb.out⟩
                              · have hn1 : (H == 0) = false := by rw [beq_eq_false_iff_ne]; exact hH0
                                have hn2 : (H != 0) = true := by rw [bne_iff_ne]; exact hH0
                                clear X3 X4 u3 u4
                                go_wp2_with fail
                                refine (hA.out _).mono ?_
                                rintro e wz ⟨rfl, hb⟩
                                replace bb := Lib.hid (below_then bb.out (Nat.le_refl _) hb)
                                clear hb
                                go_wp2_with fail
                                go_ret
                                exact ⟨rfl, bb.out⟩
                            · have hn1 : (G == 0) = false := by rw [beq_eq_false_iff_ne]; exact hG0
                              have hn2 : (G != 0) = true := by rw [bne_iff_ne]; exact hG0
                              clear X3 X4 u3 u4
                              go_wp2_with fail
                              refine (hA.out _).mono ?_
                              rintro e wz ⟨rfl, hb⟩
                              replace bb := Lib.hid (below_then bb.out (Nat.le_refl _) hb)
                              clear hb
                              go_wp2_with fail
                              go_ret
                              exact ⟨rfl, bb.out⟩
                        · have hn1 : (E == 0) = false := by rw [beq_eq_false_iff_ne]; exact hE0
                          have hn2 : (E != 0) = true := by rw [bne_iff_ne]; exact hE0
                          clear X1 X2 u1 u2
                          go_upto_region 9 with fail
                          have q0 := xa.out.c0; have q1 := xa.out.c1; have q2 := xa.out.c2
                          go_wp2_with fail
                          refine (hO.out f A _ _ _ w14 hf.out (ha.out.later bb.out) hFa.out hRa.out).mono ?_
                          intro e w15 hp
                          obtain ⟨S3, k3, kc3, l3, lc3, o3, p3, rfl, hX, hb⟩ := hp.form
                          have hb' := hb.alloc hb.size (.cells #[.int .u64 S3, .slice o3 k3 kc3, .slice p3 l3 lc3] 45)
                          have bb1 := below_then bb.out (Nat.le_refl _) hb'; have xb1 := xb.out.later hb'
                          have X31 := hX.later ((Below.refl _ _).alloc (Nat.le_refl _) (.cells #[.int .u64 S3, .slice o3 k3 kc3, .slice p3 l3 lc3] 45))
                          have u31 := Box3.new (w := w15) (B := w15.heap.size) (.int .u64 S3) (.slice o3 k3 kc3) (.slice p3 l3 lc3) 45 rfl
                          obtain ⟨B3, hB3⟩ : ∃ B3, B3 = w15.heap.size := ⟨_, rfl⟩
                          clear q0 q1 q2 hb hp hX hb' bb xa xb
                          go_upto_region 10 with fail
                          rw [← hB3] at u31 ⊢
                          refine told_wp (fun w' => Below w.heap.size w w' ∧ Box3 w' (w.heap.size + 1) (.int .u64 Sb) (.slice aob nb ncb) (.slice cob mb mcb) ∧ ArrP w' (resT (oneR f A) (oneT f A)) (.int .u64 S3) (.slice o3 k3 kc3) (.slice p3 l3 lc3) ∧ Box3 w' B3 (.int .u64 S3) (.slice o3 k3 kc3) (.slice p3 l3 lc3)) ⟨bb1, xb1, X31, u31⟩ ?_
                          clear bb1 xb1 hB3 X31 u31
                          rintro w16 ⟨bb, xb, X3, u3⟩
                          replace bb := Lib.hid bb; replace xb := Lib.hid xb; replace X3 := Lib.hid X3; replace u3 := Lib.hid u3
                          have q0 := xb.out.c0; have q1 := xb.out.c1; have q2 := xb.out.c2
                          go_wp2_with fail
                          refine (hO.out f B _ _ _ w16 hf.out (hbb.out.later bb.out) hFb.out hRb.out).mono ?_
                          intro e w17 hp
                          obtain ⟨S4, k4, kc4, l4, lc4, o4, p4, rfl, hX, hb⟩ := hp.form
                          have hb' := hb.alloc hb.size (.cells #[.int .u64 S4, .slice o4 k4 kc4, .slice p4 l4 lc4] 45)
                          have bb1 := below_then bb.out (Nat.le_refl _) hb'
                          have u31 := u3.out.later hb'; have X31 := X3.out.later hb'
                          have X41 := hX.later ((Below.refl _ _).alloc (Nat.le_refl _) (.cells #[.int .u64 S4, .slice o4 k4 kc4, .slice p4 l4 lc4] 45))
                          have u41 := Box3.new (w := w17) (B := w17.heap.size) (.int .u64 S4) (.slice o4 k4 kc4) (.slice p4 l4 lc4) 45 rfl
                          obtain ⟨B4, hB4⟩ : ∃ B4, B4 = w17.heap.size := ⟨_, rfl⟩
                          clear q0 q1 q2 hb hp hX hb' bb xb u3 X3
                          go_upto_region 11 with fail
                          rw [← hB4] at u41 ⊢
                          refine told_wp (fun w' => Below w.heap.size w w' ∧ ArrP w' (resT (oneR f A) (oneT f A)) (.int .u64 S3) (.slice o3 k3 kc3) (.slice p3 l3 lc3) ∧ Box3 w' B3 (.int .u64 S3) (.slice o3 k3 kc3) (.slice p3 l3 lc3) ∧ ArrP w' (resT (oneR f B) (oneT f B)) (.int .u64 S4) (.slice o4 k4 kc4) (.slice p4 l4 lc4) ∧ Box3 w' B4 (.int .u64 S4) (.slice o4 k4 kc4) (.slice p4 l4 lc4)) ⟨bb1, X31, u31, X41, u41⟩ ?_
                          clear bb1  hB4 X31 u31 X41 u41
                          rintro w18 ⟨bb, X3, u3, X4, u4⟩
                          replace bb := Lib.hid bb; replace X3 := Lib.hid X3; replace u3 := Lib.hid u3; replace X4 := Lib.hid X4; replace u4 := Lib.hid u4
                          obtain ⟨G, hG⟩ : ∃ G, G = oneR f A := ⟨_, rfl⟩
                          obtain ⟨H, hH⟩ : ∃ H, H = oneR f B := ⟨_, rfl⟩
                          have hG' := Lib.hid hG; have hH' := Lib.hid hH
                          rw [← hG] at X3; rw [← hH] at X4
                          rw [← hG, ← hH]
                          clear hG hH
                          by_cases hG0 : G = 0
                          · subst hG0
                            by_cases hH0 : H = 0
                            · subst hH0
                              have q0 := u3.out.c0; have q1 := u3.out.c1; have q2 := u3.out.c2
                              have r0 := u4.out.c0; have r1 := u4.out.c1; have r2 := u4.out.c2
                              go_wp2_with fail
                              refine ((alike9_any o ho.out _ _ _ _ _ _ _ _ w18 X3.out X4.out).mono fun _ _ h => BoolPost.tell (b := true) ⟨fun _ => by show AlikeT (oneT f A) (oneT f B) o; exact one_alike f o A B hab.out, fun _ => rfl⟩ h).mono ?_
                              rintro e w19 ⟨rfl, hb⟩
                              replace bb := Lib.hid (below_then bb.out (Nat.le_refl _) hb)
                              clear q0 q1 q2 r0 r1 r2 hb
                              clear X3 X4 u3 u4
                              go_wp2_with fail
                              refine (hA.out _).mono ?_
                              rintro e wz ⟨rfl, hb⟩
                              replace bb := Lib.hid (below_then bb.out (Nat.le_refl _) hb)
                              clear hb
                              go_wp2_with fail
                              go_ret
                              exact ⟨rfl, bb.out⟩
                            · have hn1 : (H == 0) = false := by rw [beq_eq_false_iff_ne]; exact hH0
                              have hn2 : (H != 0) = true := by rw [bne_iff_ne]; exact hH0
                              clear X3 X4 u3 u4
                              go_wp2_with fail
                              refine (hA.out _).mono ?_
                              rintro e wz ⟨rfl, hb⟩
                              replace bb := Lib.hid (below_then bb.out (Nat.le_refl _) hb)
                              clear hb
                              go_wp2_with fail
                              go_ret
                              exact ⟨rfl, bb.out⟩
                          · have hn1 : (G == 0) = false := by rw [beq_eq_false_iff_ne]; exact hG0
                            have hn2 : (G != 0) = true := by rw [bne_iff_ne]; exact hG0
                            clear X3 X4 u3 u4
                            go_wp2_with fail
                            refine (hA.out _).mono ?_
                            rintro e wz ⟨rfl, hb⟩
                            replace bb := Lib.hid (below_then bb.out (Nat.le_refl _) hb)
                            clear hb
                            go_wp2_with fail
                            go_ret
                            exact ⟨rfl, bb.out⟩

end Go.Proofs.YtaepelipkkmeaaaGreat
