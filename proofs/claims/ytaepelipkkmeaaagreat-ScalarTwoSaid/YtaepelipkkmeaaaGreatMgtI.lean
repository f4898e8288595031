/-
  array.Scalar.
  scalar.Conform, Pick.
  A row of cells that is made and then put, element by element, with what calls tell (MkR); scalar.oneCell, where One tells what is made of what is in the cell.
  scalar.One.
  scalar.Two, where twoCells tells what is made of two cells.
  scalar.twoCells, where Two tells what is made of what is in both; Two of any right arrays.
-/
import Derived.Test.YtaepelipkkmeaaaGreatMgtA
import Derived.Test.YtaepelipkkmeaaaGreatMgtB
import Derived.Test.YtaepelipkkmeaaaGreatMgtC
import Derived.Test.YtaepelipkkmeaaaGreatMgtD
import Derived.Test.YtaepelipkkmeaaaGreatMgtE
import Derived.Test.YtaepelipkkmeaaaGreatMgtF
import Derived.Test.YtaepelipkkmeaaaGreatMgtG
import Derived.Test.YtaepelipkkmeaaaGreatMgtH
import Derived.OpenShut
import Derived.SizedLaws
import Derived.Deep.LoopGhost
import Derived.WalkKit
import Derived.Lib.BitFns
import Derived.Laws.AppendOwn
import Derived.Deep.AppendLies
import Derived.Deep.RegionHeld3
import Derived.Deep.CutRange
import Derived.BigQuiet
import Derived.Deep.DrawnRows
import Derived.Laws.OwnMore
import Derived.Lib.SliceRun
import Derived.Deep.RegionWith
import Derived.WalkSpells
import Derived.WalkLawsBesides
import Derived.Lib.Hide
import Derived.Laws.CopyOwn
import Derived.Lib.Small
import Derived.Lib.Walk
import Derived.Deep.QuietTactic
import Derived.Deep.RegionLaw
set_option maxRecDepth 20000
set_option maxHeartbeats 16000000
namespace Go.Proofs.YtaepelipkkmeaaaGreat
open Go.RowKit Num
theorem isN1 : IsN 1 1 := ⟨Nat.le_refl _, by decide, by decide⟩
theorem scalarQ {w : World} {c : CellD} {Q Q' : Nat → Prop} {e : Nat → Value} {U : Nat} (t : TypeId) (h : CellRQ w Q c e) (hQ : ∀ b, Q b → b < w.heap.size → Q' b) (hU : U = w.heap.size) (hn : Q' U) :
  ArrQ (w.alloc (.cells #[e 0, e 1, e 2, e 3, e 4, e 5, e 6] t)) Q' (scalarT c) (.int .u64 ((0 : Nat) : Int)) (.slice none 0 0) (.slice (some ⟨U, 0, none⟩) 1 1) := by
 have hb : Below w.heap.size w (w.alloc (.cells #[e 0, e 1, e 2, e 3, e 4, e 5, e 6] t)) := (Below.refl _ _).alloc (Nat.le_refl _) _
 have n7 := Box7.new (w := w) (B := U) (e 0) (e 1) (e 2) (e 3) (e 4) (e 5) (e 6) t hU
 refine ⟨rfl, isL0, ⟨none, 0, rfl, isN0, .inl rfl, fun j hj => absurd hj (Nat.not_lt_zero _)⟩, _, 1, rfl, isN1, .inr ⟨U, 0, rfl, hn, fun i hi => ?_⟩⟩
 obtain rfl : i = 0 := by omega
 refine ⟨e, fun t ht => ?_, h.keep (fun b _ hlt => hb.block b hlt) hQ⟩
 have : t = 0 ∨ t = 1 ∨ t = 2 ∨ t = 3 ∨ t = 4 ∨ t = 5 ∨ t = 6 := by omega
 rcases this with rfl | rfl | rfl | rfl | rfl | rfl | rfl
 ·exact n7.c0
 ·exact n7.c1
 ·exact n7.c2
 ·exact n7.c3
 ·exact n7.c4
 ·exact n7.c5
 ·exact n7.c6
theorem scalarW (c : CellD) (e : Nat → Value) (w : World) (h : CellR w c e) (hp : partsC c ≤ 5000) :
  Calls Tryz.prog 46 #[.agg #[e 0, e 1, e 2, e 3, e 4, e 5, e 6]] w (TreeNew (scalarT c) w) := by
 have h' := Lib.hid h
 obtain ⟨p0, _, p1, _, ⟨p2, ⟨a1, ac, p3, ha, _⟩, ⟨b1, bc, p4, hb, _⟩⟩, p5, _, io, kc, p6, hk, _⟩ := h
 have n1 := ha.1; have n2 := ha.2.1; have n3 := hb.1; have n4 := hb.2.1; have n5 := hk.1; have n6 := hk.2.1
 have hv := Lib.hid (show (Value.agg #[.int .u64 c.L, .int .i64 c.K, .bool c.N.neg, .slice a1 c.N.an ac, .slice b1 c.N.am bc, .int .i64 c.C, .slice io c.k kc]) = .agg #[e 0, e 1, e 2, e 3, e 4, e 5, e 6] by rw [p0, p1, p2, p3, p4, p5, p6])
 rw [p0, p1, p2, p3, p4, p5, p6]
 have hbel := (((Below.refl w.heap.size w).alloc (Nat.le_refl _) (.cells #[.int .u64 c.L, .int .i64 c.K, .bool c.N.neg, .slice a1 c.N.an ac, .slice b1 c.N.am bc, .int .i64 c.C, .slice io c.k kc] 65)).alloc (by simp) (.cells #[.int .u64 0, .slice none 0 0, .slice none 0 0] 45))
 have hx := (Box7.new (w := w) (B := w.heap.size) (.int .u64 c.L) (.int .i64 c.K) (.bool c.N.neg) (.slice a1 c.N.an ac) (.slice b1 c.N.am bc) (.int .i64 c.C) (.slice io c.k kc) 65 rfl).alloc (.cells #[.int .u64 0, .slice none 0 0, .slice none 0 0] 45)
 have hy := Box3.new (w := w.alloc (.cells #[.int .u64 c.L, .int .i64 c.K, .bool c.N.neg, .slice a1 c.N.an ac, .slice b1 c.N.am bc, .int .i64 c.C, .slice io c.k kc] 65)) (B := w.heap.size + 1) (.int .u64 0) (.slice none 0 0) (.slice none 0 0) 45 (by simp)
 clear p0 p1 p2 p3 p4 p5 p6 ha hb hk
 go_enter Tryz.func46, Tryz.ntmps46
 go_upto_region 1 with fail
 refine told_wp (fun w' => Below w.heap.size w w' ∧ Box7 w' w.heap.size (.int .u64 c.L) (.int .i64 c.K) (.bool c.N.neg) (.slice a1 c.N.an ac) (.slice b1 c.N.am bc) (.int .i64 c.C) (.slice io c.k kc) ∧ Box3 w' (w.heap.size + 1) (.int .u64 0) (.slice none 0 0) (.slice none 0 0)) ⟨hbel, hx, hy⟩ ?_
 clear hbel hx hy
 rintro w2 ⟨b2, x2, y2⟩
 have hcall : Calls Tryz.prog 102 #[.agg #[.int .u64 c.L, .int .i64 c.K, .bool c.N.neg, .slice a1 c.N.an ac, .slice b1 c.N.am bc, .int .i64 c.C, .slice io c.k kc], .func (.func 101) #[] #[]] w2 (CellNew (mapC Md.same.g c) w2) := by rw [hv.out]; exact cellBy_any .same c e w2 (h'.out.later b2) trivial hp
 replace hcall := Lib.hid hcall
 have g0 := x2.c0; have g1 := x2.c1; have g2 := x2.c2; have g3 := x2.c3; have g4 := x2.c4; have g5 := x2.c5; have g6 := x2.c6
 have hy2 := Lib.hid y2; have hb2 := Lib.hid b2
 clear x2 y2 b2
 go_wp2_with fail
 refine hcall.out.mono ?_
 intro e1 w3 hnew
 rw [mapC_same] at hnew
 obtain ⟨bo, co', io', bc', cc', kc', rfl, hres, hb3⟩ := hnew.form
 have y3 := hy2.out.later hb3
 have hlt2 := hy2.out.lt
 have d0 := y3.c0; have d1 := y3.c1; have d2 := y3.c2
 have f0 := y3.fr 0; have f1 := y3.fr 1; have f2 := y3.fr 2
 have hsz : w.heap.size + 1 < w3.heap.size := y3.lt
 have z := y3.set (.int .u64 0) (.slice none 0 0) (.slice (some ⟨w3.heap.size, 0, none⟩) 1 1)
 have bz := below_set3 (hb2.out.trans (hb3.mono hb2.out.size)) (B := w.heap.size + 1) (by omega) (.int .u64 0) (.slice none 0 0) (.slice (some ⟨w3.heap.size, 0, none⟩) 1 1)
 have hres2 := hres.keep (Q' := (w.heap.size ≤ ·)) (w' := ((w3.setCell ⟨w.heap.size + 1, 0, none⟩ (.int .u64 0)).setCell ⟨w.heap.size + 1, 1, none⟩ (.slice none 0 0)).setCell ⟨w.heap.size + 1, 2, none⟩ (.slice (some ⟨w3.heap.size, 0, none⟩) 1 1)) (fun b hb _ => heap_set3 (by omega) _ _ _) (fun b hb _ => by omega)
 have hmade := Lib.hid (scalarQ (U := w3.heap.size) (Q' := (w.heap.size ≤ ·)) 65 hres2 (fun b hb _ => hb) (by simp) (by omega))
 have zA := z.alloc (.cells #[.int .u64 (c.L : Nat), .int .i64 c.K, .bool c.N.neg, .slice bo c.N.an bc', .slice co' c.N.am cc', .int .i64 c.C, .slice io' c.k kc'] 65)
 have e0 := zA.c0; have e1 := zA.c1; have e2 := zA.c2
 have hbw := Lib.hid (bz.alloc bz.size (.cells #[.int .u64 (c.L : Nat), .int .i64 c.K, .bool c.N.neg, .slice bo c.N.an bc', .slice co' c.N.am cc', .int .i64 c.C, .slice io' c.k kc'] 65))
 clear y3 z zA bz hres hres2 hb3 hcall hnew g0 g1 g2 g3 g4 g5 g6
 go_wp2_with fail
 refine bodyPost_ret (v := .agg #[.int .u64 0, .slice none 0 0, .slice (some ⟨w3.heap.size, 0, none⟩) 1 1]) (by simp [results, Tryz.results46, go_sem, e0, e1, e2]) rfl ?_
 exact ⟨_, _, _, rfl, hmade.out, hbw.out⟩
theorem scalar_parts {c : CellD} (h : partsT (scalarT c) ≤ 5000) : partsC c ≤ 5000 := by
 have h' : 1 + 0 + (0 + (1 + c.N.an + c.N.am + sumN (fun j => partsT (c.sub j)) c.k)) ≤ 5000 := h
 show 1 + c.N.an + c.N.am + sumN (fun j => partsT (c.sub j)) c.k ≤ 5000
 omega
theorem scalarC : ScalarC := fun c e w h hp => (scalarW c e w h (scalar_parts hp)).mono fun _ _ h => h.plain
end Go.Proofs.YtaepelipkkmeaaaGreat
namespace Go.Proofs.YtaepelipkkmeaaaGreat
open Go.RowKit Num
attribute [local go_sem ↓] Go.wp_at_zero Go.wp_at_succ
theorem fieldA1 (v0 v1 v2 : Value) (w : World) : (Instr.field 45 (.agg #[v0, v1, v2]) 1).run Tryz.prog w = .ok v1 w := by kernel_rfl
theorem fieldA2 (v0 v1 v2 : Value) (w : World) : (Instr.field 45 (.agg #[v0, v1, v2]) 2).run Tryz.prog w = .ok v2 w := by kernel_rfl
attribute [local go_sem] fieldA1 fieldA2
def ConfQ (n m : Nat) (f g : Nat → Int) (w : World) (e : Ending) (w' : World) : Prop :=
 ∃ so N nc, e = .returned (.tuple #[.slice so N nc, .int .i64 (confE n f m g)]) ∧ N = (if confE n f m g = 0 then (if n = 0 then m else n) else 0) ∧ IsN N nc ∧ SlZQ w' (w.heap.size ≤ ·) so N (if n = 0 then g else f) ∧ Below w.heap.size w w'
theorem ConfQ.no {n m : Nat} {f g : Nat → Int} {w w' : World} {E : Int} (h : confE n f m g = E) (hE : E ≠ 0) (hb : Below w.heap.size w w') : ConfQ n m f g w (.returned (.tuple #[.slice none 0 0, .int .i64 E])) w' :=
 ⟨none, 0, 0, by rw [h], by rw [if_neg (by rw [h]; exact hE)], ⟨Nat.le_refl _, by decide, by decide⟩, .inl rfl, hb⟩
theorem ConfQ.one {n m nc : Nat} {f g : Nat → Int} {w w' : World} {so : Option Addr} (h : confE n f m g = 0) (hn : n ≠ 0) (k1 : IsN n nc) (k2 : SlZQ w' (w.heap.size ≤ ·) so n f) (hb : Below w.heap.size w w') : ConfQ n m f g w (.returned (.tuple #[.slice so n nc, .int .i64 0])) w' :=
 ⟨so, n, nc, by rw [h], by rw [if_pos h, if_neg hn], k1, by rw [if_neg hn]; exact k2, hb⟩
theorem ConfQ.two {m nc : Nat} {f g : Nat → Int} {w w' : World} {so : Option Addr} (k1 : IsN m nc) (k2 : SlZQ w' (w.heap.size ≤ ·) so m g) (hb : Below w.heap.size w w') : ConfQ 0 m f g w (.returned (.tuple #[.slice so m nc, .int .i64 0])) w' :=
 ⟨so, m, nc, rfl, rfl, k1, k2, hb⟩
theorem conformP_any (S S' : Nat) (ao bo co eo : Option Addr) (n nc m mc ck cl dk dl : Nat) (f g : Nat → Int) (w : World) (hn : IsN n nc) (hm : IsN m mc) (hn6 : n ≤ 6000) (hm6 : m ≤ 6000) (hf : SlZ w ao n f) (hg : SlZ w bo m g) :
  Calls Tryz.prog 31 #[.agg #[.int .u64 S, .slice ao n nc, .slice co ck cl], .agg #[.int .u64 S', .slice bo m mc, .slice eo dk dl]] w (ConfQ n m f g w) := by
 have n1 := hn.1; have n2 := hn.2.1; have n3 := hn.2.2; have m1 := hm.1; have m2 := hm.2.1; have m3 := hm.2.2
 replace hf := Lib.hid hf; replace hg := Lib.hid hg
 clear hn hm
 go_enter Tryz.func31, Tryz.ntmps31
 go_upto_region 1 with fail
 refine told_wp (fun w' => Below w.heap.size w w' ∧ Box3 w' w.heap.size (.int .u64 S) (.slice ao n nc) (.slice co ck cl) ∧ Box3 w' (w.heap.size + 1) (.int .u64 S') (.slice bo m mc) (.slice eo dk dl))
  ⟨((Below.refl _ _).alloc (Nat.le_refl _) _).alloc (by simp) _, (Box3.new _ _ _ _ rfl).alloc _, Box3.new _ _ _ _ (by simp)⟩ ?_
 rintro w1 ⟨bb, X, Y⟩
 have p1 := X.c1; have q1 := Y.c1
 replace bb := Lib.hid bb; replace X := Lib.hid X; replace Y := Lib.hid Y
 by_cases h0 : n = 0
 ·subst h0
  clear p1 q1
  have p1 := X.out.c1
  have x0 := X.out.c0; have x1 := X.out.c1; have x2 := X.out.c2; have y0 := Y.out.c0; have y1 := Y.out.c1; have y2 := Y.out.c2
  go_wp2_with fail
  refine (leading_two S S' 0 nc ck cl m mc dk dl ao co bo eo _ n2 rfl).mono ?_
  rintro e w3 ⟨rfl, hb3⟩
  have hsz := Lib.hid bb.out.size; have hb3s := Lib.hid hb3.size
  replace bb := Lib.hid (below_then bb.out (Nat.le_refl _) hb3)
  have hcl := Lib.hid (cloneI_any bo m mc (intCells g m) w3 hm6 (by rw [intCells_length, Nat.mul_one]) (hg.out.below bb.out).lies (intCells_one _ _))
  clear hb3 x0 x1 x2 y0 y1 y2 X Y
  go_wp2_with fail
  refine hcl.out.mono ?_
  rintro e w4 ⟨po, pc, rfl, hr, hb4⟩
  replace bb := Lib.hid (below_then bb.out (Nat.le_refl _) hb4)
  obtain ⟨hpn, hpq0⟩ := hr.slzQ hm6
  have hpq := Lib.hid (hpq0.keep (w' := w4) (Q' := (w.heap.size ≤ ·)) (fun _ _ _ => rfl) (fun b hb _ => Nat.le_trans hsz.out (Nat.le_trans hb3s.out hb)))
  replace hpn := Lib.hid hpn
  clear hr hb4 hpq0 hcl
  go_wp2_with fail
  go_ret2
  exact ConfQ.two hpn.out hpq.out bb.out
 have d0 : decide ((0 : Int) < (n : Int)) = true := decide_eq_true (by omega)
 have hn0 := Lib.hid (show 0 < n by omega)
 by_cases g0 : m = 0
 ·subst g0
  have he := Lib.hid (show confE n f 0 g = 0 from by unfold confE; rw [if_neg h0, if_pos rfl])
  clear p1 q1 h0
  have p1 := X.out.c1; have q1 := Y.out.c1
  have x0 := X.out.c0; have x1 := X.out.c1; have x2 := X.out.c2; have y0 := Y.out.c0; have y1 := Y.out.c1; have y2 := Y.out.c2
  go_wp2_with fail
  refine (leading_one S S' n nc ck cl 0 mc dk dl ao co bo eo _ n1 n2 hn0.out).mono ?_
  rintro e w3 ⟨rfl, hb3⟩
  have hsz := Lib.hid bb.out.size; have hb3s := Lib.hid hb3.size
  replace bb := Lib.hid (below_then bb.out (Nat.le_refl _) hb3)
  have hcl := Lib.hid (cloneI_any ao n nc (intCells f n) w3 hn6 (by rw [intCells_length, Nat.mul_one]) (hf.out.below bb.out).lies (intCells_one _ _))
  clear hb3 x0 x1 x2 y0 y1 y2 X Y
  go_wp2_with fail
  refine hcl.out.mono ?_
  rintro e w4 ⟨po, pc, rfl, hr, hb4⟩
  replace bb := Lib.hid (below_then bb.out (Nat.le_refl _) hb4)
  obtain ⟨hpn, hpq0⟩ := hr.slzQ hn6
  have hpq := Lib.hid (hpq0.keep (w' := w4) (Q' := (w.heap.size ≤ ·)) (fun _ _ _ => rfl) (fun b hb _ => Nat.le_trans hsz.out (Nat.le_trans hb3s.out hb)))
  replace hpn := Lib.hid hpn
  clear hr hb4 hpq0 hcl
  go_wp2_with fail
  go_ret2
  exact ConfQ.one he.out (by have := hn0.out; omega) hpn.out hpq.out bb.out
 have d1 : decide ((0 : Int) < (m : Int)) = true := decide_eq_true (by omega)
 have h0' := Lib.hid h0; have g0' := Lib.hid g0
 by_cases hnm : n = m
 ·subst hnm
  clear h0 g0 d1
  go_wp2_with fail
  refine (eqZ_any ao bo n nc n mc f g _ (by omega) (hf.out.below bb.out) (hg.out.below bb.out)).mono ?_
  rintro e v2 ⟨r, rfl, hr, hb⟩
  replace X := Lib.hid (X.out.later hb); replace Y := Lib.hid (Y.out.later hb)
  replace bb := Lib.hid (below_then bb.out (Nat.le_refl _) hb)
  clear hb p1 q1
  cases r with
  | true =>
   have he := Lib.hid (show confE n f n g = 0 from by unfold confE; rw [if_neg h0'.out, if_neg h0'.out, if_neg (fun h => h rfl), if_pos (hr.1 rfl).2])
   clear hr
   have p1 := X.out.c1; have q1 := Y.out.c1
   have x0 := X.out.c0; have x1 := X.out.c1; have x2 := X.out.c2; have y0 := Y.out.c0; have y1 := Y.out.c1; have y2 := Y.out.c2
   go_wp2_with fail
   refine (leading_one S S' n nc ck cl n mc dk dl ao co bo eo _ n1 n2 hn0.out).mono ?_
   rintro e w3 ⟨rfl, hb3⟩
   have hsz := Lib.hid bb.out.size; have hb3s := Lib.hid hb3.size
   replace bb := Lib.hid (below_then bb.out (Nat.le_refl _) hb3)
   have hcl := Lib.hid (cloneI_any ao n nc (intCells f n) w3 hn6 (by rw [intCells_length, Nat.mul_one]) (hf.out.below bb.out).lies (intCells_one _ _))
   clear hb3 x0 x1 x2 y0 y1 y2 X Y
   go_wp2_with fail
   refine hcl.out.mono ?_
   rintro e w4 ⟨po, pc, rfl, hr, hb4⟩
   replace bb := Lib.hid (below_then bb.out (Nat.le_refl _) hb4)
   obtain ⟨hpn, hpq0⟩ := hr.slzQ hn6
   have hpq := Lib.hid (hpq0.keep (w' := w4) (Q' := (w.heap.size ≤ ·)) (fun _ _ _ => rfl) (fun b hb _ => Nat.le_trans hsz.out (Nat.le_trans hb3s.out hb)))
   replace hpn := Lib.hid hpn
   clear hr hb4 hpq0 hcl
   go_wp2_with fail
   go_ret2
   exact ConfQ.one he.out (by have := hn0.out; omega) hpn.out hpq.out bb.out
  | false =>
   have he := Lib.hid (show confE n f n g = 4 from by unfold confE; rw [if_neg h0'.out, if_neg h0'.out, if_neg (fun h => h rfl), if_neg (fun h => absurd (hr.2 ⟨rfl, h⟩) (by decide))])
   clear hr X Y
   go_wp2_with fail
   go_ret2
   exact ConfQ.no he.out (by decide) bb.out
 ·have he := Lib.hid (show confE n f m g = 5 from by unfold confE; rw [if_neg h0, if_neg g0, if_pos hnm])
  have d2 : ((n : Int) == (m : Int)) = false := by rw [beq_eq_false_iff_ne]; omega
  have z0 : 0 < n := by omega
  have z1 : 0 < m := by omega
  clear hnm h0 g0 X Y
  go_wp2_with fail
  go_ret2
  exact ConfQ.no he.out (by decide) bb.out
end Go.Proofs.YtaepelipkkmeaaaGreat
namespace Go.Proofs.YtaepelipkkmeaaaGreat
open Go.RowKit Num
attribute [local go_sem ↓] Go.wp_at_zero Go.wp_at_succ
def zero7 : List Value := [.int .u64 0, .int .i64 0, .bool false, .slice none 0 0, .slice none 0 0, .int .i64 0, .slice none 0 0]
theorem made_cells (m : Nat) : (madeCells #[Value.int .u64 0, .int .i64 0, .bool false, .slice none 0 0, .slice none 0 0, .int .i64 0, .slice none 0 0] (m * 7)).toList = rowsN (fun _ => zero7) m := by
 have hl : ∀ i, i < m → ((fun _ => zero7) i : List Value).length = 7 := fun _ _ => rfl
 refine List.ext_getElem? fun j => ?_
 by_cases hj : j < m * 7
 ·rw [rowsN_at hl (by decide) j hj]
  unfold madeCells
  rw [Array.getElem?_toList, Array.getElem?_map, Array.getElem?_range]
  simp only [hj, if_pos]
  have hr : j % 7 = 0 ∨ j % 7 = 1 ∨ j % 7 = 2 ∨ j % 7 = 3 ∨ j % 7 = 4 ∨ j % 7 = 5 ∨ j % 7 = 6 := by omega
  show some (#[Value.int .u64 0, .int .i64 0, .bool false, .slice none 0 0, .slice none 0 0, .int .i64 0, .slice none 0 0][j % 7]!) = zero7[j % 7]?
  rcases hr with r | r | r | r | r | r | r <;> rw [r] <;> rfl
 ·rw [List.getElem?_eq_none (by unfold madeCells; simp; omega), List.getElem?_eq_none (by rw [rowsN_length m hl]; omega)]
theorem shut_made {w : World} {B g m : Nat} (h : w.ownsRow B 65 7 (.slice (some ⟨g, 0, none⟩) m m) m (rowsN (fun _ => zero7) m)) : Shut w g := by
 refine ⟨(h.lt g rfl).2, fun o x e => ?_⟩
 have hl : ∀ i, i < m → ((fun _ => zero7) i : List Value).length = 7 := fun _ _ => rfl
 rcases h.2 with ⟨k, _⟩ | ⟨g', cap, cur, hv, _, hg, _, _, hcs, ht⟩
 ·cases k
 ·cases hv
  unfold World.cell? at e
  simp only [hg] at e
  have e1 : cur.toList = rowsN (fun _ => zero7) m := by rw [← ht, List.take_of_length_le (by simp [hcs])]
  have e2 : (rowsN (fun _ => zero7) m)[o]? = some (Value.int .u32 x) := by rw [← e1]; simpa using e
  have ho : o < m * 7 := by have := (List.getElem?_eq_some_iff.1 e2).1; rwa [rowsN_length m hl] at this
  rw [rowsN_at hl (by decide) o ho] at e2
  have hr : o % 7 = 0 ∨ o % 7 = 1 ∨ o % 7 = 2 ∨ o % 7 = 3 ∨ o % 7 = 4 ∨ o % 7 = 5 ∨ o % 7 = 6 := by omega
  rcases hr with r | r | r | r | r | r | r <;> rw [r] at e2 <;> cases e2
structure MkR (F : CellF) (M Pv : Nat → Prop) (g m : Nat) (w wr : World) (t : Nat) (es : Nat → List Value) : Prop where
 row : wr.ownsRow w.heap.size 65 7 (.slice (some ⟨g, 0, none⟩) m m) m (rowsN es m)
 len : ∀ x, x < m → (es x).length = 7
 done : ∀ x, x < t → F x wr (fun b => Pv b ∧ ¬ M b) (fun q => (es x).getD q undef)
 todo : ∀ x, t ≤ x → x < m → es x = zero7
 bel : Below w.heap.size w wr
 sh : ∀ b, M b → Shut wr b
 MU : ∀ b, M b → w.heap.size ≤ b
 Mg : M g
theorem MkR.later {F : CellF} (hF : KeepF F) {M Pv : Nat → Prop} {g m : Nat} {w wr w' : World} {t : Nat} {es : Nat → List Value} (h : MkR F M Pv g m w wr t es) (hb : Below wr.heap.size wr w') : MkR F M Pv g m w w' t es :=
 ⟨owns_later h.row hb, h.len, fun x hx => hF x _ _ _ _ _ (h.done x hx) (fun b _ hlt => hb.block b hlt) (fun _ hq _ => hq), h.todo, h.bel.trans (hb.mono h.bel.size), fun b hm => (h.sh b hm).later hb, h.MU, h.Mg⟩
theorem MkR.cell {F : CellF} {M Pv : Nat → Prop} {g m : Nat} {w wr : World} {t : Nat} {es : Nat → List Value} (h : MkR F M Pv g m w wr t es) {q : Nat} (ht : t < m) (hq : q < 7) {v : Value} (hv : zero7[q]? = some v) : wr.cell? ⟨g, t * 7 + q, none⟩ = some v := by
 have hlt : t * 7 + q < m * 7 := by omega
 rw [h.row.cellAt _ hlt, rowsN_get m h.len t q ht hq, h.todo t (Nat.le_refl _) ht, hv]
theorem MkR.put {F : CellF} (hF : KeepF F) {M Pv : Nat → Prop} {g m : Nat} {w wr : World} {t : Nat} {es : Nat → List Value} (h : MkR F M Pv g m w wr t es) (v0 v1 v2 v3 v4 v5 v6 : Value)
  (hs : ∀ u ∈ [v0, v1, v2, v3, v4, v5, v6], ∀ x, u ≠ .int .u32 x) (hnew : F t wr (fun b => Pv b ∧ ¬ M b) (fun q => [v0, v1, v2, v3, v4, v5, v6].getD q undef)) :
  MkR F M Pv g m w (((((((wr.setCell ⟨g, t * 7, none⟩ v0).setCell ⟨g, t * 7 + 1, none⟩ v1).setCell ⟨g, t * 7 + 2, none⟩ v2).setCell ⟨g, t * 7 + 3, none⟩ v3).setCell ⟨g, t * 7 + 4, none⟩ v4).setCell ⟨g, t * 7 + 5, none⟩ v5).setCell ⟨g, t * 7 + 6, none⟩ v6) (t + 1) (putL es t [v0, v1, v2, v3, v4, v5, v6]) := by
 have hne : ∀ b, ¬ M b → b ≠ g := fun b hb e => hb (by rw [e]; exact h.Mg)
 refine ⟨own_put7 h.row h.len v0 v1 v2 v3 v4 v5 v6, fun y hy => ?_, fun y hy => ?_, fun y hy1 hy2 => ?_, below_far7 h.bel (h.MU g h.Mg) _ _ _ _ _ _ _, fun b hm => ?_, h.MU, h.Mg⟩
 ·unfold putL; split
  ·rfl
  ·exact h.len y hy
 ·by_cases e : y = t
  ·subst e
   unfold putL; rw [if_pos rfl]
   exact hF y _ _ _ _ _ hnew (fun b hq _ => far7 (hne b hq.2) _ _ _ _ _ _ _) (fun _ hq _ => hq)
  ·unfold putL; rw [if_neg e]
   exact hF y _ _ _ _ _ (h.done y (by omega)) (fun b hq _ => far7 (hne b hq.2) _ _ _ _ _ _ _) (fun _ hq _ => hq)
 ·unfold putL; rw [if_neg (by omega)]; exact h.todo y (by omega) hy2
 ·by_cases e : b = g
  ·subst e
   exact (((((((h.sh b hm).set _ _ (hs v0 (by simp))).set _ _ (hs v1 (by simp))).set _ _ (hs v2 (by simp))).set _ _ (hs v3 (by simp))).set _ _ (hs v4 (by simp))).set _ _ (hs v5 (by simp))).set _ _ (hs v6 (by simp))
  ·exact (((((((h.sh b hm).other e _ _).other e _ _).other e _ _).other e _ _).other e _ _).other e _ _).other e _ _
theorem MkR.clear {F : CellF} {M Q0 : Nat → Prop} {g m : Nat} {w wa : World} {t : Nat} {es : Nat → List Value} (h : MkR F M (Prov Q0 w) g m w wa t es) {b : Nat} (hb : Prov (fun b => Q0 b ∧ b < w.heap.size) wa b) : Prov Q0 w b ∧ ¬ M b := by
 refine ⟨hb.trans h.bel fun k => .inl k.1, fun hm => ?_⟩
 have h1 := h.MU b hm
 have h2 := (h.sh b hm).1
 rcases hb with k | k | k
 ·have := k.2; omega
 ·omega
 ·exact (h.sh b hm).ne k rfl
theorem MkR.cells {F : CellF} {M Pv : Nat → Prop} {g m : Nat} {w wr : World} {es : Nat → List Value} (h : MkR F M Pv g m w wr m es) : ∀ i, i < m → ∃ e : Nat → Value, (∀ q, q < 7 → wr.cell? ⟨g, 0 + i * 7 + q, none⟩ = some (e q)) ∧ F i wr (fun b => Pv b ∧ ¬ M b) e := by
 intro i hi
 refine ⟨fun q => (es i).getD q undef, fun q hq => ?_, h.done i hi⟩
 have hlt : i * 7 + q < m * 7 := by omega
 rw [Nat.zero_add, h.row.cellAt (i * 7 + q) hlt, rowsN_get m h.len i q hi hq]
 show (es i)[q]? = some ((es i).getD q undef)
 have := h.len i hi
 rw [List.getD_eq_getElem?_getD, List.getElem?_eq_getElem (by omega)]
 rfl
theorem cell_err {E : Int} {D : CellD} {Q0 : Nat → Prop} {w w' : World} (hE : E ≠ 0) (hb : Below w.heap.size w w') :
  CellResQ E D Q0 w (.returned (.tuple #[.agg #[.int .u64 0, .int .i64 0, .bool false, .slice none 0 0, .slice none 0 0, .int .i64 0, .slice none 0 0], .int .i64 E])) w' :=
 ⟨⟨fun q => [Value.int .u64 0, .int .i64 0, .bool false, .slice none 0 0, .slice none 0 0, .int .i64 0, .slice none 0 0].getD q undef, zeroD, rfl, ⟨rfl, (by decide : (0 : Nat) < 18446744073709551616), rfl, ⟨by decide, by decide⟩, num_zero10 _ _, rfl, ⟨by decide, by decide⟩, none, 0, rfl, ⟨Nat.le_refl _, by decide, by decide⟩, .inl rfl⟩, fun h => absurd h hE⟩, hb⟩
end Go.Proofs.YtaepelipkkmeaaaGreat
namespace Go.Proofs.YtaepelipkkmeaaaGreat
open Go.RowKit Num
theorem info_cell : ∃ i, Tryz.prog.info? 65 = some i ∧ i.zero = some (Value.agg #[.int .u64 0, .int .i64 0, .bool false, .slice none 0 0, .slice none 0 0, .int .i64 0, .slice none 0 0]) ∧ i.size = 7 ∧ i.bytes = 104 := by
 obtain ⟨i, h0, h1, h2, h3⟩ := info_parts infoCell
 exact ⟨i, h0, h1, h2, h3⟩
end Go.Proofs.YtaepelipkkmeaaaGreat
namespace Go.Proofs.YtaepelipkkmeaaaGreat
open Go.RowKit Num
attribute [local go_sem] fieldA1 fieldA2
def TwoOfP (f : Int) (d : Nat) : Prop := ∀ (A B : Tree) (Q0 : Nat → Prop) (c0 c1 c2 d0 d1 d2 : Value) (w : World), ArrQ w Q0 A c0 c1 c2 → ArrQ w Q0 B d0 d1 d2 → RightT A d → RightT B d → partsT A ≤ 4000 → partsT B ≤ 4000 →
 Calls Tryz.prog 29 #[.int .i64 f, .agg #[c0, c1, c2], .agg #[d0, d1, d2]] w (ResQ (twoE f (d + 1) A B) (twoT f (d + 1) A B) Q0 w)
def TwoCellP (f : Int) (d : Nat) : Prop := ∀ (x y : CellD) (Q0 : Nat → Prop) (e e' : Nat → Value) (w : World), CellNQ w Q0 x e → CellNQ w Q0 y e' → CellOk x d → CellOk y d →
 Calls Tryz.prog 86 #[.int .i64 f, .agg #[e 0, e 1, e 2, e 3, e 4, e 5, e 6], .agg #[e' 0, e' 1, e' 2, e' 3, e' 4, e' 5, e' 6]] w (CellResQ (cellE f x y (twoE f d (innerT x) (innerT y))) (twoD f x y (twoT f d (innerT x) (innerT y))) Q0 w)
theorem ArrP.few4 {w : World} {A : Tree} {c0 c1 c2 : Value} (h : ArrP w A c0 c1 c2) (hf : partsT A ≤ 4000) : rankT A ≤ 4000 ∧ cellsT A ≤ 4000 := by
 obtain _ | ⟨S, n, sh, m, L, K, C, N, k, sub⟩ := A
 ·exact (ArrP.leaf h).elim
 have h1 := parts_here (S := S) (n := n) (m := m) (sh := sh) (L := L) (K := K) (C := C) (N := N) (k := k) (sub := sub)
 exact ⟨by show n ≤ 4000; omega, by show m ≤ 4000; omega⟩
theorem twoP_t (f : Int) (hf : f ∈ twosZ) (d : Nat) (hcell : TwoCellP f d) : TwoOfP f d := by
 obtain ⟨iC, hC0, hC1, hC2, hC3⟩ := info_cell
 intro A B Q0 c0 c1 c2 d0 d1 d2 w hA hB rA rB pA pB
 replace hA := ArrQ.keep (Q' := (fun b => Q0 b ∧ b < w.heap.size)) (fun _ _ _ => rfl) (fun b hq hb => ⟨hq, hb⟩) _ _ _ _ hA
 replace hB := ArrQ.keep (Q' := (fun b => Q0 b ∧ b < w.heap.size)) (fun _ _ _ => rfl) (fun b hq hb => ⟨hq, hb⟩) _ _ _ _ hB
 have fA := (ArrQ.plain _ _ _ _ hA).few4 pA; have fB := (ArrQ.plain _ _ _ _ hB).few4 pB
 obtain ⟨ao, co, nc, mc, rfl, rfl, rfl, lA, nA, sA, zA, mA⟩ := hA.top
 obtain ⟨bo, eo, bc, ec, rfl, rfl, rfl, lB, nB, sB, zB, mB⟩ := hB.top
 have n1 := nA.1; have n2 := nA.2.1; have n3 := nA.2.2; have m1 := mA.1; have m2 := mA.2.1; have m3 := mA.2.2
 have n4 := nB.1; have n5 := nB.2.1; have n6 := nB.2.2; have m4 := mB.1; have m5 := mB.2.1; have m6 := mB.2.2
 obtain ⟨EE, hEE⟩ : ∃ EE, EE = twoE f (d + 1) A B := ⟨_, rfl⟩
 obtain ⟨TT, hTT⟩ : ∃ TT, TT = twoT f (d + 1) A B := ⟨_, rfl⟩
 obtain ⟨CE, hCE⟩ : ∃ CE, CE = confE (rankT A) (shapeT A) (rankT B) (shapeT B) := ⟨_, rfl⟩
 have hEE' := Lib.hid hEE; have hTT' := Lib.hid hTT; have hCE' := Lib.hid hCE; have hf' := Lib.hid hf; have hcell' := Lib.hid hcell
 rw [← hEE, ← hTT]
 have hA' := Lib.hid hA; have hB' := Lib.hid hB; have rA' := Lib.hid rA; have rB' := Lib.hid rB; have pA' := Lib.hid pA; have pB' := Lib.hid pB
 have lA' := Lib.hid lA; have lB' := Lib.hid lB; have sA' := Lib.hid sA; have sB' := Lib.hid sB; have zA' := Lib.hid zA; have zB' := Lib.hid zB; have nA' := Lib.hid nA; have nB' := Lib.hid nB; have fA' := Lib.hid fA; have fB' := Lib.hid fB
 clear hA hB rA rB pA pB lA lB sA sB zA zB nA nB mA mB hEE hTT hCE hf hcell fA fB
 have hF := twoF_keep f d A B
 go_enter Tryz.func29, Tryz.ntmps29
 go_upto_region 1 with fail
 refine told_wp (fun w' => Below w.heap.size w w' ∧ Box3 w' w.heap.size (.int .u64 (labT A)) (.slice ao (rankT A) nc) (.slice co (cellsT A) mc) ∧ Box3 w' (w.heap.size + 1) (.int .u64 (labT B)) (.slice bo (rankT B) bc) (.slice eo (cellsT B) ec) ∧ Box3 w' (w.heap.size + 2) (.int .u64 0) (.slice none 0 0) (.slice none 0 0) ∧ Shut w' (w.heap.size + 2))
  ⟨(((Below.refl _ _).alloc (Nat.le_refl _) _).alloc (by simp) _).alloc (by simp; omega) _, ((Box3.new _ _ _ _ rfl).alloc _).alloc _, (Box3.new _ _ _ _ (by simp)).alloc _, Box3.new _ _ _ _ (by simp), by have := shut3 (w := (w.alloc (.cells #[.int .u64 (labT A), .slice ao (rankT A) nc, .slice co (cellsT A) mc] 45)).alloc (.cells #[.int .u64 (labT B), .slice bo (rankT B) bc, .slice eo (cellsT B) ec] 45)) (a := 0) (p := none) (q := none) (n := 0) (nc := 0) (m := 0) (mc := 0) (t := 45); simpa using this⟩ ?_
 rintro w1 ⟨bb, X, Y, Z, s2⟩
 have bb' := Lib.hid bb; have X' := Lib.hid X; have Y' := Lib.hid Y; have Z' := Lib.hid Z; have s2' := Lib.hid s2
 clear bb X Y Z s2
 go_wp2_with fail
 refine ((isTwo_any f w1).mono fun _ _ h => (show Tell (.bool true) _ _ _ from by rw [decide_eq_true hf'.out] at h; exact h)).mono ?_
 rintro e w2 ⟨rfl, hb2⟩
 replace bb' := Lib.hid (below_then bb'.out (Nat.le_refl _) hb2); replace X' := Lib.hid (X'.out.later hb2); replace Y' := Lib.hid (Y'.out.later hb2); replace Z' := Lib.hid (Z'.out.later hb2); replace s2' := Lib.hid (s2'.out.later hb2)
 clear hb2
 have x0 := X'.out.c0; have x1 := X'.out.c1; have x2 := X'.out.c2; have y0 := Y'.out.c0; have y1 := Y'.out.c1; have y2 := Y'.out.c2
 have hconf := conformP_any (labT A) (labT B) ao bo co eo (rankT A) nc (rankT B) bc (cellsT A) mc (cellsT B) ec (shapeT A) (shapeT B) w2 nA'.out nB'.out (by have := fA'.out.1; omega) (by have := fB'.out.1; omega) (sA'.out.keep (Q' := fun _ => True) (fun b hq _ => bb'.out.block b hq.2) (fun _ _ _ => trivial)).plain (sB'.out.keep (Q' := fun _ => True) (fun b hq _ => bb'.out.block b hq.2) (fun _ _ _ => trivial)).plain
 replace hconf := Lib.hid hconf
 go_wp2_with fail
 refine hconf.out.mono ?_
 rintro e w3 ⟨so, NN, snc, rfl, hNNe, hsn, hss, hb3⟩
 rw [← hCE'.out] at hNNe ⊢
 have hsz3 := Lib.hid (show w.heap.size + 2 < w2.heap.size from Z'.out.lt)
 replace bb' := Lib.hid (below_then bb'.out (Nat.le_refl _) hb3); replace X' := Lib.hid (X'.out.later hb3); replace Y' := Lib.hid (Y'.out.later hb3); replace Z' := Lib.hid (Z'.out.later hb3); replace s2' := Lib.hid (s2'.out.later hb3)
 clear hconf hb3 x0 x1 x2 y0 y1 y2
 by_cases hC : CE = 0
 ·subst hC
  obtain ⟨SH, hSH⟩ : ∃ SH, SH = if rankT A = 0 then shapeT B else shapeT A := ⟨_, rfl⟩
  obtain ⟨mm, hmm⟩ : ∃ mm, mm = if rankT A = 0 then cellsT B else cellsT A := ⟨_, rfl⟩
  rw [if_pos rfl] at hNNe
  obtain ⟨hshape, hidx⟩ := conf_ok rA'.out rB'.out hCE'.out.symm
  rw [← hNNe, ← hSH, ← hmm] at hshape
  rw [← hmm] at hidx
  rw [← hSH] at hss
  have hshape' := Lib.hid hshape; have hidx' := Lib.hid hidx; have hNN' := Lib.hid hNNe; have hSH' := Lib.hid hSH; have hmm' := Lib.hid hmm; have hsn' := Lib.hid hsn
  have hsZ := Lib.hid (show ∀ j, j < NN → IsZ (SH j) from by
   rw [hNNe, hSH]
   by_cases h0 : rankT A = 0
   ·rw [if_pos h0, if_pos h0]; exact zB'.out
   ·rw [if_neg h0, if_neg h0]; exact zA'.out)
  have hmost := hshape.most
  have hmm40 : mm ≤ 4000 := by omega
  have s1 := hsn.1; have s3 := hsn.2.1; have s4 := hsn.2.2
  obtain ⟨er, her⟩ : ∃ er : Nat → Int, er = fun (i : Nat) => cellE f (pickT A (i : Int)) (pickT B (i : Int)) (twoE f d (innerT (pickT A (i : Int))) (innerT (pickT B (i : Int)))) := ⟨_, rfl⟩
  have her' := Lib.hid her
  have hE1 := Lib.hid (show EE = firstE er mm from by rw [hEE'.out]; unfold twoE; rw [← hCE'.out, if_pos rfl, her, hmm])
  have hss3 := Lib.hid hss
  clear hshape hidx hNNe hSH hmm hsn her hss
  have x0 := X'.out.c0; have x1 := X'.out.c1; have x2 := X'.out.c2; have y0 := Y'.out.c0; have y1 := Y'.out.c1; have y2 := Y'.out.c2
  obtain ⟨lo, lc, hlead, hlc⟩ : ∃ lo lc, Hid (∀ u, Calls Tryz.prog 85 #[.agg #[.int .u64 (labT A), .slice ao (rankT A) nc, .slice co (cellsT A) mc], .agg #[.int .u64 (labT B), .slice bo (rankT B) bc, .slice eo (cellsT B) ec]] u (fun e u' => ∃ v0 v1, e = .returned (.agg #[v0, v1, .slice lo mm lc]) ∧ Below u.heap.size u u')) ∧ (mm ≤ lc ∧ lc ≤ 9223372036854775807) := by
   rw [hmm'.out]
   by_cases h0 : rankT A = 0
   ·rw [if_pos h0]
    exact ⟨eo, ec, Lib.hid fun u => (leading_two (labT A) (labT B) (rankT A) nc (cellsT A) mc (rankT B) bc (cellsT B) ec ao co bo eo u n2 h0).mono fun _ _ h => ⟨_, _, h.1, h.2⟩, m4, m5⟩
   ·rw [if_neg h0]
    exact ⟨co, mc, Lib.hid fun u => (leading_one (labT A) (labT B) (rankT A) nc (cellsT A) mc (rankT B) bc (cellsT B) ec ao co bo eo u n1 n2 (by omega)).mono fun _ _ h => ⟨_, _, h.1, h.2⟩, m1, m2⟩
  have lc1 := hlc.1; have lc2 := hlc.2
  go_wp2_with fail
  refine (hlead.out _).mono ?_
  rintro e w4 ⟨v0, v1, rfl, hb4⟩
  replace bb' := Lib.hid (below_then bb'.out (Nat.le_refl _) hb4); replace X' := Lib.hid (X'.out.later hb4); replace Y' := Lib.hid (Y'.out.later hb4); replace Z' := Lib.hid (Z'.out.later hb4); replace s2' := Lib.hid (s2'.out.later hb4)
  have hss4 := Lib.hid (hss3.out.keep (Q' := fun b => w2.heap.size ≤ b ∧ b < w4.heap.size) (fun b _ hlt => hb4.block b hlt) (fun b hq hlt => ⟨hq, Nat.lt_of_lt_of_le hlt hb4.size⟩))
  clear hb4 hlead hlc hss3 x0 x1 x2 y0 y1 y2
  go_wp2_with (at_make; refine wpList_make_full _ rfl (.tmp 32) (.tmp 32) 43 rfl w.heap.size 65 iC _ 7 Tryz.underlying43 hC0 hC1 hC2 .i64 .i64 _ _ mm rfl rfl rfl rfl (by rw [hC3]; omega) (by unfold maxLen; omega) bb'.out.size ?_)
  intro w5 hown hgrow
  obtain ⟨g, hg⟩ : ∃ g, g = w4.heap.size := ⟨_, rfl⟩
  rw [← hg] at hown ⊢
  rw [made_cells] at hown
  have hb5 : Below w4.heap.size w4 w5 := (Below.refl _ w4).grown hgrow (Nat.le_refl _) (fun _ h => by cases h)
  have hg1 : w.heap.size + 2 < g := by have := Z'.out.lt; omega
  obtain ⟨M, hM⟩ : ∃ M : Nat → Prop, M = fun b => b = w.heap.size + 2 ∨ b = g := ⟨_, rfl⟩
  have hM' := Lib.hid hM
  have hmk0 : MkR (twoF f d A B) M (Prov Q0 w) g mm w w5 0 (fun _ => zero7) := by
   rw [hM]
   refine ⟨hown, fun _ _ => rfl, fun x hx => by omega, fun _ _ _ => rfl, below_then bb'.out (Nat.le_refl _) hb5, ?_, ?_, .inr rfl⟩
   ·rintro b (rfl | rfl)
    ·exact s2'.out.later hb5
    ·exact shut_made hown
   ·rintro b (rfl | rfl) <;> omega
  have hv0 := Lib.hid hmk0; have hx0 := Lib.hid (X'.out.later hb5); have hy0 := Lib.hid (Y'.out.later hb5); have hz0 := Lib.hid (Z'.out.later hb5)
  have hs0 := Lib.hid (show SlZQ w5 (fun b => w.heap.size ≤ b ∧ ¬ M b) so NN SH from hss4.out.keep (fun b hq hlt => hb5.block b hlt) (fun b hq hlt => ⟨by have := hsz3.out; have := hq.1; omega, by rw [hM]; rintro (h | h) <;> (have := hsz3.out; have := hq.1; have := hq.2; omega)⟩))
  clear hown hgrow hb5 hmk0 bb' X' Y' Z' s2' hg hM hss4
  go_wp2_with fail
  go_loopw [36] (fun i wr => ∃ (t : Nat) (es : Nat → List Value), t ≤ mm ∧ i = .int .i64 t ∧ Hid (MkR (twoF f d A B) M (Prov Q0 w) g mm w wr t es) ∧ Hid (Box3 wr w.heap.size (.int .u64 (labT A)) (.slice ao (rankT A) nc) (.slice co (cellsT A) mc)) ∧ Hid (Box3 wr (w.heap.size + 1) (.int .u64 (labT B)) (.slice bo (rankT B) bc) (.slice eo (cellsT B) ec)) ∧ Hid (Box3 wr (w.heap.size + 2) (.int .u64 0) (.slice none 0 0) (.slice none 0 0)) ∧ Hid (SlZQ wr (fun b => w.heap.size ≤ b ∧ ¬ M b) so NN SH) ∧ Hid (∀ i, i < t → er i = 0)) (fun i _ => mm - (intOfZ i).toNat)
  case atStart => exact ⟨0, _, Nat.zero_le _, rfl, hv0, hx0, hy0, hz0, hs0, Lib.hid fun i hi => absurd hi (Nat.not_lt_zero _)⟩
  case round =>
   obtain ⟨t, es, ht, rfl, hv, hx1, hy1, hz1, hs1, her0⟩ := hrel
   clear hv0 hx0 hy0 hz0 hs0
   by_cases hlt : t < mm
   ·obtain ⟨k1, k2, k3, k4⟩ := hidx'.out t hlt
    have ox := Lib.hid (pick_ok rA'.out pA'.out k1 k2); have oy := Lib.hid (pick_ok rB'.out pB'.out k3 k4)
    obtain ⟨x, hx⟩ : ∃ x, x = pickT A (t : Int) := ⟨_, rfl⟩
    obtain ⟨y, hy⟩ : ∃ y, y = pickT B (t : Int) := ⟨_, rfl⟩
    have hert := Lib.hid (show er t = cellE f x y (twoE f d (innerT x) (innerT y)) from by rw [her'.out, hx, hy])
    have hFt := Lib.hid (show ∀ (w' : World) (Q : Nat → Prop) (e : Nat → Value), CellNQ w' Q (twoD f x y (twoT f d (innerT x) (innerT y))) e → twoF f d A B t w' Q e from fun w' Q e h => by show CellNQ w' Q _ e; rw [← hx, ← hy]; exact h)
    have hpx := Lib.hid (show ∀ (u : World), ArrQ u (fun b => Q0 b ∧ b < w.heap.size) A (.int .u64 (labT A)) (.slice ao (rankT A) nc) (.slice co (cellsT A) mc) → Calls Tryz.prog 87 #[.agg #[.int .u64 (labT A), .slice ao (rankT A) nc, .slice co (cellsT A) mc], .int .i64 t] u (CellQPost x (fun b => Q0 b ∧ b < w.heap.size) u) from fun u hu => by rw [hx]; exact pickedQ_any A _ _ _ _ (t : Int) u hu (by omega) (by omega))
    have hpy := Lib.hid (show ∀ (u : World), ArrQ u (fun b => Q0 b ∧ b < w.heap.size) B (.int .u64 (labT B)) (.slice bo (rankT B) bc) (.slice eo (cellsT B) ec) → Calls Tryz.prog 87 #[.agg #[.int .u64 (labT B), .slice bo (rankT B) bc, .slice eo (cellsT B) ec], .int .i64 t] u (CellQPost y (fun b => Q0 b ∧ b < w.heap.size) u) from fun u hu => by rw [hy]; exact pickedQ_any B _ _ _ _ (t : Int) u hu (by omega) (by omega))
    rw [← hx] at ox; rw [← hy] at oy
    clear k1 k2 k3 k4 hx hy
    go_upto_region 10 with fail
    have mkw := hv.out; have X := hx1.out; have Y := hy1.out; have Z := hz1.out
    have hAw := ArrQ.keep (Q' := (fun b => Q0 b ∧ b < w.heap.size)) (fun b hq _ => mkw.bel.block b hq.2) (fun _ hq _ => hq) _ _ _ _ hA'.out
    have hBw := ArrQ.keep (Q' := (fun b => Q0 b ∧ b < w.heap.size)) (fun b hq _ => mkw.bel.block b hq.2) (fun _ hq _ => hq) _ _ _ _ hB'.out
    have hsw := mkw.bel.size
    have hl0 := Z.lt
    have bw := Below.refl wr.heap.size wr
    clear hv hx1 hy1 hz1
    obtain ⟨CC, hCC⟩ : ∃ CC, CC = cellE f x y (twoE f d (innerT x) (innerT y)) := ⟨_, rfl⟩
    rw [← hCC] at hert
    have hCC' := Lib.hid hCC
    clear hCC
    go_cut [12, 13] from 39 to 49 (fun s15 e15 wx => ∃ (E4 : Nat) (D : CellD) (p1 p2 p3 : Option Addr) (c1 c2 c3 : Nat), s15 = .pointer (some ⟨E4, 0, none⟩) ∧ e15 = .int .i64 CC ∧ Below wr.heap.size wr wx ∧ Box7 wx E4 (.int .u64 D.L) (.int .i64 D.K) (.bool D.N.neg) (.slice p1 D.N.an c1) (.slice p2 D.N.am c2) (.int .i64 D.C) (.slice p3 D.k c3) ∧ Box3 wx w.heap.size (.int .u64 (labT A)) (.slice ao (rankT A) nc) (.slice co (cellsT A) mc) ∧ Box3 wx (w.heap.size + 1) (.int .u64 (labT B)) (.slice bo (rankT B) bc) (.slice eo (cellsT B) ec) ∧ Box3 wx (w.heap.size + 2) (.int .u64 0) (.slice none 0 0) (.slice none 0 0) ∧ CellNQ wx (fun b => Prov Q0 w b ∧ ¬ M b) D (fun q => [Value.int .u64 D.L, .int .i64 D.K, .bool D.N.neg, .slice p1 D.N.an c1, .slice p2 D.N.am c2, .int .i64 D.C, .slice p3 D.k c3].getD q undef) ∧ (CC = 0 → D = twoD f x y (twoT f d (innerT x) (innerT y))))
    case first =>
     have sn0 := True.intro
     go_region_held3 (fun w' => w'.cell? ⟨w.heap.size, 0, none⟩ = some (.int .u64 (labT A)) ∧ w'.cell? ⟨w.heap.size, 1, none⟩ = some (.slice ao (rankT A) nc) ∧ w'.cell? ⟨w.heap.size, 2, none⟩ = some (.slice co (cellsT A) mc) ∧ w'.cell? ⟨w.heap.size + 1, 0, none⟩ = some (.int .u64 (labT B)) ∧ w'.cell? ⟨w.heap.size + 1, 1, none⟩ = some (.slice bo (rankT B) bc) ∧ w'.cell? ⟨w.heap.size + 1, 2, none⟩ = some (.slice eo (cellsT B) ec))
      (first | with_reducible exact ⟨X.c0, X.c1, X.c2, Y.c0, Y.c1, Y.c2⟩ | with_reducible exact ⟨X.drew.c0, X.drew.c1, X.drew.c2, Y.drew.c0, Y.drew.c1, Y.drew.c2⟩ | with_reducible exact ⟨(X.alloc _).c0, (X.alloc _).c1, (X.alloc _).c2, (Y.alloc _).c0, (Y.alloc _).c1, (Y.alloc _).c2⟩ | with_reducible exact ⟨(X.alloc _).drew.c0, (X.alloc _).drew.c1, (X.alloc _).drew.c2, (Y.alloc _).drew.c0, (Y.alloc _).drew.c1, (Y.alloc _).drew.c2⟩ | with_reducible exact ⟨XS.c0, XS.c1, XS.c2, YS.c0, YS.c1, YS.c2⟩ | exact ⟨(X.alloc _).c0, (X.alloc _).c1, (X.alloc _).c2, (Y.alloc _).c0, (Y.alloc _).c1, (Y.alloc _).c2⟩ | exact ⟨(X.alloc _).drew.c0, (X.alloc _).drew.c1, (X.alloc _).drew.c2, (Y.alloc _).drew.c0, (Y.alloc _).drew.c1, (Y.alloc _).drew.c2⟩ | go_keep)
      (first
      | (go_at_call 87; clear sn0; refine (hpx.out _ ?_).mono ?_; (with_reducible exact ArrQ.laterQ hAw (Below.refl _ _).drew); intro e3 u1 hP; have hda := (Below.refl wr.heap.size wr).drew; have bw := below_then bw (Nat.le_refl _) hda; have X := X.later hda; have Y := Y.later hda; have Z := Z.later hda; have hAw := ArrQ.laterQ hAw hda; have hBw := ArrQ.laterQ hBw hda; clear hda; have hsd1 : wr.drew.heap.size = wr.heap.size := rfl; obtain ⟨xp1, xp2, xp3, xc1, xc2, xc3, rfl, hpx1, hb⟩ := hP.form; clear hP; have hsz1 := hb.size; have bw := below_then bw (Nat.le_refl _) hb; have X := X.later hb; have Y := Y.later hb; have Z := Z.later hb; have hAw := ArrQ.laterQ hAw hb; have hBw := ArrQ.laterQ hBw hb; clear hb; have sn1 := True.intro)
      | (go_at_call 87; clear sn0; refine (hpx.out _ ?_).mono ?_; (with_reducible exact ArrQ.laterQ hAw ((Below.refl _ _).alloc (Nat.le_refl _) (.cells #[.int .u64 0, .int .i64 0, .bool false, .slice none 0 0, .slice none 0 0, .int .i64 0, .slice none 0 0] 65)).drew); intro e3 u1 hP; have hda := ((Below.refl wr.heap.size wr).alloc (Nat.le_refl _) (.cells #[.int .u64 0, .int .i64 0, .bool false, .slice none 0 0, .slice none 0 0, .int .i64 0, .slice none 0 0] 65)).drew; have s4 := shut7 (w := wr) (a := 0) (k := 0) (c := 0) (b := false) (p := none) (q := none) (r := none) (n := 0) (nc := 0) (m := 0) (mc := 0) (l := 0) (lc := 0) (t := 65); have I := Box7.new (w := wr) (B := wr.heap.size) (.int .u64 0) (.int .i64 0) (.bool false) (.slice none 0 0) (.slice none 0 0) (.int .i64 0) (.slice none 0 0) 65 rfl; have s4 := s4.later (Below.refl _ _).drew; have I := I.later (Below.refl _ _).drew; have bw := below_then bw (Nat.le_refl _) hda; have X := X.later hda; have Y := Y.later hda; have Z := Z.later hda; have hAw := ArrQ.laterQ hAw hda; have hBw := ArrQ.laterQ hBw hda; clear hda; have hsd1 : ((wr.alloc (.cells #[.int .u64 0, .int .i64 0, .bool false, .slice none 0 0, .slice none 0 0, .int .i64 0, .slice none 0 0] 65)).drew).heap.size = wr.heap.size + 1 := (by simp); obtain ⟨xp1, xp2, xp3, xc1, xc2, xc3, rfl, hpx1, hb⟩ := hP.form; clear hP; have hsz1 := hb.size; have bw := below_then bw (Nat.le_refl _) hb; have X := X.later hb; have Y := Y.later hb; have Z := Z.later hb; have I := I.later hb; have s4 := s4.later hb; have hAw := ArrQ.laterQ hAw hb; have hBw := ArrQ.laterQ hBw hb; clear hb; have sp1wr := True.intro)
      | (go_at_call 87; clear sn1; refine (hpy.out _ ?_).mono ?_; (with_reducible exact hBw); intro e3 u2 hP; obtain ⟨yp1, yp2, yp3, yc1, yc2, yc3, rfl, hpy1, hb⟩ := hP.form; clear hP; have hsz2 := hb.size; have bw := below_then bw (Nat.le_refl _) hb; have X := X.later hb; have Y := Y.later hb; have Z := Z.later hb; have hpx1 := hpx1.later hb; have hAw := ArrQ.laterQ hAw hb; have hBw := ArrQ.laterQ hBw hb; clear hb; have sn2 := True.intro)
      | (go_at_call 87; clear sn1; refine (hpy.out _ ?_).mono ?_; (with_reducible exact ArrQ.laterQ hBw ((Below.refl _ _).alloc (Nat.le_refl _) (.cells #[.int .u64 0, .int .i64 0, .bool false, .slice none 0 0, .slice none 0 0, .int .i64 0, .slice none 0 0] 65))); intro e3 u2 hP; have hda := ((Below.refl u1.heap.size u1).alloc (Nat.le_refl _) (.cells #[.int .u64 0, .int .i64 0, .bool false, .slice none 0 0, .slice none 0 0, .int .i64 0, .slice none 0 0] 65)); have s4 := shut7 (w := u1) (a := 0) (k := 0) (c := 0) (b := false) (p := none) (q := none) (r := none) (n := 0) (nc := 0) (m := 0) (mc := 0) (l := 0) (lc := 0) (t := 65); have I := Box7.new (w := u1) (B := u1.heap.size) (.int .u64 0) (.int .i64 0) (.bool false) (.slice none 0 0) (.slice none 0 0) (.int .i64 0) (.slice none 0 0) 65 rfl; have bw := below_then bw (Nat.le_refl _) hda; have X := X.later hda; have Y := Y.later hda; have Z := Z.later hda; have hpx1 := hpx1.later hda; have hAw := ArrQ.laterQ hAw hda; have hBw := ArrQ.laterQ hBw hda; clear hda; have hsd2 : ((u1.alloc (.cells #[.int .u64 0, .int .i64 0, .bool false, .slice none 0 0, .slice none 0 0, .int .i64 0, .slice none 0 0] 65))).heap.size = u1.heap.size + 1 := (by simp); obtain ⟨yp1, yp2, yp3, yc1, yc2, yc3, rfl, hpy1, hb⟩ := hP.form; clear hP; have hsz2 := hb.size; have bw := below_then bw (Nat.le_refl _) hb; have X := X.later hb; have Y := Y.later hb; have Z := Z.later hb; have I := I.later hb; have s4 := s4.later hb; have hpx1 := hpx1.later hb; have hAw := ArrQ.laterQ hAw hb; have hBw := ArrQ.laterQ hBw hb; clear hb; have sp2u1 := True.intro)
      | (go_at_call 87; clear sp1wr; refine (hpy.out _ ?_).mono ?_; (with_reducible exact hBw); intro e3 u2 hP; obtain ⟨yp1, yp2, yp3, yc1, yc2, yc3, rfl, hpy1, hb⟩ := hP.form; clear hP; have hsz2 := hb.size; have bw := below_then bw (Nat.le_refl _) hb; have X := X.later hb; have Y := Y.later hb; have Z := Z.later hb; have I := I.later hb; have s4 := s4.later hb; have hpx1 := hpx1.later hb; have hAw := ArrQ.laterQ hAw hb; have hBw := ArrQ.laterQ hBw hb; clear hb; have sp2wr := True.intro)
      | (go_at_call 86; clear sn2; refine (hcell'.out x y (fun b => Q0 b ∧ b < w.heap.size) (fun q => [Value.int .u64 x.L, .int .i64 x.K, .bool x.N.neg, .slice xp1 x.N.an xc1, .slice xp2 x.N.am xc2, .int .i64 x.C, .slice xp3 x.k xc3].getD q undef) (fun q => [Value.int .u64 y.L, .int .i64 y.K, .bool y.N.neg, .slice yp1 y.N.an yc1, .slice yp2 y.N.am yc2, .int .i64 y.C, .slice yp3 y.k yc3].getD q undef) _ ?_ ?_ ox.out oy.out).mono ?_; (with_reducible exact hpx1); (with_reducible exact hpy1); intro e3 u3 hP; obtain ⟨D, p1, p2, p3, c1, c2, c3, rfl, hD, hD0, hb⟩ := hP.form; clear hP; have mkc := mkw.later hF bw; have hD := show CellNQ u3 (fun b => Prov Q0 w b ∧ ¬ M b) D _ from CellQ.keep hD (fun _ _ _ => rfl) (fun b hq _ => mkc.clear hq) fun _ _ _ _ hk => ArrQ.keep (fun _ _ _ => rfl) (fun b hq _ => mkc.clear hq) _ _ _ _ hk; have hsz3 := hb.size; have bw := below_then bw (Nat.le_refl _) hb; have X := X.later hb; have Y := Y.later hb; have Z := Z.later hb; have hAw := ArrQ.laterQ hAw hb; have hBw := ArrQ.laterQ hBw hb; clear hb hpx1 hpy1 mkc; have done3 := True.intro)
      | (go_at_call 86; clear sn2; refine (hcell'.out x y (fun b => Q0 b ∧ b < w.heap.size) (fun q => [Value.int .u64 x.L, .int .i64 x.K, .bool x.N.neg, .slice xp1 x.N.an xc1, .slice xp2 x.N.am xc2, .int .i64 x.C, .slice xp3 x.k xc3].getD q undef) (fun q => [Value.int .u64 y.L, .int .i64 y.K, .bool y.N.neg, .slice yp1 y.N.an yc1, .slice yp2 y.N.am yc2, .int .i64 y.C, .slice yp3 y.k yc3].getD q undef) _ ?_ ?_ ox.out oy.out).mono ?_; (with_reducible exact CellNQ.later hpx1 ((Below.refl _ _).alloc (Nat.le_refl _) (.cells #[.int .u64 0, .int .i64 0, .bool false, .slice none 0 0, .slice none 0 0, .int .i64 0, .slice none 0 0] 65))); (with_reducible exact CellNQ.later hpy1 ((Below.refl _ _).alloc (Nat.le_refl _) (.cells #[.int .u64 0, .int .i64 0, .bool false, .slice none 0 0, .slice none 0 0, .int .i64 0, .slice none 0 0] 65))); intro e3 u3 hP; have hda := ((Below.refl u2.heap.size u2).alloc (Nat.le_refl _) (.cells #[.int .u64 0, .int .i64 0, .bool false, .slice none 0 0, .slice none 0 0, .int .i64 0, .slice none 0 0] 65)); have s4 := shut7 (w := u2) (a := 0) (k := 0) (c := 0) (b := false) (p := none) (q := none) (r := none) (n := 0) (nc := 0) (m := 0) (mc := 0) (l := 0) (lc := 0) (t := 65); have I := Box7.new (w := u2) (B := u2.heap.size) (.int .u64 0) (.int .i64 0) (.bool false) (.slice none 0 0) (.slice none 0 0) (.int .i64 0) (.slice none 0 0) 65 rfl; have bw := below_then bw (Nat.le_refl _) hda; have X := X.later hda; have Y := Y.later hda; have Z := Z.later hda; have hpx1 := hpx1.later hda; have hpy1 := hpy1.later hda; have hAw := ArrQ.laterQ hAw hda; have hBw := ArrQ.laterQ hBw hda; clear hda; have hsd3 : ((u2.alloc (.cells #[.int .u64 0, .int .i64 0, .bool false, .slice none 0 0, .slice none 0 0, .int .i64 0, .slice none 0 0] 65))).heap.size = u2.heap.size + 1 := (by simp); obtain ⟨D, p1, p2, p3, c1, c2, c3, rfl, hD, hD0, hb⟩ := hP.form; clear hP; have mkc := mkw.later hF bw; have hD := show CellNQ u3 (fun b => (Prov Q0 w b ∧ ¬ M b) ∧ b ≠ u2.heap.size) D _ from CellQ.keep hD (fun _ _ _ => rfl) (fun b hq _ => ⟨mkc.clear hq, prov_ne hq s4 (by omega)⟩) fun _ _ _ _ hk => ArrQ.keep (fun _ _ _ => rfl) (fun b hq _ => ⟨mkc.clear hq, prov_ne hq s4 (by omega)⟩) _ _ _ _ hk; have hsz3 := hb.size; have bw := below_then bw (Nat.le_refl _) hb; have X := X.later hb; have Y := Y.later hb; have Z := Z.later hb; have I := I.later hb; have hAw := ArrQ.laterQ hAw hb; have hBw := ArrQ.laterQ hBw hb; have hI := I.lt; have XS := ((((((X.aside (D := u2.heap.size) (by omega) 0 (.int .u64 D.L)).aside (D := u2.heap.size) (by omega) 1 (.int .i64 D.K)).aside (D := u2.heap.size) (by omega) 2 (.bool D.N.neg)).aside (D := u2.heap.size) (by omega) 3 (.slice p1 D.N.an c1)).aside (D := u2.heap.size) (by omega) 4 (.slice p2 D.N.am c2)).aside (D := u2.heap.size) (by omega) 5 (.int .i64 D.C)).aside (D := u2.heap.size) (by omega) 6 (.slice p3 D.k c3); have YS := ((((((Y.aside (D := u2.heap.size) (by omega) 0 (.int .u64 D.L)).aside (D := u2.heap.size) (by omega) 1 (.int .i64 D.K)).aside (D := u2.heap.size) (by omega) 2 (.bool D.N.neg)).aside (D := u2.heap.size) (by omega) 3 (.slice p1 D.N.an c1)).aside (D := u2.heap.size) (by omega) 4 (.slice p2 D.N.am c2)).aside (D := u2.heap.size) (by omega) 5 (.int .i64 D.C)).aside (D := u2.heap.size) (by omega) 6 (.slice p3 D.k c3); have ZS := ((((((Z.aside (D := u2.heap.size) (by omega) 0 (.int .u64 D.L)).aside (D := u2.heap.size) (by omega) 1 (.int .i64 D.K)).aside (D := u2.heap.size) (by omega) 2 (.bool D.N.neg)).aside (D := u2.heap.size) (by omega) 3 (.slice p1 D.N.an c1)).aside (D := u2.heap.size) (by omega) 4 (.slice p2 D.N.am c2)).aside (D := u2.heap.size) (by omega) 5 (.int .i64 D.C)).aside (D := u2.heap.size) (by omega) 6 (.slice p3 D.k c3); have i0 := I.c0; have j0 := I.fr 0; have i1 := I.c1; have j1 := I.fr 1; have i2 := I.c2; have j2 := I.fr 2; have i3 := I.c3; have j3 := I.fr 3; have i4 := I.c4; have j4 := I.fr 4; have i5 := I.c5; have j5 := I.fr 5; have i6 := I.c6; have j6 := I.fr 6; clear hb hpx1 hpy1 mkc s4; have done3 := True.intro)
      | (go_at_call 86; clear sp2u1; refine (hcell'.out x y (fun b => Q0 b ∧ b < w.heap.size) (fun q => [Value.int .u64 x.L, .int .i64 x.K, .bool x.N.neg, .slice xp1 x.N.an xc1, .slice xp2 x.N.am xc2, .int .i64 x.C, .slice xp3 x.k xc3].getD q undef) (fun q => [Value.int .u64 y.L, .int .i64 y.K, .bool y.N.neg, .slice yp1 y.N.an yc1, .slice yp2 y.N.am yc2, .int .i64 y.C, .slice yp3 y.k yc3].getD q undef) _ ?_ ?_ ox.out oy.out).mono ?_; (with_reducible exact hpx1); (with_reducible exact hpy1); intro e3 u3 hP; obtain ⟨D, p1, p2, p3, c1, c2, c3, rfl, hD, hD0, hb⟩ := hP.form; clear hP; have mkc := mkw.later hF bw; have hD := show CellNQ u3 (fun b => (Prov Q0 w b ∧ ¬ M b) ∧ b ≠ u1.heap.size) D _ from CellQ.keep hD (fun _ _ _ => rfl) (fun b hq _ => ⟨mkc.clear hq, prov_ne hq s4 (by omega)⟩) fun _ _ _ _ hk => ArrQ.keep (fun _ _ _ => rfl) (fun b hq _ => ⟨mkc.clear hq, prov_ne hq s4 (by omega)⟩) _ _ _ _ hk; have hsz3 := hb.size; have bw := below_then bw (Nat.le_refl _) hb; have X := X.later hb; have Y := Y.later hb; have Z := Z.later hb; have I := I.later hb; have hAw := ArrQ.laterQ hAw hb; have hBw := ArrQ.laterQ hBw hb; have hI := I.lt; have XS := ((((((X.aside (D := u1.heap.size) (by omega) 0 (.int .u64 D.L)).aside (D := u1.heap.size) (by omega) 1 (.int .i64 D.K)).aside (D := u1.heap.size) (by omega) 2 (.bool D.N.neg)).aside (D := u1.heap.size) (by omega) 3 (.slice p1 D.N.an c1)).aside (D := u1.heap.size) (by omega) 4 (.slice p2 D.N.am c2)).aside (D := u1.heap.size) (by omega) 5 (.int .i64 D.C)).aside (D := u1.heap.size) (by omega) 6 (.slice p3 D.k c3); have YS := ((((((Y.aside (D := u1.heap.size) (by omega) 0 (.int .u64 D.L)).aside (D := u1.heap.size) (by omega) 1 (.int .i64 D.K)).aside (D := u1.heap.size) (by omega) 2 (.bool D.N.neg)).aside (D := u1.heap.size) (by omega) 3 (.slice p1 D.N.an c1)).aside (D := u1.heap.size) (by omega) 4 (.slice p2 D.N.am c2)).aside (D := u1.heap.size) (by omega) 5 (.int .i64 D.C)).aside (D := u1.heap.size) (by omega) 6 (.slice p3 D.k c3); have ZS := ((((((Z.aside (D := u1.heap.size) (by omega) 0 (.int .u64 D.L)).aside (D := u1.heap.size) (by omega) 1 (.int .i64 D.K)).aside (D := u1.heap.size) (by omega) 2 (.bool D.N.neg)).aside (D := u1.heap.size) (by omega) 3 (.slice p1 D.N.an c1)).aside (D := u1.heap.size) (by omega) 4 (.slice p2 D.N.am c2)).aside (D := u1.heap.size) (by omega) 5 (.int .i64 D.C)).aside (D := u1.heap.size) (by omega) 6 (.slice p3 D.k c3); have i0 := I.c0; have j0 := I.fr 0; have i1 := I.c1; have j1 := I.fr 1; have i2 := I.c2; have j2 := I.fr 2; have i3 := I.c3; have j3 := I.fr 3; have i4 := I.c4; have j4 := I.fr 4; have i5 := I.c5; have j5 := I.fr 5; have i6 := I.c6; have j6 := I.fr 6; clear hb hpx1 hpy1 mkc s4; have done3 := True.intro)
      | (go_at_call 86; clear sp2wr; refine (hcell'.out x y (fun b => Q0 b ∧ b < w.heap.size) (fun q => [Value.int .u64 x.L, .int .i64 x.K, .bool x.N.neg, .slice xp1 x.N.an xc1, .slice xp2 x.N.am xc2, .int .i64 x.C, .slice xp3 x.k xc3].getD q undef) (fun q => [Value.int .u64 y.L, .int .i64 y.K, .bool y.N.neg, .slice yp1 y.N.an yc1, .slice yp2 y.N.am yc2, .int .i64 y.C, .slice yp3 y.k yc3].getD q undef) _ ?_ ?_ ox.out oy.out).mono ?_; (with_reducible exact hpx1); (with_reducible exact hpy1); intro e3 u3 hP; obtain ⟨D, p1, p2, p3, c1, c2, c3, rfl, hD, hD0, hb⟩ := hP.form; clear hP; have mkc := mkw.later hF bw; have hD := show CellNQ u3 (fun b => (Prov Q0 w b ∧ ¬ M b) ∧ b ≠ wr.heap.size) D _ from CellQ.keep hD (fun _ _ _ => rfl) (fun b hq _ => ⟨mkc.clear hq, prov_ne hq s4 (by omega)⟩) fun _ _ _ _ hk => ArrQ.keep (fun _ _ _ => rfl) (fun b hq _ => ⟨mkc.clear hq, prov_ne hq s4 (by omega)⟩) _ _ _ _ hk; have hsz3 := hb.size; have bw := below_then bw (Nat.le_refl _) hb; have X := X.later hb; have Y := Y.later hb; have Z := Z.later hb; have I := I.later hb; have hAw := ArrQ.laterQ hAw hb; have hBw := ArrQ.laterQ hBw hb; have hI := I.lt; have XS := ((((((X.aside (D := wr.heap.size) (by omega) 0 (.int .u64 D.L)).aside (D := wr.heap.size) (by omega) 1 (.int .i64 D.K)).aside (D := wr.heap.size) (by omega) 2 (.bool D.N.neg)).aside (D := wr.heap.size) (by omega) 3 (.slice p1 D.N.an c1)).aside (D := wr.heap.size) (by omega) 4 (.slice p2 D.N.am c2)).aside (D := wr.heap.size) (by omega) 5 (.int .i64 D.C)).aside (D := wr.heap.size) (by omega) 6 (.slice p3 D.k c3); have YS := ((((((Y.aside (D := wr.heap.size) (by omega) 0 (.int .u64 D.L)).aside (D := wr.heap.size) (by omega) 1 (.int .i64 D.K)).aside (D := wr.heap.size) (by omega) 2 (.bool D.N.neg)).aside (D := wr.heap.size) (by omega) 3 (.slice p1 D.N.an c1)).aside (D := wr.heap.size) (by omega) 4 (.slice p2 D.N.am c2)).aside (D := wr.heap.size) (by omega) 5 (.int .i64 D.C)).aside (D := wr.heap.size) (by omega) 6 (.slice p3 D.k c3); have ZS := ((((((Z.aside (D := wr.heap.size) (by omega) 0 (.int .u64 D.L)).aside (D := wr.heap.size) (by omega) 1 (.int .i64 D.K)).aside (D := wr.heap.size) (by omega) 2 (.bool D.N.neg)).aside (D := wr.heap.size) (by omega) 3 (.slice p1 D.N.an c1)).aside (D := wr.heap.size) (by omega) 4 (.slice p2 D.N.am c2)).aside (D := wr.heap.size) (by omega) 5 (.int .i64 D.C)).aside (D := wr.heap.size) (by omega) 6 (.slice p3 D.k c3); have i0 := I.c0; have j0 := I.fr 0; have i1 := I.c1; have j1 := I.fr 1; have i2 := I.c2; have j2 := I.fr 2; have i3 := I.c3; have j3 := I.fr 3; have i4 := I.c4; have j4 := I.fr 4; have i5 := I.c5; have j5 := I.fr 5; have i6 := I.c6; have j6 := I.fr 6; clear hb hpx1 hpy1 mkc s4; have done3 := True.intro))
     ·clear done3
      have bw4 := bw.alloc bw.size (.cells #[.int .u64 D.L, .int .i64 D.K, .bool D.N.neg, .slice p1 D.N.an c1, .slice p2 D.N.am c2, .int .i64 D.C, .slice p3 D.k c3] 65)
      have I4 := Box7.new (w := u3) (B := u3.heap.size) (.int .u64 D.L) (.int .i64 D.K) (.bool D.N.neg) (.slice p1 D.N.an c1) (.slice p2 D.N.am c2) (.int .i64 D.C) (.slice p3 D.k c3) 65 rfl
      have X4 := X.alloc (.cells #[.int .u64 D.L, .int .i64 D.K, .bool D.N.neg, .slice p1 D.N.an c1, .slice p2 D.N.am c2, .int .i64 D.C, .slice p3 D.k c3] 65); have Y4 := Y.alloc (.cells #[.int .u64 D.L, .int .i64 D.K, .bool D.N.neg, .slice p1 D.N.an c1, .slice p2 D.N.am c2, .int .i64 D.C, .slice p3 D.k c3] 65); have Z4 := Z.alloc (.cells #[.int .u64 D.L, .int .i64 D.K, .bool D.N.neg, .slice p1 D.N.an c1, .slice p2 D.N.am c2, .int .i64 D.C, .slice p3 D.k c3] 65)
      have hD4 := CellNQ.later hD ((Below.refl _ _).alloc (Nat.le_refl _) (.cells #[.int .u64 D.L, .int .i64 D.K, .bool D.N.neg, .slice p1 D.N.an c1, .slice p2 D.N.am c2, .int .i64 D.C, .slice p3 D.k c3] 65))
      go_wp2_with fail
      go_meet
      exact ⟨u3.heap.size, D, p1, p2, p3, c1, c2, c3, rfl, by rw [hCC'.out], bw4, I4, X4, Y4, Z4, hD4, fun h => hD0 (by rw [← hCC'.out]; exact h)⟩
     ·clear done3
      have bw4 := (((((((bw.setCell (p := ⟨u2.heap.size, 0, none⟩) (by show wr.heap.size ≤ u2.heap.size; omega) (.int .u64 D.L)).setCell (p := ⟨u2.heap.size, 1, none⟩) (by show wr.heap.size ≤ u2.heap.size; omega) (.int .i64 D.K)).setCell (p := ⟨u2.heap.size, 2, none⟩) (by show wr.heap.size ≤ u2.heap.size; omega) (.bool D.N.neg)).setCell (p := ⟨u2.heap.size, 3, none⟩) (by show wr.heap.size ≤ u2.heap.size; omega) (.slice p1 D.N.an c1)).setCell (p := ⟨u2.heap.size, 4, none⟩) (by show wr.heap.size ≤ u2.heap.size; omega) (.slice p2 D.N.am c2)).setCell (p := ⟨u2.heap.size, 5, none⟩) (by show wr.heap.size ≤ u2.heap.size; omega) (.int .i64 D.C)).setCell (p := ⟨u2.heap.size, 6, none⟩) (by show wr.heap.size ≤ u2.heap.size; omega) (.slice p3 D.k c3))
      have I4 := I.setAll (.int .u64 D.L) (.int .i64 D.K) (.bool D.N.neg) (.slice p1 D.N.an c1) (.slice p2 D.N.am c2) (.int .i64 D.C) (.slice p3 D.k c3)
      have X4 := XS; have Y4 := YS; have Z4 := ZS
      have hD4 : CellNQ (((((((u3.setCell ⟨u2.heap.size, 0, none⟩ (.int .u64 D.L)).setCell ⟨u2.heap.size, 1, none⟩ (.int .i64 D.K)).setCell ⟨u2.heap.size, 2, none⟩ (.bool D.N.neg)).setCell ⟨u2.heap.size, 3, none⟩ (.slice p1 D.N.an c1)).setCell ⟨u2.heap.size, 4, none⟩ (.slice p2 D.N.am c2)).setCell ⟨u2.heap.size, 5, none⟩ (.int .i64 D.C)).setCell ⟨u2.heap.size, 6, none⟩ (.slice p3 D.k c3)) (fun b => Prov Q0 w b ∧ ¬ M b) D _ := CellQ.keep hD (fun b hq _ => heap_set7' hq.2 _ _ _ _ _ _ _) (fun b hq _ => hq.1) fun _ _ _ _ hk => ArrQ.keep (fun b hq _ => heap_set7' hq.2 _ _ _ _ _ _ _) (fun b hq _ => hq.1) _ _ _ _ hk
      go_wp2_with fail
      go_meet
      exact ⟨u2.heap.size, D, p1, p2, p3, c1, c2, c3, rfl, by rw [hCC'.out], bw4, I4, X4, Y4, Z4, hD4, fun h => hD0 (by rw [← hCC'.out]; exact h)⟩
     ·clear done3
      have bw4 := (((((((bw.setCell (p := ⟨u1.heap.size, 0, none⟩) (by show wr.heap.size ≤ u1.heap.size; omega) (.int .u64 D.L)).setCell (p := ⟨u1.heap.size, 1, none⟩) (by show wr.heap.size ≤ u1.heap.size; omega) (.int .i64 D.K)).setCell (p := ⟨u1.heap.size, 2, none⟩) (by show wr.heap.size ≤ u1.heap.size; omega) (.bool D.N.neg)).setCell (p := ⟨u1.heap.size, 3, none⟩) (by show wr.heap.size ≤ u1.heap.size; omega) (.slice p1 D.N.an c1)).setCell (p := ⟨u1.heap.size, 4, none⟩) (by show wr.heap.size ≤ u1.heap.size; omega) (.slice p2 D.N.am c2)).setCell (p := ⟨u1.heap.size, 5, none⟩) (by show wr.heap.size ≤ u1.heap.size; omega) (.int .i64 D.C)).setCell (p := ⟨u1.heap.size, 6, none⟩) (by show wr.heap.size ≤ u1.heap.size; omega) (.slice p3 D.k c3))
      have I4 := I.setAll (.int .u64 D.L) (.int .i64 D.K) (.bool D.N.neg) (.slice p1 D.N.an c1) (.slice p2 D.N.am c2) (.int .i64 D.C) (.slice p3 D.k c3)
      have X4 := XS; have Y4 := YS; have Z4 := ZS
      have hD4 : CellNQ (((((((u3.setCell ⟨u1.heap.size, 0, none⟩ (.int .u64 D.L)).setCell ⟨u1.heap.size, 1, none⟩ (.int .i64 D.K)).setCell ⟨u1.heap.size, 2, none⟩ (.bool D.N.neg)).setCell ⟨u1.heap.size, 3, none⟩ (.slice p1 D.N.an c1)).setCell ⟨u1.heap.size, 4, none⟩ (.slice p2 D.N.am c2)).setCell ⟨u1.heap.size, 5, none⟩ (.int .i64 D.C)).setCell ⟨u1.heap.size, 6, none⟩ (.slice p3 D.k c3)) (fun b => Prov Q0 w b ∧ ¬ M b) D _ := CellQ.keep hD (fun b hq _ => heap_set7' hq.2 _ _ _ _ _ _ _) (fun b hq _ => hq.1) fun _ _ _ _ hk => ArrQ.keep (fun b hq _ => heap_set7' hq.2 _ _ _ _ _ _ _) (fun b hq _ => hq.1) _ _ _ _ hk
      go_wp2_with fail
      go_meet
      exact ⟨u1.heap.size, D, p1, p2, p3, c1, c2, c3, rfl, by rw [hCC'.out], bw4, I4, X4, Y4, Z4, hD4, fun h => hD0 (by rw [← hCC'.out]; exact h)⟩
     ·clear done3
      have bw4 := (((((((bw.setCell (p := ⟨wr.heap.size, 0, none⟩) (by show wr.heap.size ≤ wr.heap.size; omega) (.int .u64 D.L)).setCell (p := ⟨wr.heap.size, 1, none⟩) (by show wr.heap.size ≤ wr.heap.size; omega) (.int .i64 D.K)).setCell (p := ⟨wr.heap.size, 2, none⟩) (by show wr.heap.size ≤ wr.heap.size; omega) (.bool D.N.neg)).setCell (p := ⟨wr.heap.size, 3, none⟩) (by show wr.heap.size ≤ wr.heap.size; omega) (.slice p1 D.N.an c1)).setCell (p := ⟨wr.heap.size, 4, none⟩) (by show wr.heap.size ≤ wr.heap.size; omega) (.slice p2 D.N.am c2)).setCell (p := ⟨wr.heap.size, 5, none⟩) (by show wr.heap.size ≤ wr.heap.size; omega) (.int .i64 D.C)).setCell (p := ⟨wr.heap.size, 6, none⟩) (by show wr.heap.size ≤ wr.heap.size; omega) (.slice p3 D.k c3))
      have I4 := I.setAll (.int .u64 D.L) (.int .i64 D.K) (.bool D.N.neg) (.slice p1 D.N.an c1) (.slice p2 D.N.am c2) (.int .i64 D.C) (.slice p3 D.k c3)
      have X4 := XS; have Y4 := YS; have Z4 := ZS
      have hD4 : CellNQ (((((((u3.setCell ⟨wr.heap.size, 0, none⟩ (.int .u64 D.L)).setCell ⟨wr.heap.size, 1, none⟩ (.int .i64 D.K)).setCell ⟨wr.heap.size, 2, none⟩ (.bool D.N.neg)).setCell ⟨wr.heap.size, 3, none⟩ (.slice p1 D.N.an c1)).setCell ⟨wr.heap.size, 4, none⟩ (.slice p2 D.N.am c2)).setCell ⟨wr.heap.size, 5, none⟩ (.int .i64 D.C)).setCell ⟨wr.heap.size, 6, none⟩ (.slice p3 D.k c3)) (fun b => Prov Q0 w b ∧ ¬ M b) D _ := CellQ.keep hD (fun b hq _ => heap_set7' hq.2 _ _ _ _ _ _ _) (fun b hq _ => hq.1) fun _ _ _ _ hk => ArrQ.keep (fun b hq _ => heap_set7' hq.2 _ _ _ _ _ _ _) (fun b hq _ => hq.1) _ _ _ _ hk
      go_wp2_with fail
      go_meet
      exact ⟨wr.heap.size, D, p1, p2, p3, c1, c2, c3, rfl, by rw [hCC'.out], bw4, I4, X4, Y4, Z4, hD4, fun h => hD0 (by rw [← hCC'.out]; exact h)⟩
    case rest =>
     obtain ⟨E4, D, p1, p2, p3, c1, c2, c3, rfl, rfl, bw5, x6, X5, Y5, Z5, hD6, hD0'⟩ := hcut
     have hv6 := mkw.later hF bw5
     have hs6 := hs1.out.keep (w' := wc) (Q' := fun b => w.heap.size ≤ b ∧ ¬ M b) (fun b _ hlt => bw5.block b hlt) (fun _ hq _ => hq)
     clear mkw X Y Z hAw hBw hs1 bw bw5
     by_cases hC0e : CC = 0
     ·have hc0 := Lib.hid hC0e.symm
      have hnew := hFt.out wc (fun b => Prov Q0 w b ∧ ¬ M b) (fun q => [Value.int .u64 D.L, .int .i64 D.K, .bool D.N.neg, .slice p1 D.N.an c1, .slice p2 D.N.am c2, .int .i64 D.C, .slice p3 D.k c3].getD q undef) (by rw [← hD0' hC0e]; exact hD6)
      subst hC0e
      have her1 := Lib.hid (show ∀ i, i < t + 1 → er i = 0 from fun i hi => by
       by_cases hit : i = t
       ·rw [hit, hert.out]
       ·exact her0.out i (by omega))
      have hv7 := Lib.hid (hv6.put hF _ _ _ _ _ _ _ no_limb7 hnew)
      have hgl := hv6.row.lt g rfl
      have ne1 : w.heap.size ≠ g := by omega
      have ne2 : w.heap.size + 1 ≠ g := by omega
      have ne3 : w.heap.size + 2 ≠ g := by omega
      have hx7 := Lib.hid (((((((X5.aside (D := g) ne1 (t * 7) (.int .u64 D.L)).aside (D := g) ne1 (t * 7 + 1) (.int .i64 D.K)).aside (D := g) ne1 (t * 7 + 2) (.bool D.N.neg)).aside (D := g) ne1 (t * 7 + 3) (.slice p1 D.N.an c1)).aside (D := g) ne1 (t * 7 + 4) (.slice p2 D.N.am c2)).aside (D := g) ne1 (t * 7 + 5) (.int .i64 D.C)).aside (D := g) ne1 (t * 7 + 6) (.slice p3 D.k c3))
      have hy7 := Lib.hid (((((((Y5.aside (D := g) ne2 (t * 7) (.int .u64 D.L)).aside (D := g) ne2 (t * 7 + 1) (.int .i64 D.K)).aside (D := g) ne2 (t * 7 + 2) (.bool D.N.neg)).aside (D := g) ne2 (t * 7 + 3) (.slice p1 D.N.an c1)).aside (D := g) ne2 (t * 7 + 4) (.slice p2 D.N.am c2)).aside (D := g) ne2 (t * 7 + 5) (.int .i64 D.C)).aside (D := g) ne2 (t * 7 + 6) (.slice p3 D.k c3))
      have hz7 := Lib.hid (((((((Z5.aside (D := g) ne3 (t * 7) (.int .u64 D.L)).aside (D := g) ne3 (t * 7 + 1) (.int .i64 D.K)).aside (D := g) ne3 (t * 7 + 2) (.bool D.N.neg)).aside (D := g) ne3 (t * 7 + 3) (.slice p1 D.N.an c1)).aside (D := g) ne3 (t * 7 + 4) (.slice p2 D.N.am c2)).aside (D := g) ne3 (t * 7 + 5) (.int .i64 D.C)).aside (D := g) ne3 (t * 7 + 6) (.slice p3 D.k c3))
      have hMg := hv6.Mg
      have hs7 := Lib.hid (hs6.keep (Q' := fun b => w.heap.size ≤ b ∧ ¬ M b) (fun b hq _ => far7 (o := t * 7) (fun e => hq.2 (by rw [e]; exact hMg)) (.int .u64 D.L) (.int .i64 D.K) (.bool D.N.neg) (.slice p1 D.N.an c1) (.slice p2 D.N.am c2) (.int .i64 D.C) (.slice p3 D.k c3)) (fun _ hq _ => hq))
      have y0 := hv6.cell (q := 0) hlt (by decide) (v := .int .u64 0) rfl; have y1 := hv6.cell (q := 1) hlt (by decide) (v := .int .i64 0) rfl; have y2 := hv6.cell (q := 2) hlt (by decide) (v := .bool false) rfl; have y3 := hv6.cell (q := 3) hlt (by decide) (v := .slice none 0 0) rfl
      have y4 := hv6.cell (q := 4) hlt (by decide) (v := .slice none 0 0) rfl; have y5 := hv6.cell (q := 5) hlt (by decide) (v := .int .i64 0) rfl; have y6 := hv6.cell (q := 6) hlt (by decide) (v := .slice none 0 0) rfl
      rw [Nat.add_zero] at y0
      have f0 := hv6.row.frozenAt (t * 7); have f1 := hv6.row.frozenAt (t * 7 + 1); have f2 := hv6.row.frozenAt (t * 7 + 2); have f3 := hv6.row.frozenAt (t * 7 + 3)
      have f4 := hv6.row.frozenAt (t * 7 + 4); have f5 := hv6.row.frozenAt (t * 7 + 5); have f6 := hv6.row.frozenAt (t * 7 + 6)
      have r0 := x6.c0; have r1 := x6.c1; have r2 := x6.c2; have r3 := x6.c3; have r4 := x6.c4; have r5 := x6.c5; have r6 := x6.c6
      clear hv6 hs6 X5 Y5 Z5 hD6 hnew x6 ne1 ne2 ne3 hgl hMg hD0' hc0
      go_wp2_with fail
      go_roundw
      case rel => exact ⟨t + 1, _, by omega, by go_num, hv7, hx7, hy7, hz7, hs7, her1⟩
      case measure => simp [intOfZ]; omega
     ·have hCb : (CC != 0) = true := bne_iff_ne.2 hC0e
      have hE2 := Lib.hid (show EE = CC from by
       have h1 := firstE_at her0.out (by rw [hert.out]; exact hC0e) mm hlt
       rw [hE1.out, h1, hert.out])
      have hCn := Lib.hid hC0e
      have bb5 := hv6.bel
      have hz6' := Lib.hid Z5
      clear hC0e hv6 hs6 X5 Y5 Z5 hD6 hD0' x6
      have hlz := hz6'.out.lt
      have z0 := hz6'.out.c0; have z1 := hz6'.out.c1; have z2 := hz6'.out.c2
      have f0 := hz6'.out.fr 0; have f1 := hz6'.out.fr 1; have f2 := hz6'.out.fr 2
      have zz := hz6'.out.set (.int .u64 0) (.slice none 0 0) (.slice none 0 0)
      have e0 := zz.c0; have e1 := zz.c1; have e2 := zz.c2
      have hbw := Lib.hid (below_set3 bb5 (B := w.heap.size + 2) (by omega) (.int .u64 0) (.slice none 0 0) (.slice none 0 0))
      have hfe := Lib.hid (show EE = CC ∧ (CC : Int) ≠ 0 from ⟨hE2.out, hCn.out⟩)
      clear zz
      go_wp2_with fail
      refine bodyPost_ret (v := .tuple #[.agg #[.int .u64 0, .slice none 0 0, .slice none 0 0], .int .i64 (CC)]) (by simp [results, Tryz.results29, go_sem, e0, e1, e2]) rfl ?_
      rw [hfe.out.1]
      exact ⟨⟨_, _, _, rfl, by rw [show resT (CC) TT = zeroT from if_neg hfe.out.2]; exact zero_arr _ _⟩, hbw.out⟩
   ·obtain rfl : t = mm := by omega
    have hE0 : firstE er t = 0 := (firstE_zero t).2 her0.out
    have hEz := Lib.hid (show EE = 0 from by rw [hE1.out, hE0])
    have x0 := hx1.out.c0; have y0 := hy1.out.c0
    have hgs := (hv.out.row.lt g rfl).2
    have hbel := hv.out.bel
    have g0 := hz1.out.c0; have g1 := hz1.out.c1; have g2 := hz1.out.c2
    have f0 := hz1.out.fr 0; have f1 := hz1.out.fr 1; have f2 := hz1.out.fr 2
    have z := hz1.out.set (.int .u64 (orL (labT A) (labT B) : Nat)) (.slice so NN snc) (.slice (some ⟨g, 0, none⟩) t t)
    have e0 := z.c0; have e1 := z.c1; have e2 := z.c2
    have hbw := Lib.hid (below_set3 hbel (B := w.heap.size + 2) (by omega) (.int .u64 (orL (labT A) (labT B) : Nat)) (.slice so NN snc) (.slice (some ⟨g, 0, none⟩) t t))
    have hM1 : M (w.heap.size + 2) := by rw [hM'.out]; exact .inl rfl
    have hk0 := fun b (hb : b ≠ w.heap.size + 2) => heap_set012 (w := wr) (B := w.heap.size + 2) (b := b) hb (.int .u64 (orL (labT A) (labT B) : Nat)) (.slice so NN snc) (.slice (some ⟨g, 0, none⟩) t t)
    have hres0 : ArrQ wr (fun b => Prov Q0 w b ∧ b ≠ w.heap.size + 2) TT (.int .u64 (orL (labT A) (labT B) : Nat)) (.slice so NN snc) (.slice (some ⟨g, 0, none⟩) t t) := by
     rw [hTT'.out]
     show ArrQ wr _ (.arr (orL (labT A) (labT B)) (if rankT A = 0 then rankT B else rankT A) (if rankT A = 0 then shapeT B else shapeT A) (if rankT A = 0 then cellsT B else cellsT A) _ _ _ _ _ _) _ _ _
     rw [← hNN'.out, ← hSH'.out, ← hmm'.out]
     refine ⟨rfl, orL_is lA'.out lB'.out, ⟨so, snc, rfl, hsn'.out, hs1.out.keep (fun _ _ _ => rfl) (fun b hq _ => ⟨.inr (.inl hq.1), fun e => hq.2 (by rw [e]; exact hM1)⟩), hsZ.out⟩, _, _, rfl, ⟨Nat.le_refl _, by omega, by omega⟩, .inr ⟨g, 0, rfl, ⟨.inr (.inl (by omega)), by omega⟩, fun i hi => ?_⟩⟩
     obtain ⟨e, he1, he2⟩ := hv.out.cells i hi
     exact ⟨e, he1, twoF_keep f d A B i _ _ _ _ _ he2 (fun _ _ _ => rfl) fun b hq _ => ⟨hq.1, fun h => hq.2 (by rw [h]; exact hM1)⟩⟩
    have hres := Lib.hid (ArrQ.keep (Q' := Prov Q0 w) (fun b hq _ => hk0 b hq.2) (fun b hq _ => hq.1) _ _ _ _ hres0)
    clear z hv hx1 hy1 hz1 hs1 hbel hk0 hres0 hM1 hE0
    go_wp2_with fail
    refine (join_any (labT A) (labT B) lA'.out lB'.out wr).mono ?_
    rintro e wr' ⟨rfl, rfl⟩
    go_wp2_with fail
    refine bodyPost_ret (v := .tuple #[.agg #[.int .u64 (orL (labT A) (labT B) : Nat), .slice so NN snc, .slice (some ⟨g, 0, none⟩) t t], .int .i64 0]) (by simp [results, Tryz.results29, go_sem, e0, e1, e2]) rfl ?_
    rw [hEz.out]
    exact ⟨⟨_, _, _, rfl, hres.out⟩, hbw.out⟩
 ·have hCb : (CE != 0) = true := bne_iff_ne.2 hC
  have hCn := Lib.hid hC
  have hE1 := Lib.hid (show EE = CE from by rw [hEE'.out]; unfold twoE; rw [← hCE'.out, if_neg hC])
  clear hC hNNe hsn hss
  have hlz := Z'.out.lt
  have z0 := Z'.out.c0; have z1 := Z'.out.c1; have z2 := Z'.out.c2
  have f0 := Z'.out.fr 0; have f1 := Z'.out.fr 1; have f2 := Z'.out.fr 2
  have zz := Z'.out.set (.int .u64 0) (.slice none 0 0) (.slice none 0 0)
  have e0 := zz.c0; have e1 := zz.c1; have e2 := zz.c2
  have hbw := Lib.hid (below_set3 bb'.out (B := w.heap.size + 2) (by omega) (.int .u64 0) (.slice none 0 0) (.slice none 0 0))
  have hfe := Lib.hid (show EE = CE ∧ (CE : Int) ≠ 0 from ⟨hE1.out, hCn.out⟩)
  clear zz
  go_wp2_with fail
  refine bodyPost_ret (v := .tuple #[.agg #[.int .u64 0, .slice none 0 0, .slice none 0 0], .int .i64 (CE)]) (by simp [results, Tryz.results29, go_sem, e0, e1, e2]) rfl ?_
  rw [hfe.out.1]
  exact ⟨⟨_, _, _, rfl, by rw [show resT (CE) TT = zeroT from if_neg hfe.out.2]; exact zero_arr _ _⟩, hbw.out⟩
end Go.Proofs.YtaepelipkkmeaaaGreat
namespace Go.Proofs.YtaepelipkkmeaaaGreat
open Go.RowKit Num
attribute [local go_sem ↓] Go.wp_at_zero Go.wp_at_succ
theorem two_freeP {Q0 : Nat → Prop} {w w' : World} {b B4 : Nat} (h : Prov (fun b => (Q0 b ∧ b < w.heap.size) ∨ (w.heap.size + 3 ≤ b ∧ b ≠ B4)) w' b) (hb : Below w.heap.size w w') (s2 : Shut w' (w.heap.size + 2)) (s4 : Shut w' B4) (hB : w.heap.size + 3 ≤ B4) : (Prov Q0 w b ∧ b ≠ w.heap.size + 2) ∧ b ≠ B4 := by
 have h4 := s4.1
 rcases h with (h | h) | h | h
 ·exact ⟨⟨.inl h.1, by have := h.2; omega⟩, by have := h.2; omega⟩
 ·exact ⟨⟨.inr (.inl (by omega)), by omega⟩, h.2⟩
 ·exact ⟨⟨.inr (.inl (by omega)), by omega⟩, by omega⟩
 ·exact ⟨⟨Prov.limb h hb, s2.ne h⟩, s4.ne h⟩
theorem two_freeP3 {Q0 : Nat → Prop} {w w' : World} {b : Nat} (h : Prov (fun b => (Q0 b ∧ b < w.heap.size) ∨ w.heap.size + 3 ≤ b) w' b) (hb : Below w.heap.size w w') (s2 : Shut w' (w.heap.size + 2)) : Prov Q0 w b ∧ b ≠ w.heap.size + 2 := by
 have h3 := s2.1
 rcases h with (h | h) | h | h
 ·exact ⟨.inl h.1, by have := h.2; omega⟩
 ·exact ⟨.inr (.inl (by omega)), by omega⟩
 ·exact ⟨.inr (.inl (by omega)), by omega⟩
 ·exact ⟨Prov.limb h hb, s2.ne h⟩
theorem twoCellsP_of (f : Int) (d : Nat) (h : ∀ d', d' + 1 = d → TwoOfP f d') : TwoCellP f d := by
 intro x y Q0 e e' w hx hy ox oy
 replace hx : CellNQ w (fun b => Q0 b ∧ b < w.heap.size) x e := CellQ.keep hx (fun _ _ _ => rfl) (fun b hq hb => ⟨hq, hb⟩) fun _ _ _ _ hd => ArrQ.keep (fun _ _ _ => rfl) (fun b hq hb => ⟨hq, hb⟩) _ _ _ _ hd
 replace hy : CellNQ w (fun b => Q0 b ∧ b < w.heap.size) y e' := CellQ.keep hy (fun _ _ _ => rfl) (fun b hq hb => ⟨hq, hb⟩) fun _ _ _ _ hd => ArrQ.keep (fun _ _ _ => rfl) (fun b hq hb => ⟨hq, hb⟩) _ _ _ _ hd
 obtain ⟨xa, xb, xi, xac, xbc, xkc, xv, xL, xK, xN, xC, xk, _⟩ := hx.form
 obtain ⟨ya, yb, yi, yac, ybc, ykc, yv, yL, yK, yN, yC, yk, _⟩ := hy.form
 rw [← xv, ← yv]
 have xv' := Lib.hid xv; have yv' := Lib.hid yv; have hx' := Lib.hid hx; have hy' := Lib.hid hy
 have xL' := Lib.hid xL; have yL' := Lib.hid yL; have xN' := Lib.hid xN; have yN' := Lib.hid yN
 have ox' := Lib.hid ox; have oy' := Lib.hid oy; have h' := Lib.hid h
 have xk1 := xk.1; have xk2 := xk.2.1; have yk1 := yk.1; have yk2 := yk.2.1
 obtain ⟨EE, hEE⟩ : ∃ EE, EE = cellE f x y (twoE f d (innerT x) (innerT y)) := ⟨_, rfl⟩
 obtain ⟨DD, hDD⟩ : ∃ DD, DD = twoD f x y (twoT f d (innerT x) (innerT y)) := ⟨_, rfl⟩
 have hEE' := Lib.hid hEE; have hDD' := Lib.hid hDD
 rw [← hEE, ← hDD]
 have hor := Lib.hid (orL_is xL yL)
 have hbx := Lib.hid (fun u : World => isBox_any x.L x.K x.C x.N.neg xa xb xi x.N.an xac x.N.am xbc x.k xkc u xk1 xk2)
 have hby := Lib.hid (fun u : World => isBox_any y.L y.K y.C y.N.neg ya yb yi y.N.an yac y.N.am ybc y.k ykc u yk1 yk2)
 clear xv yv hx hy xL yL xN yN ox oy h xk yk xK yK xC yC hEE hDD
 go_enter Tryz.func86, Tryz.ntmps86
 go_upto_region 1 with fail
 refine told_wp (fun w' => Below w.heap.size w w' ∧ Box7 w' w.heap.size (.int .u64 x.L) (.int .i64 x.K) (.bool x.N.neg) (.slice xa x.N.an xac) (.slice xb x.N.am xbc) (.int .i64 x.C) (.slice xi x.k xkc) ∧ Box7 w' (w.heap.size + 1) (.int .u64 y.L) (.int .i64 y.K) (.bool y.N.neg) (.slice ya y.N.an yac) (.slice yb y.N.am ybc) (.int .i64 y.C) (.slice yi y.k ykc) ∧ Box7 w' (w.heap.size + 2) (.int .u64 0) (.int .i64 0) (.bool false) (.slice none 0 0) (.slice none 0 0) (.int .i64 0) (.slice none 0 0) ∧ Shut w' (w.heap.size + 2))
  ⟨(((Below.refl _ _).alloc (Nat.le_refl _) _).alloc (by simp) _).alloc (by simp; omega) _, ((Box7.new _ _ _ _ _ _ _ _ rfl).alloc _).alloc _, (Box7.new _ _ _ _ _ _ _ _ (by simp)).alloc _, Box7.new _ _ _ _ _ _ _ _ (by simp), by have := shut7 (w := (w.alloc (.cells #[.int .u64 x.L, .int .i64 x.K, .bool x.N.neg, .slice xa x.N.an xac, .slice xb x.N.am xbc, .int .i64 x.C, .slice xi x.k xkc] 65)).alloc (.cells #[.int .u64 y.L, .int .i64 y.K, .bool y.N.neg, .slice ya y.N.an yac, .slice yb y.N.am ybc, .int .i64 y.C, .slice yi y.k ykc] 65)) (a := 0) (k := 0) (c := 0) (b := false) (p := none) (q := none) (r := none) (n := 0) (nc := 0) (m := 0) (mc := 0) (l := 0) (lc := 0) (t := 65); simpa using this⟩ ?_
 rintro w1 ⟨bb, X, Y, Z, sz⟩
 have p0 := X.c0; have q0 := Y.c0
 have bb' := Lib.hid bb; have X' := Lib.hid X; have Y' := Lib.hid Y; have Z' := Lib.hid Z; have s2' := Lib.hid sz
 clear bb X Y Z sz
 go_wp2_with fail
 refine (join_any x.L y.L xL'.out yL'.out w1).mono ?_
 rintro e2 w1' ⟨rfl, rfl⟩
 clear p0 q0
 obtain ⟨bx, hbxv⟩ : ∃ bx, Hid (bx = decide (x.K = 2 ∨ y.K = 2)) := ⟨_, Lib.hid rfl⟩
 go_upto_region 2 with fail
 go_cut [19] from 20 to 25 (fun s19 wx => s19 = .bool bx ∧ Below w.heap.size w wx ∧ Box7 wx w.heap.size (.int .u64 x.L) (.int .i64 x.K) (.bool x.N.neg) (.slice xa x.N.an xac) (.slice xb x.N.am xbc) (.int .i64 x.C) (.slice xi x.k xkc) ∧ Box7 wx (w.heap.size + 1) (.int .u64 y.L) (.int .i64 y.K) (.bool y.N.neg) (.slice ya y.N.an yac) (.slice yb y.N.am ybc) (.int .i64 y.C) (.slice yi y.k ykc) ∧ Box7 wx (w.heap.size + 2) (.int .u64 0) (.int .i64 0) (.bool false) (.slice none 0 0) (.slice none 0 0) (.int .i64 0) (.slice none 0 0) ∧ Shut wx (w.heap.size + 2))
 case first =>
  by_cases hx2 : x.K = 2
  ·have hib := Lib.hid (show isBoxB x.K x.k = true from decide_eq_true ⟨hx2, (ox'.out.box hx2).2.1⟩)
   have hv := Lib.hid (show bx = true from by rw [hbxv.out]; exact decide_eq_true (.inl hx2))
   clear hx2
   have p0 := X'.out.c0; have p1 := X'.out.c1; have p2 := X'.out.c2; have p3 := X'.out.c3; have p4 := X'.out.c4; have p5 := X'.out.c5; have p6 := X'.out.c6
   go_wp2_with fail
   refine ((hbx.out _).mono fun _ _ h => (show Tell (.bool true) _ _ _ from by rw [hib.out] at h; exact h)).mono ?_
   rintro e3 w2 ⟨rfl, hb⟩
   replace bb' := Lib.hid (below_then bb'.out (Nat.le_refl _) hb); replace X' := Lib.hid (X'.out.later hb); replace Y' := Lib.hid (Y'.out.later hb); replace Z' := Lib.hid (Z'.out.later hb); replace s2' := Lib.hid (s2'.out.later hb)
   clear hb
   clear p0 p1 p2 p3 p4 p5 p6
   go_wp2_with fail
   go_meet
   exact ⟨by rw [hv.out], bb'.out, X'.out, Y'.out, Z'.out, s2'.out⟩
  ·have hibx := Lib.hid (isBoxB_not (k := x.k) hx2)
   by_cases hy2 : y.K = 2
   ·have hib := Lib.hid (show isBoxB y.K y.k = true from decide_eq_true ⟨hy2, (oy'.out.box hy2).2.1⟩)
    have hv := Lib.hid (show bx = true from by rw [hbxv.out]; exact decide_eq_true (.inr hy2))
    clear hx2 hy2
    have p0 := X'.out.c0; have p1 := X'.out.c1; have p2 := X'.out.c2; have p3 := X'.out.c3; have p4 := X'.out.c4; have p5 := X'.out.c5; have p6 := X'.out.c6
    go_wp2_with fail
    refine ((hbx.out _).mono fun _ _ h => (show Tell (.bool false) _ _ _ from by rw [hibx.out] at h; exact h)).mono ?_
    rintro e3 w2 ⟨rfl, hb⟩
    replace bb' := Lib.hid (below_then bb'.out (Nat.le_refl _) hb); replace X' := Lib.hid (X'.out.later hb); replace Y' := Lib.hid (Y'.out.later hb); replace Z' := Lib.hid (Z'.out.later hb); replace s2' := Lib.hid (s2'.out.later hb)
    clear hb
    clear p0 p1 p2 p3 p4 p5 p6
    have q0 := Y'.out.c0; have q1 := Y'.out.c1; have q2 := Y'.out.c2; have q3 := Y'.out.c3; have q4 := Y'.out.c4; have q5 := Y'.out.c5; have q6 := Y'.out.c6
    go_wp2_with fail
    refine ((hby.out _).mono fun _ _ h => (show Tell (.bool true) _ _ _ from by rw [hib.out] at h; exact h)).mono ?_
    rintro e4 w2 ⟨rfl, hb⟩
    replace bb' := Lib.hid (below_then bb'.out (Nat.le_refl _) hb); replace X' := Lib.hid (X'.out.later hb); replace Y' := Lib.hid (Y'.out.later hb); replace Z' := Lib.hid (Z'.out.later hb); replace s2' := Lib.hid (s2'.out.later hb)
    clear hb
    clear q0 q1 q2 q3 q4 q5 q6
    go_wp2_with fail
    go_meet
    exact ⟨by rw [hv.out], bb'.out, X'.out, Y'.out, Z'.out, s2'.out⟩
   ·have hiby := Lib.hid (isBoxB_not (k := y.k) hy2)
    have hv := Lib.hid (show bx = false from by rw [hbxv.out]; exact decide_eq_false (by omega))
    clear hx2 hy2
    have p0 := X'.out.c0; have p1 := X'.out.c1; have p2 := X'.out.c2; have p3 := X'.out.c3; have p4 := X'.out.c4; have p5 := X'.out.c5; have p6 := X'.out.c6
    go_wp2_with fail
    refine ((hbx.out _).mono fun _ _ h => (show Tell (.bool false) _ _ _ from by rw [hibx.out] at h; exact h)).mono ?_
    rintro e3 w2 ⟨rfl, hb⟩
    replace bb' := Lib.hid (below_then bb'.out (Nat.le_refl _) hb); replace X' := Lib.hid (X'.out.later hb); replace Y' := Lib.hid (Y'.out.later hb); replace Z' := Lib.hid (Z'.out.later hb); replace s2' := Lib.hid (s2'.out.later hb)
    clear hb
    clear p0 p1 p2 p3 p4 p5 p6
    have q0 := Y'.out.c0; have q1 := Y'.out.c1; have q2 := Y'.out.c2; have q3 := Y'.out.c3; have q4 := Y'.out.c4; have q5 := Y'.out.c5; have q6 := Y'.out.c6
    go_wp2_with fail
    refine ((hby.out _).mono fun _ _ h => (show Tell (.bool false) _ _ _ from by rw [hiby.out] at h; exact h)).mono ?_
    rintro e4 w2 ⟨rfl, hb⟩
    replace bb' := Lib.hid (below_then bb'.out (Nat.le_refl _) hb); replace X' := Lib.hid (X'.out.later hb); replace Y' := Lib.hid (Y'.out.later hb); replace Z' := Lib.hid (Z'.out.later hb); replace s2' := Lib.hid (s2'.out.later hb)
    clear hb
    clear q0 q1 q2 q3 q4 q5 q6
    go_wp2_with fail
    go_meet
    exact ⟨by rw [hv.out], bb'.out, X'.out, Y'.out, Z'.out, s2'.out⟩
 case rest =>
  obtain ⟨rfl, bb, X, Y, Z, sz⟩ := hcut
  obtain ⟨w2, hw2⟩ : ∃ w2, w2 = wc := ⟨_, rfl⟩
  rw [← hw2] at bb X Y Z sz ⊢
  clear bb' X' Y' Z' s2' hw2
  have bb' := Lib.hid bb; have X' := Lib.hid X; have Y' := Lib.hid Y; have Z' := Lib.hid Z; have s2' := Lib.hid sz
  clear bb X Y Z sz
  cases bx with
  | true =>
   have hbox := Lib.hid (show x.K = 2 ∨ y.K = 2 from of_decide_eq_true hbxv.out.symm)
   have hdpos := Lib.hid (show 0 < d from by
    rcases hbox.out with h | h
    ·exact (ox'.out.box h).2.2.1
    ·exact (oy'.out.box h).2.2.1)
   have hd1 : 0 < d := hdpos.out
   obtain ⟨d', rfl⟩ : ∃ d', d = d' + 1 := ⟨d - 1, by omega⟩
   have ix := ox'.out.inner; have iy := oy'.out.inner
   have ixa := Lib.hid ix; have iya := Lib.hid iy
   have hix := Lib.hid (show ∀ (W : World) (Q : Nat → Prop), CellNQ W Q x e → Calls Tryz.prog 136 #[.agg #[.int .u64 x.L, .int .i64 x.K, .bool x.N.neg, .slice xa x.N.an xac, .slice xb x.N.am xbc, .int .i64 x.C, .slice xi x.k xkc]] W (TreeQN (innerT x) Q W) from fun W Q hW => by
    have := openedQ_any x Q e W hW (fun hK => (ox'.out.box hK).2.1)
    rw [← xv'.out] at this; exact this)
   have hiy := Lib.hid (show ∀ (W : World) (Q : Nat → Prop), CellNQ W Q y e' → Calls Tryz.prog 136 #[.agg #[.int .u64 y.L, .int .i64 y.K, .bool y.N.neg, .slice ya y.N.an yac, .slice yb y.N.am ybc, .int .i64 y.C, .slice yi y.k ykc]] W (TreeQN (innerT y) Q W) from fun W Q hW => by
    have := openedQ_any y Q e' W hW (fun hK => (oy'.out.box hK).2.1)
    rw [← yv'.out] at this; exact this)
   have hTwo := Lib.hid (h'.out d' rfl)
   have hEi := Lib.hid (show EE = twoE f (d' + 1) (innerT x) (innerT y) from by rw [hEE'.out]; exact if_pos hbox.out)
   have hxw := Lib.hid (show CellNQ w2 (fun b => Q0 b ∧ b < w.heap.size) x e from CellQ.keep hx'.out (fun b hq _ => bb'.out.block b hq.2) (fun _ hq _ => hq) fun _ _ _ _ hd => ArrQ.keep (fun b hq _ => bb'.out.block b hq.2) (fun _ hq _ => hq) _ _ _ _ hd)
   have hyw := Lib.hid (show CellNQ w2 (fun b => Q0 b ∧ b < w.heap.size) y e' from CellQ.keep hy'.out (fun b hq _ => bb'.out.block b hq.2) (fun _ hq _ => hq) fun _ _ _ _ hd => ArrQ.keep (fun b hq _ => bb'.out.block b hq.2) (fun _ hq _ => hq) _ _ _ _ hd)
   clear ix iy
   go_upto_region 3 with fail
   have bb := bb'.out; have X := X'.out; have Y := Y'.out; have Z := Z'.out; have s2 := s2'.out; have hxq := hxw.out; have hyq := hyw.out
   clear bb' X' Y' Z' s2' hxw hyw
   have hOl := Z.lt
   go_cut [9, 10] from 26 to 34 (fun s9 e10 wx => ∃ (E4 St nt nct mt mct : Nat) (aot cot : Option Addr), s9 = .pointer (some ⟨E4, 0, none⟩) ∧ e10 = .int .i64 EE ∧ Below w.heap.size w wx ∧ Box7 wx (w.heap.size + 2) (.int .u64 0) (.int .i64 0) (.bool false) (.slice none 0 0) (.slice none 0 0) (.int .i64 0) (.slice none 0 0) ∧ Box3 wx E4 (.int .u64 (St : Nat)) (.slice aot nt nct) (.slice cot mt mct) ∧ ArrQ wx (fun b => Prov Q0 w b ∧ b ≠ w.heap.size + 2) (resT EE (twoT f (d' + 1) (innerT x) (innerT y))) (.int .u64 (St : Nat)) (.slice aot nt nct) (.slice cot mt mct) ∧ w.heap.size + 3 ≤ E4)
   case first =>
    have sn0 := True.intro
    go_region_held3 (fun w' => w'.cell? ⟨w.heap.size, 0, none⟩ = some (.int .u64 x.L) ∧ w'.cell? ⟨w.heap.size, 1, none⟩ = some (.int .i64 x.K) ∧ w'.cell? ⟨w.heap.size, 2, none⟩ = some (.bool x.N.neg) ∧ w'.cell? ⟨w.heap.size, 3, none⟩ = some (.slice xa x.N.an xac) ∧ w'.cell? ⟨w.heap.size, 4, none⟩ = some (.slice xb x.N.am xbc) ∧ w'.cell? ⟨w.heap.size, 5, none⟩ = some (.int .i64 x.C) ∧ w'.cell? ⟨w.heap.size, 6, none⟩ = some (.slice xi x.k xkc) ∧ w'.cell? ⟨w.heap.size + 1, 0, none⟩ = some (.int .u64 y.L) ∧ w'.cell? ⟨w.heap.size + 1, 1, none⟩ = some (.int .i64 y.K) ∧ w'.cell? ⟨w.heap.size + 1, 2, none⟩ = some (.bool y.N.neg) ∧ w'.cell? ⟨w.heap.size + 1, 3, none⟩ = some (.slice ya y.N.an yac) ∧ w'.cell? ⟨w.heap.size + 1, 4, none⟩ = some (.slice yb y.N.am ybc) ∧ w'.cell? ⟨w.heap.size + 1, 5, none⟩ = some (.int .i64 y.C) ∧ w'.cell? ⟨w.heap.size + 1, 6, none⟩ = some (.slice yi y.k ykc))
     (first | with_reducible exact ⟨X.c0, X.c1, X.c2, X.c3, X.c4, X.c5, X.c6, Y.c0, Y.c1, Y.c2, Y.c3, Y.c4, Y.c5, Y.c6⟩ | with_reducible exact ⟨X.drew.c0, X.drew.c1, X.drew.c2, X.drew.c3, X.drew.c4, X.drew.c5, X.drew.c6, Y.drew.c0, Y.drew.c1, Y.drew.c2, Y.drew.c3, Y.drew.c4, Y.drew.c5, Y.drew.c6⟩ | with_reducible exact ⟨(X.alloc _).c0, (X.alloc _).c1, (X.alloc _).c2, (X.alloc _).c3, (X.alloc _).c4, (X.alloc _).c5, (X.alloc _).c6, (Y.alloc _).c0, (Y.alloc _).c1, (Y.alloc _).c2, (Y.alloc _).c3, (Y.alloc _).c4, (Y.alloc _).c5, (Y.alloc _).c6⟩ | with_reducible exact ⟨(X.alloc _).drew.c0, (X.alloc _).drew.c1, (X.alloc _).drew.c2, (X.alloc _).drew.c3, (X.alloc _).drew.c4, (X.alloc _).drew.c5, (X.alloc _).drew.c6, (Y.alloc _).drew.c0, (Y.alloc _).drew.c1, (Y.alloc _).drew.c2, (Y.alloc _).drew.c3, (Y.alloc _).drew.c4, (Y.alloc _).drew.c5, (Y.alloc _).drew.c6⟩ | with_reducible exact ⟨XS.c0, XS.c1, XS.c2, XS.c3, XS.c4, XS.c5, XS.c6, YS.c0, YS.c1, YS.c2, YS.c3, YS.c4, YS.c5, YS.c6⟩ | exact ⟨(X.alloc _).c0, (X.alloc _).c1, (X.alloc _).c2, (X.alloc _).c3, (X.alloc _).c4, (X.alloc _).c5, (X.alloc _).c6, (Y.alloc _).c0, (Y.alloc _).c1, (Y.alloc _).c2, (Y.alloc _).c3, (Y.alloc _).c4, (Y.alloc _).c5, (Y.alloc _).c6⟩ | go_keep)
     (first
    | (go_at_call 136; clear sn0; refine (hix.out _ (fun b => Q0 b ∧ b < w.heap.size) ?_).mono ?_; (with_reducible exact CellNQ.later hxq (Below.refl _ _).drew); rintro e3 u1 ⟨z0, z1, z2, rfl, hN, hb⟩; have hda := (Below.refl w2.heap.size w2).drew; have bb := below_then bb (Nat.le_refl _) hda; have X := X.later hda; have Y := Y.later hda; have Z := Z.later hda; have s2 := s2.later hda; have hyq := hyq.later hda; clear hda; have hsd1 : w2.drew.heap.size = w2.heap.size := rfl; have hsz1 := hb.size; obtain ⟨Sa, na, nca, ma, mca, aoa, coa, ea0, ea1, ea2⟩ := hN.form; subst ea0; subst ea1; subst ea2; have hA := ArrQ.keep (Q' := fun b => (Q0 b ∧ b < w.heap.size) ∨ w.heap.size + 3 ≤ b) (fun _ _ _ => rfl) (fun b hq _ => by have hol := Z.lt; rcases hq with h | h; exact .inl h; exact .inr (by first | omega | exact ⟨by omega, by omega⟩)) _ _ _ _ hN; clear hN; have bb := below_then bb (Nat.le_refl _) hb; have X := X.later hb; have Y := Y.later hb; have Z := Z.later hb; have s2 := s2.later hb; have hyq := hyq.later hb; clear hb hxq; have sn1 := True.intro)
    | (go_at_call 136; clear sn0; refine (hix.out _ (fun b => Q0 b ∧ b < w.heap.size) ?_).mono ?_; (with_reducible exact CellNQ.later hxq ((Below.refl _ _).alloc (Nat.le_refl _) (.cells #[.int .u64 0, .slice none 0 0, .slice none 0 0] 45)).drew); rintro e3 u1 ⟨z0, z1, z2, rfl, hN, hb⟩; have hox := Z.lt; have hda := ((Below.refl w2.heap.size w2).alloc (Nat.le_refl _) (.cells #[.int .u64 0, .slice none 0 0, .slice none 0 0] 45)).drew; have s4 := shut3 (w := w2) (a := 0) (p := none) (q := none) (n := 0) (nc := 0) (m := 0) (mc := 0) (t := 45); have I := Box3.new (w := w2) (B := w2.heap.size) (.int .u64 0) (.slice none 0 0) (.slice none 0 0) 45 rfl; have s4 := s4.later (Below.refl _ _).drew; have I := I.later (Below.refl _ _).drew; have bb := below_then bb (Nat.le_refl _) hda; have X := X.later hda; have Y := Y.later hda; have Z := Z.later hda; have s2 := s2.later hda; have hyq := hyq.later hda; clear hda; have hsd1 : ((w2.alloc (.cells #[.int .u64 0, .slice none 0 0, .slice none 0 0] 45)).drew).heap.size = w2.heap.size + 1 := (by simp); have hsz1 := hb.size; obtain ⟨Sa, na, nca, ma, mca, aoa, coa, ea0, ea1, ea2⟩ := hN.form; subst ea0; subst ea1; subst ea2; have hA := ArrQ.keep (Q' := fun b => (Q0 b ∧ b < w.heap.size) ∨ (w.heap.size + 3 ≤ b ∧ b ≠ w2.heap.size)) (fun _ _ _ => rfl) (fun b hq _ => by have hol := Z.lt; have h4 := s4.1; rcases hq with h | h; exact .inl h; exact .inr (by first | omega | exact ⟨by omega, by omega⟩)) _ _ _ _ hN; clear hN; have bb := below_then bb (Nat.le_refl _) hb; have X := X.later hb; have Y := Y.later hb; have Z := Z.later hb; have I := I.later hb; have s2 := s2.later hb; have s4 := s4.later hb; have hyq := hyq.later hb; clear hb hxq; have sp1w2 := True.intro)
    | (go_at_call 136; clear sn1; refine (hiy.out _ (fun b => Q0 b ∧ b < w.heap.size) ?_).mono ?_; (with_reducible exact hyq); rintro e3 u2 ⟨z0, z1, z2, rfl, hN, hb⟩; have hsz2 := hb.size; obtain ⟨Sb, nb, ncb, mb, mcb, aob, cob, eb0, eb1, eb2⟩ := hN.form; subst eb0; subst eb1; subst eb2; have hB := ArrQ.keep (Q' := fun b => (Q0 b ∧ b < w.heap.size) ∨ w.heap.size + 3 ≤ b) (fun _ _ _ => rfl) (fun b hq _ => by have hol := Z.lt; rcases hq with h | h; exact .inl h; exact .inr (by first | omega | exact ⟨by omega, by omega⟩)) _ _ _ _ hN; clear hN; have bb := below_then bb (Nat.le_refl _) hb; have X := X.later hb; have Y := Y.later hb; have Z := Z.later hb; have s2 := s2.later hb; have hA := ArrQ.laterQ hA hb; clear hb hyq; have sn2 := True.intro)
    | (go_at_call 136; clear sn1; have hA := ArrQ.keep (Q' := fun b => (Q0 b ∧ b < w.heap.size) ∨ (w.heap.size + 3 ≤ b ∧ b ≠ u1.heap.size)) (fun _ _ _ => rfl) (fun b hq hlt => by rcases hq with h | h; exact .inl h; exact .inr ⟨h, by omega⟩) _ _ _ _ hA; refine (hiy.out _ (fun b => Q0 b ∧ b < w.heap.size) ?_).mono ?_; (with_reducible exact CellNQ.later hyq ((Below.refl _ _).alloc (Nat.le_refl _) (.cells #[.int .u64 0, .slice none 0 0, .slice none 0 0] 45))); rintro e3 u2 ⟨z0, z1, z2, rfl, hN, hb⟩; have hox := Z.lt; have hda := ((Below.refl u1.heap.size u1).alloc (Nat.le_refl _) (.cells #[.int .u64 0, .slice none 0 0, .slice none 0 0] 45)); have s4 := shut3 (w := u1) (a := 0) (p := none) (q := none) (n := 0) (nc := 0) (m := 0) (mc := 0) (t := 45); have I := Box3.new (w := u1) (B := u1.heap.size) (.int .u64 0) (.slice none 0 0) (.slice none 0 0) 45 rfl; have bb := below_then bb (Nat.le_refl _) hda; have X := X.later hda; have Y := Y.later hda; have Z := Z.later hda; have s2 := s2.later hda; have hA := ArrQ.laterQ hA hda; clear hda; have hsd2 : ((u1.alloc (.cells #[.int .u64 0, .slice none 0 0, .slice none 0 0] 45))).heap.size = u1.heap.size + 1 := (by simp); have hsz2 := hb.size; obtain ⟨Sb, nb, ncb, mb, mcb, aob, cob, eb0, eb1, eb2⟩ := hN.form; subst eb0; subst eb1; subst eb2; have hB := ArrQ.keep (Q' := fun b => (Q0 b ∧ b < w.heap.size) ∨ (w.heap.size + 3 ≤ b ∧ b ≠ u1.heap.size)) (fun _ _ _ => rfl) (fun b hq _ => by have hol := Z.lt; have h4 := s4.1; rcases hq with h | h; exact .inl h; exact .inr (by first | omega | exact ⟨by omega, by omega⟩)) _ _ _ _ hN; clear hN; have bb := below_then bb (Nat.le_refl _) hb; have X := X.later hb; have Y := Y.later hb; have Z := Z.later hb; have I := I.later hb; have s2 := s2.later hb; have s4 := s4.later hb; have hA := ArrQ.laterQ hA hb; clear hb hyq; have sp2u1 := True.intro)
    | (go_at_call 136; clear sp1w2; refine (hiy.out _ (fun b => Q0 b ∧ b < w.heap.size) ?_).mono ?_; (with_reducible exact hyq); rintro e3 u2 ⟨z0, z1, z2, rfl, hN, hb⟩; have hsz2 := hb.size; obtain ⟨Sb, nb, ncb, mb, mcb, aob, cob, eb0, eb1, eb2⟩ := hN.form; subst eb0; subst eb1; subst eb2; have hB := ArrQ.keep (Q' := fun b => (Q0 b ∧ b < w.heap.size) ∨ (w.heap.size + 3 ≤ b ∧ b ≠ w2.heap.size)) (fun _ _ _ => rfl) (fun b hq _ => by have hol := Z.lt; have h4 := s4.1; rcases hq with h | h; exact .inl h; exact .inr (by first | omega | exact ⟨by omega, by omega⟩)) _ _ _ _ hN; clear hN; have bb := below_then bb (Nat.le_refl _) hb; have X := X.later hb; have Y := Y.later hb; have Z := Z.later hb; have I := I.later hb; have s2 := s2.later hb; have s4 := s4.later hb; have hA := ArrQ.laterQ hA hb; clear hb hyq; have sp2w2 := True.intro)
    | (go_at_call 29; clear sn2; refine (hTwo.out _ _ (fun b => (Q0 b ∧ b < w.heap.size) ∨ w.heap.size + 3 ≤ b) _ _ _ _ _ _ _ ?_ ?_ ixa.out.1 iya.out.1 ixa.out.2 iya.out.2).mono ?_; (with_reducible exact hA); (with_reducible exact hB); rintro e3 u3 ⟨⟨z0, z1, z2, rfl, hT⟩, hb⟩; have hsz3 := hb.size; obtain ⟨St, nt, nct, mt, mct, aot, cot, et0, et1, et2⟩ := hT.form; subst et0; subst et1; subst et2; have hT := ArrQ.keep (Q' := fun b => Prov Q0 w b ∧ b ≠ w.heap.size + 2) (fun _ _ _ => rfl) (fun b hq _ => two_freeP3 hq bb s2) _ _ _ _ hT; have bb := below_then bb (Nat.le_refl _) hb; have X := X.later hb; have Y := Y.later hb; have Z := Z.later hb; have hO := Z.lt; clear hb hA hB s2; have done3 := True.intro)
    | (go_at_call 29; clear sn2; have hA := ArrQ.keep (Q' := fun b => (Q0 b ∧ b < w.heap.size) ∨ (w.heap.size + 3 ≤ b ∧ b ≠ u2.heap.size)) (fun _ _ _ => rfl) (fun b hq hlt => by rcases hq with h | h; exact .inl h; exact .inr ⟨h, by omega⟩) _ _ _ _ hA; have hB := ArrQ.keep (Q' := fun b => (Q0 b ∧ b < w.heap.size) ∨ (w.heap.size + 3 ≤ b ∧ b ≠ u2.heap.size)) (fun _ _ _ => rfl) (fun b hq hlt => by rcases hq with h | h; exact .inl h; exact .inr ⟨h, by omega⟩) _ _ _ _ hB; refine (hTwo.out _ _ (fun b => (Q0 b ∧ b < w.heap.size) ∨ (w.heap.size + 3 ≤ b ∧ b ≠ u2.heap.size)) _ _ _ _ _ _ _ ?_ ?_ ixa.out.1 iya.out.1 ixa.out.2 iya.out.2).mono ?_; (with_reducible exact ArrQ.laterQ hA ((Below.refl _ _).alloc (Nat.le_refl _) (.cells #[.int .u64 0, .slice none 0 0, .slice none 0 0] 45))); (with_reducible exact ArrQ.laterQ hB ((Below.refl _ _).alloc (Nat.le_refl _) (.cells #[.int .u64 0, .slice none 0 0, .slice none 0 0] 45))); rintro e3 u3 ⟨⟨z0, z1, z2, rfl, hT⟩, hb⟩; have hox := Z.lt; have hda := ((Below.refl u2.heap.size u2).alloc (Nat.le_refl _) (.cells #[.int .u64 0, .slice none 0 0, .slice none 0 0] 45)); have s4 := shut3 (w := u2) (a := 0) (p := none) (q := none) (n := 0) (nc := 0) (m := 0) (mc := 0) (t := 45); have I := Box3.new (w := u2) (B := u2.heap.size) (.int .u64 0) (.slice none 0 0) (.slice none 0 0) 45 rfl; have bb := below_then bb (Nat.le_refl _) hda; have X := X.later hda; have Y := Y.later hda; have Z := Z.later hda; have s2 := s2.later hda; have hA := ArrQ.laterQ hA hda; have hB := ArrQ.laterQ hB hda; clear hda; have hsd3 : ((u2.alloc (.cells #[.int .u64 0, .slice none 0 0, .slice none 0 0] 45))).heap.size = u2.heap.size + 1 := (by simp); have hsz3 := hb.size; obtain ⟨St, nt, nct, mt, mct, aot, cot, et0, et1, et2⟩ := hT.form; subst et0; subst et1; subst et2; have hT := ArrQ.keep (Q' := fun b => (Prov Q0 w b ∧ b ≠ w.heap.size + 2) ∧ b ≠ u2.heap.size) (fun _ _ _ => rfl) (fun b hq _ => two_freeP hq bb s2 s4 (by omega)) _ _ _ _ hT; have bb := below_then bb (Nat.le_refl _) hb; have X := X.later hb; have Y := Y.later hb; have Z := Z.later hb; have I := I.later hb; have hO := Z.lt; have hI := I.lt; have XS := ((X.aside (D := u2.heap.size) (by omega) 0 (.int .u64 (St : Nat))).aside (D := u2.heap.size) (by omega) 1 (.slice aot nt nct)).aside (D := u2.heap.size) (by omega) 2 (.slice cot mt mct); have YS := ((Y.aside (D := u2.heap.size) (by omega) 0 (.int .u64 (St : Nat))).aside (D := u2.heap.size) (by omega) 1 (.slice aot nt nct)).aside (D := u2.heap.size) (by omega) 2 (.slice cot mt mct); have ZS := ((Z.aside (D := u2.heap.size) (by omega) 0 (.int .u64 (St : Nat))).aside (D := u2.heap.size) (by omega) 1 (.slice aot nt nct)).aside (D := u2.heap.size) (by omega) 2 (.slice cot mt mct); have i0 := I.c0; have i1 := I.c1; have i2 := I.c2; have j0 := I.fr 0; have j1 := I.fr 1; have j2 := I.fr 2; clear hb hA hB s2 s4; have done3 := True.intro)
    | (go_at_call 29; clear sp2u1; refine (hTwo.out _ _ (fun b => (Q0 b ∧ b < w.heap.size) ∨ (w.heap.size + 3 ≤ b ∧ b ≠ u1.heap.size)) _ _ _ _ _ _ _ ?_ ?_ ixa.out.1 iya.out.1 ixa.out.2 iya.out.2).mono ?_; (with_reducible exact hA); (with_reducible exact hB); rintro e3 u3 ⟨⟨z0, z1, z2, rfl, hT⟩, hb⟩; have hsz3 := hb.size; obtain ⟨St, nt, nct, mt, mct, aot, cot, et0, et1, et2⟩ := hT.form; subst et0; subst et1; subst et2; have hT := ArrQ.keep (Q' := fun b => (Prov Q0 w b ∧ b ≠ w.heap.size + 2) ∧ b ≠ u1.heap.size) (fun _ _ _ => rfl) (fun b hq _ => two_freeP hq bb s2 s4 (by omega)) _ _ _ _ hT; have bb := below_then bb (Nat.le_refl _) hb; have X := X.later hb; have Y := Y.later hb; have Z := Z.later hb; have I := I.later hb; have hO := Z.lt; have hI := I.lt; have XS := ((X.aside (D := u1.heap.size) (by omega) 0 (.int .u64 (St : Nat))).aside (D := u1.heap.size) (by omega) 1 (.slice aot nt nct)).aside (D := u1.heap.size) (by omega) 2 (.slice cot mt mct); have YS := ((Y.aside (D := u1.heap.size) (by omega) 0 (.int .u64 (St : Nat))).aside (D := u1.heap.size) (by omega) 1 (.slice aot nt nct)).aside (D := u1.heap.size) (by omega) 2 (.slice cot mt mct); have ZS := ((Z.aside (D := u1.heap.size) (by omega) 0 (.int .u64 (St : Nat))).aside (D := u1.heap.size) (by omega) 1 (.slice aot nt nct)).aside (D := u1.heap.size) (by omega) 2 (.slice cot mt mct); have i0 := I.c0; have i1 := I.c1; have i2 := I.c2; have j0 := I.fr 0; have j1 := I.fr 1; have j2 := I.fr 2; clear hb hA hB s2 s4; have done3 := True.intro)
    | (go_at_call 29; clear sp2w2; refine (hTwo.out _ _ (fun b => (Q0 b ∧ b < w.heap.size) ∨ (w.heap.size + 3 ≤ b ∧ b ≠ w2.heap.size)) _ _ _ _ _ _ _ ?_ ?_ ixa.out.1 iya.out.1 ixa.out.2 iya.out.2).mono ?_; (with_reducible exact hA); (with_reducible exact hB); rintro e3 u3 ⟨⟨z0, z1, z2, rfl, hT⟩, hb⟩; have hsz3 := hb.size; obtain ⟨St, nt, nct, mt, mct, aot, cot, et0, et1, et2⟩ := hT.form; subst et0; subst et1; subst et2; have hT := ArrQ.keep (Q' := fun b => (Prov Q0 w b ∧ b ≠ w.heap.size + 2) ∧ b ≠ w2.heap.size) (fun _ _ _ => rfl) (fun b hq _ => two_freeP hq bb s2 s4 (by omega)) _ _ _ _ hT; have bb := below_then bb (Nat.le_refl _) hb; have X := X.later hb; have Y := Y.later hb; have Z := Z.later hb; have I := I.later hb; have hO := Z.lt; have hI := I.lt; have XS := ((X.aside (D := w2.heap.size) (by omega) 0 (.int .u64 (St : Nat))).aside (D := w2.heap.size) (by omega) 1 (.slice aot nt nct)).aside (D := w2.heap.size) (by omega) 2 (.slice cot mt mct); have YS := ((Y.aside (D := w2.heap.size) (by omega) 0 (.int .u64 (St : Nat))).aside (D := w2.heap.size) (by omega) 1 (.slice aot nt nct)).aside (D := w2.heap.size) (by omega) 2 (.slice cot mt mct); have ZS := ((Z.aside (D := w2.heap.size) (by omega) 0 (.int .u64 (St : Nat))).aside (D := w2.heap.size) (by omega) 1 (.slice aot nt nct)).aside (D := w2.heap.size) (by omega) 2 (.slice cot mt mct); have i0 := I.c0; have i1 := I.c1; have i2 := I.c2; have j0 := I.fr 0; have j1 := I.fr 1; have j2 := I.fr 2; clear hb hA hB s2 s4; have done3 := True.intro))
    ·clear done3
     rw [← hEi.out] at hT
     have hO' := Z.lt
     have bw := bb.alloc bb.size (.cells #[.int .u64 (St : Nat), .slice aot nt nct, .slice cot mt mct] 45)
     have Zw := Z.alloc (.cells #[.int .u64 (St : Nat), .slice aot nt nct, .slice cot mt mct] 45)
     have Iw := Box3.new (w := u3) (B := u3.heap.size) (.int .u64 (St : Nat)) (.slice aot nt nct) (.slice cot mt mct) 45 rfl
     have hTw := ArrQ.laterQ hT ((Below.refl _ _).alloc (Nat.le_refl _) (.cells #[.int .u64 (St : Nat), .slice aot nt nct, .slice cot mt mct] 45))
     go_wp2_with fail
     go_meet
     exact ⟨u3.heap.size, St, nt, nct, mt, mct, aot, cot, rfl, by rw [hEi.out], bw, Zw, Iw, hTw, by omega⟩
    ·clear done3
     rw [← hEi.out] at hT
     have bw := below_set3 bb (B := u2.heap.size) (by omega) (.int .u64 (St : Nat)) (.slice aot nt nct) (.slice cot mt mct)
     have Iw := I.set (.int .u64 (St : Nat)) (.slice aot nt nct) (.slice cot mt mct)
     have hTw := ArrQ.keep (Q' := fun b => Prov Q0 w b ∧ b ≠ w.heap.size + 2) (fun b hq _ => heap_set012 (w := u3) hq.2 (.int .u64 (St : Nat)) (.slice aot nt nct) (.slice cot mt mct)) (fun b hq _ => hq.1) _ _ _ _ hT
     go_wp2_with fail
     go_meet
     exact ⟨u2.heap.size, St, nt, nct, mt, mct, aot, cot, rfl, by rw [hEi.out], bw, ZS, Iw, hTw, by omega⟩
    ·clear done3
     rw [← hEi.out] at hT
     have bw := below_set3 bb (B := u1.heap.size) (by omega) (.int .u64 (St : Nat)) (.slice aot nt nct) (.slice cot mt mct)
     have Iw := I.set (.int .u64 (St : Nat)) (.slice aot nt nct) (.slice cot mt mct)
     have hTw := ArrQ.keep (Q' := fun b => Prov Q0 w b ∧ b ≠ w.heap.size + 2) (fun b hq _ => heap_set012 (w := u3) hq.2 (.int .u64 (St : Nat)) (.slice aot nt nct) (.slice cot mt mct)) (fun b hq _ => hq.1) _ _ _ _ hT
     go_wp2_with fail
     go_meet
     exact ⟨u1.heap.size, St, nt, nct, mt, mct, aot, cot, rfl, by rw [hEi.out], bw, ZS, Iw, hTw, by omega⟩
    ·clear done3
     rw [← hEi.out] at hT
     have bw := below_set3 bb (B := w2.heap.size) (by omega) (.int .u64 (St : Nat)) (.slice aot nt nct) (.slice cot mt mct)
     have Iw := I.set (.int .u64 (St : Nat)) (.slice aot nt nct) (.slice cot mt mct)
     have hTw := ArrQ.keep (Q' := fun b => Prov Q0 w b ∧ b ≠ w.heap.size + 2) (fun b hq _ => heap_set012 (w := u3) hq.2 (.int .u64 (St : Nat)) (.slice aot nt nct) (.slice cot mt mct)) (fun b hq _ => hq.1) _ _ _ _ hT
     go_wp2_with fail
     go_meet
     exact ⟨w2.heap.size, St, nt, nct, mt, mct, aot, cot, rfl, by rw [hEi.out], bw, ZS, Iw, hTw, by omega⟩
   case rest =>
    obtain ⟨E4, St, nt, nct, mt, mct, aot, cot, rfl, rfl, bb, Z, I, hT, hE4⟩ := hcut
    have i0 := I.c0; have i1 := I.c1; have i2 := I.c2
    have hD2 := Lib.hid (show EE = 0 → twoD f x y (resT EE (twoT f (d' + 1) (innerT x) (innerT y))) = DD from fun h0 => by rw [hDD'.out]; unfold resT; rw [if_pos h0])
    obtain ⟨TT, hTT⟩ : ∃ TT, TT = resT EE (twoT f (d' + 1) (innerT x) (innerT y)) := ⟨_, rfl⟩
    rw [← hTT] at hT hD2
    have bb' := Lib.hid bb; have Z' := Lib.hid Z; have hT' := Lib.hid hT
    clear bb X Y Z I hT hTT s2 hxq hyq
    by_cases hE0 : EE = 0
    ·have hDz := Lib.hid (hD2.out hE0)
     have hEz := Lib.hid hE0.symm
     subst hE0
     have hcall := Lib.hid (boxed_ok (orL x.L y.L) St nt nct mt mct aot cot wc)
     go_wp2_with fail
     refine hcall.out.mono ?_
     rintro e5 w5 ⟨B, rfl, hB, ⟨g0, g1, g2⟩, hb5⟩
     have hBs := Lib.hid (show w.heap.size + 2 < B from by have := Z'.out.lt; omega)
     have bz := below_then bb'.out (Nat.le_refl _) hb5; have Zz := Z'.out.later hb5
     have hT2 := Lib.hid (ArrQ.laterQ hT'.out hb5)
     have hg := Lib.hid (And.intro g0 (And.intro g1 g2))
     clear hcall hb5 i0 i1 i2 hT' g0 g1 g2 hB bb' Z' hEz
     have f0 := Zz.fr 0; have d0 := Zz.c0; have f1 := Zz.fr 1; have d1 := Zz.c1; have f2 := Zz.fr 2; have d2 := Zz.c2; have f3 := Zz.fr 3; have d3 := Zz.c3; have f4 := Zz.fr 4; have d4 := Zz.c4; have f5 := Zz.fr 5; have d5 := Zz.c5; have f6 := Zz.fr 6; have d6 := Zz.c6
     have z5 := Zz.setAll (.int .u64 (orL x.L y.L : Nat)) (.int .i64 2) (.bool false) (.slice none 0 0) (.slice none 0 0) (.int .i64 0) (.slice (some ⟨B, 0, none⟩) 1 1)
     have b5 := Lib.hid (below_setAll bz (B := w.heap.size + 2) (by omega) (.int .u64 (orL x.L y.L : Nat)) (.int .i64 2) (.bool false) (.slice none 0 0) (.slice none 0 0) (.int .i64 0) (.slice (some ⟨B, 0, none⟩) 1 1))
     have g0 := z5.c0; have g1 := z5.c1; have g2 := z5.c2; have g3 := z5.c3; have g4 := z5.c4; have g5 := z5.c5; have g6 := z5.c6
     clear z5 Zz bz 
     go_wp2_with fail
     refine bodyPost_ret (v := .tuple #[.agg #[.int .u64 (orL x.L y.L : Nat), .int .i64 2, .bool false, .slice none 0 0, .slice none 0 0, .int .i64 0, .slice (some ⟨B, 0, none⟩) 1 1], .int .i64 (0)]) (by simp [results, Tryz.results86, go_sem, g0, g1, g2, g3, g4, g5, g6]) rfl ?_
     rw [← hDz.out]
     refine ⟨⟨(fun q => [Value.int .u64 (orL x.L y.L : Nat), .int .i64 2, .bool false, .slice none 0 0, .slice none 0 0, .int .i64 0, .slice (some ⟨B, 0, none⟩) 1 1].getD q undef), _, rfl, CellNQ.made rfl hor.out (if_pos hbox.out) (by show IsZ (if _ then _ else _); rw [if_pos hbox.out]; exact ⟨by decide, by decide⟩) (by show NumQ _ _ (twoN f x y) _ _ _; unfold twoN; rw [if_pos hbox.out]; exact num_zero10 _ _) rfl isz_zero (if_pos hbox.out) (by show IsN (if _ then _ else _) _; rw [if_pos hbox.out]; exact isN1) (.inr ⟨B, 0, rfl, .inr (.inl (by have := hBs.out; omega)), fun j hj => ?_⟩), fun _ => rfl⟩, b5.out⟩
     have hj' : j < (if x.K = 2 ∨ y.K = 2 then 1 else 0) := hj
     rw [if_pos hbox.out] at hj'
     obtain rfl : j = 0 := by omega
     have far : ∀ q, (((((((w5.setCell ⟨w.heap.size + 2, 0, none⟩ (.int .u64 (orL x.L y.L : Nat))).setCell ⟨w.heap.size + 2, 1, none⟩ (.int .i64 2)).setCell ⟨w.heap.size + 2, 2, none⟩ (.bool false)).setCell ⟨w.heap.size + 2, 3, none⟩ (.slice none 0 0)).setCell ⟨w.heap.size + 2, 4, none⟩ (.slice none 0 0)).setCell ⟨w.heap.size + 2, 5, none⟩ (.int .i64 0)).setCell ⟨w.heap.size + 2, 6, none⟩ (.slice (some ⟨B, 0, none⟩) 1 1)).cell? ⟨B, q, none⟩ = w5.cell? ⟨B, q, none⟩ := fun q => World.cell?_of_block (a := ⟨B, q, none⟩) (heap_set7' (b := B) (B := w.heap.size + 2) (by have := hBs.out; omega) _ _ _ _ _ _ _)
     exact ⟨_, _, _, (far 0).trans hg.out.1, (far 1).trans hg.out.2.1, (far 2).trans hg.out.2.2, ArrQ.keep (fun b hq _ => heap_set7' hq.2 _ _ _ _ _ _ _) (fun b hq _ => hq.1) _ _ _ _ hT2.out⟩
    ·have hcall := Lib.hid (boxed_no (orL x.L y.L) St nt nct mt mct aot cot EE hE0 wc)
     have hE0' := Lib.hid hE0
     clear hE0
     go_wp2_with fail
     refine hcall.out.mono ?_
     rintro e5 w5 ⟨rfl, hb5⟩
     have bz := below_then bb'.out (Nat.le_refl _) hb5; have Zz := Z'.out.later hb5
     clear hcall hb5 i0 i1 i2 hT' bb' Z'
     have f0 := Zz.fr 0; have d0 := Zz.c0; have f1 := Zz.fr 1; have d1 := Zz.c1; have f2 := Zz.fr 2; have d2 := Zz.c2; have f3 := Zz.fr 3; have d3 := Zz.c3; have f4 := Zz.fr 4; have d4 := Zz.c4; have f5 := Zz.fr 5; have d5 := Zz.c5; have f6 := Zz.fr 6; have d6 := Zz.c6
     have z5 := Zz.setAll (.int .u64 0) (.int .i64 0) (.bool false) (.slice none 0 0) (.slice none 0 0) (.int .i64 0) (.slice none 0 0)
     have b5 := Lib.hid (below_setAll bz (B := w.heap.size + 2) (by omega) (.int .u64 0) (.int .i64 0) (.bool false) (.slice none 0 0) (.slice none 0 0) (.int .i64 0) (.slice none 0 0))
     have g0 := z5.c0; have g1 := z5.c1; have g2 := z5.c2; have g3 := z5.c3; have g4 := z5.c4; have g5 := z5.c5; have g6 := z5.c6
     clear z5 Zz bz 
     go_wp2_with fail
     refine bodyPost_ret (v := .tuple #[.agg #[.int .u64 0, .int .i64 0, .bool false, .slice none 0 0, .slice none 0 0, .int .i64 0, .slice none 0 0], .int .i64 (EE)]) (by simp [results, Tryz.results86, go_sem, g0, g1, g2, g3, g4, g5, g6]) rfl ?_
     exact cell_err hE0'.out b5.out
  | false =>
   have hbox := Lib.hid (show ¬ (x.K = 2 ∨ y.K = 2) from of_decide_eq_false hbxv.out.symm)
   have hx2 := Lib.hid (show x.K ≠ 2 from fun h => hbox.out (.inl h)); have hy2 := Lib.hid (show y.K ≠ 2 from fun h => hbox.out (.inr h))
   obtain ⟨nb0, hnb0⟩ : ∃ b, Hid (b = decide (x.K = 0 ∧ y.K = 0)) := ⟨_, Lib.hid rfl⟩
   go_upto_region 5 with fail
   go_cut [41] from 42 to 49 (fun s41 wx => s41 = .bool nb0 ∧ w2 = wx)
   case first =>
    have p1 := X'.out.c1; have q1 := Y'.out.c1
    by_cases hx0 : x.K = 0
    ·rw [hx0] at p1
     by_cases hy0 : y.K = 0
     ·have hs := Lib.hid (show nb0 = true from by rw [hnb0.out]; exact decide_eq_true ⟨hx0, hy0⟩)
      rw [hy0] at q1
      clear hx0 hy0
      go_wp2_with fail
      go_meet
      exact ⟨by rw [hs.out], rfl⟩
     ·have hs := Lib.hid (show nb0 = false from by rw [hnb0.out]; exact decide_eq_false fun h => hy0 h.2)
      have hyb : (y.K == 0) = false := by rw [beq_eq_false_iff_ne]; exact hy0
      clear hx0 hy0
      go_wp2_with fail
      go_meet
      exact ⟨by rw [hs.out], rfl⟩
    ·have hs := Lib.hid (show nb0 = false from by rw [hnb0.out]; exact decide_eq_false fun h => hx0 h.1)
     have hxb : (x.K == 0) = false := by rw [beq_eq_false_iff_ne]; exact hx0
     clear hx0
     go_wp2_with fail
     go_meet
     exact ⟨by rw [hs.out], rfl⟩
   case rest =>
    obtain ⟨rfl, rfl⟩ := hcut
    cases nb0 with
    | true =>
     obtain ⟨hx0, hy0⟩ := of_decide_eq_true hnb0.out.symm
     have hRx : RightF x.N := by
      rcases ox'.out.plain hx2.out with ⟨_, _, _, h⟩ | ⟨h, _⟩
      ·exact h
      ·omega
     have hRy : RightF y.N := by
      rcases oy'.out.plain hy2.out with ⟨_, _, _, h⟩ | ⟨h, _⟩
      ·exact h
      ·omega
     have hnb : ¬ (x.K = 2 ∨ y.K = 2) := by omega
     have hx0h := Lib.hid hx0; have hy0h := Lib.hid hy0; have hnbh := Lib.hid hnb
     have p1 := X'.out.c1; have q1 := Y'.out.c1
     have p2 := X'.out.c2; have p3 := X'.out.c3; have p4 := X'.out.c4; have q2 := Y'.out.c2; have q3 := Y'.out.c3; have q4 := Y'.out.c4
     rw [hx0] at p1; rw [hy0] at q1
     have lx := hRx.low; have ly := hRy.low
     have Rx := (show NumP w2 x.N (.bool x.N.neg) (.slice xa x.N.an xac) (.slice xb x.N.am xbc) from (xN'.out.keep (Q' := fun _ => True) (fun b hq _ => bb'.out.block b hq.2) (fun _ _ _ => trivial)).plain').rtS hRx
     have Ry := (show NumP w2 y.N (.bool y.N.neg) (.slice ya y.N.an yac) (.slice yb y.N.am ybc) from (yN'.out.keep (Q' := fun _ => True) (fun b hq _ => bb'.out.block b hq.2) (fun _ _ _ => trivial)).plain').rtS hRy
     have hfit := Lib.hid (fit_two f lx ly)
     obtain ⟨r, hrr⟩ : ∃ r, r = num2R f (topF x.N) (botF x.N) (topF y.N) (botF y.N) := ⟨_, rfl⟩
     have hrr' := Lib.hid hrr
     have hcall := numbersP_any f x.N.neg xa xb x.N.an xac x.N.am xbc (topF x.N) (botF x.N) y.N.neg ya yb y.N.an yac y.N.am ybc (topF y.N) (botF y.N) w2 Rx lx Ry ly
     rw [← hrr] at hcall hfit
     replace hcall := Lib.hid hcall
     have hEr := Lib.hid (show EE = r.2.2 from by rw [hEE'.out]; unfold cellE; rw [if_neg hnbh.out, if_pos ⟨hx0h.out, hy0h.out⟩, hrr])
     clear Rx Ry lx ly hrr hx0 hy0 hnb hRx hRy
     go_wp2_with fail
     refine hcall.out.mono ?_
     rintro e3 w3 ⟨nb, po, pn, pc, qo, qn, qc, rfl, R2, hb3⟩
     obtain ⟨rT, rB, rE⟩ := r
     replace bb' := Lib.hid (below_then bb'.out (Nat.le_refl _) hb3); replace Z' := Lib.hid (Z'.out.later hb3); replace s2' := Lib.hid (s2'.out.later hb3)
     have hR2 := Lib.hid R2
     clear hcall hb3 R2 p1 p2 p3 p4 q1 q2 q3 q4 X' Y'
     go_upto_region 7 with fail
     refine told_wp (fun w' => Below w.heap.size w w' ∧ Box7 w' (w.heap.size + 2) (.int .u64 0) (.int .i64 0) (.bool false) (.slice none 0 0) (.slice none 0 0) (.int .i64 0) (.slice none 0 0) ∧ Shut w' (w.heap.size + 2) ∧ Box3 w' w3.heap.size (.bool nb) (.slice po pn pc) (.slice qo qn qc) ∧ Rt w' nb po pn pc qo qn qc rT rB)
      ⟨bb'.out.alloc bb'.out.size _, Z'.out.alloc _, s2'.out.later ((Below.refl _ _).alloc (Nat.le_refl _) _), Box3.new _ _ _ _ rfl, hR2.out.alloc _⟩ ?_
     clear bb' Z' s2' hR2
     rintro w4 ⟨bb, Z, sz, I, R2⟩
     have i0 := I.c0; have i1 := I.c1; have i2 := I.c2
     have bb' := Lib.hid bb; have Z' := Lib.hid Z; have s2' := Lib.hid sz; have hR2 := Lib.hid R2
     clear bb Z sz I R2
     by_cases hE0 : rE = 0
     ·subst hE0
      have hlow : Hid (Low rT rB) := Lib.hid (by rcases hfit.out with ⟨_, hl⟩ | ⟨hn, _⟩; exact hl; exact absurd rfl hn)
      have hcall := Lib.hid (numbered_ok (orL x.L y.L) pn pc qn qc nb po qo w4)
      go_wp2_with fail
      refine hcall.out.mono ?_
      rintro e5 w5 ⟨rfl, hb5⟩
      have bz := below_then bb'.out (Nat.le_refl _) hb5; have Zz := Z'.out.later hb5
      replace bb' := Lib.hid bz; replace s2' := Lib.hid (s2'.out.later hb5)
      have hNP := Lib.hid ((hR2.out.below hb5).numP hlow.out.2.2.1 hlow.out.2.2.2).limbs
      have hD2 := Lib.hid (show (⟨orL x.L y.L, 0, numF rT rB, 0, 0, fun _ => twoT f d (innerT x) (innerT y)⟩ : CellD) = DD from by
       rw [hDD'.out]
       unfold twoD twoN
       rw [if_neg hnbh.out, if_neg hnbh.out, if_neg hnbh.out, if_pos ⟨hx0h.out, hy0h.out⟩, ← hrr'.out])
      clear hcall hb5 i0 i1 i2 hR2 Z'
      have f0 := Zz.fr 0; have d0 := Zz.c0; have f1 := Zz.fr 1; have d1 := Zz.c1; have f2 := Zz.fr 2; have d2 := Zz.c2; have f3 := Zz.fr 3; have d3 := Zz.c3; have f4 := Zz.fr 4; have d4 := Zz.c4; have f5 := Zz.fr 5; have d5 := Zz.c5; have f6 := Zz.fr 6; have d6 := Zz.c6
      have z5 := Zz.setAll (.int .u64 (orL x.L y.L : Nat)) (.int .i64 0) (.bool nb) (.slice po pn pc) (.slice qo qn qc) (.int .i64 0) (.slice none 0 0)
      have b5 := Lib.hid (below_setAll bz (B := w.heap.size + 2) (by omega) (.int .u64 (orL x.L y.L : Nat)) (.int .i64 0) (.bool nb) (.slice po pn pc) (.slice qo qn qc) (.int .i64 0) (.slice none 0 0))
      have g0 := z5.c0; have g1 := z5.c1; have g2 := z5.c2; have g3 := z5.c3; have g4 := z5.c4; have g5 := z5.c5; have g6 := z5.c6
      clear z5 Zz bz 
      go_wp2_with fail
      refine bodyPost_ret (v := .tuple #[.agg #[.int .u64 (orL x.L y.L : Nat), .int .i64 0, .bool nb, .slice po pn pc, .slice qo qn qc, .int .i64 0, .slice none 0 0], .int .i64 (0)]) (by simp [results, Tryz.results86, go_sem, g0, g1, g2, g3, g4, g5, g6]) rfl ?_
      have hE2 : EE = 0 := hEr.out
      rw [hE2, ← hD2.out]
      exact ⟨⟨(fun q => [Value.int .u64 (orL x.L y.L : Nat), .int .i64 0, .bool nb, .slice po pn pc, .slice qo qn qc, .int .i64 0, .slice none 0 0].getD q undef), _, rfl, CellNQ.made rfl hor.out rfl isz_zero (hNP.out.keep (fun b hq _ => heap_set7' (s2'.out.ne hq) _ _ _ _ _ _ _) (fun b hq _ => Prov.limb hq bb'.out)) rfl isz_zero rfl isn_zero (.inl rfl), fun _ => rfl⟩, b5.out⟩
     ·have hcall := Lib.hid (numbered_no (orL x.L y.L) pn pc qn qc nb po qo rE hE0 w4)
      have hE0' := Lib.hid hE0
      clear hE0
      go_wp2_with fail
      refine hcall.out.mono ?_
      rintro e5 w5 ⟨rfl, hb5⟩
      have bz := below_then bb'.out (Nat.le_refl _) hb5; have Zz := Z'.out.later hb5
      clear hcall hb5 i0 i1 i2 hR2 bb' Z'
      have f0 := Zz.fr 0; have d0 := Zz.c0; have f1 := Zz.fr 1; have d1 := Zz.c1; have f2 := Zz.fr 2; have d2 := Zz.c2; have f3 := Zz.fr 3; have d3 := Zz.c3; have f4 := Zz.fr 4; have d4 := Zz.c4; have f5 := Zz.fr 5; have d5 := Zz.c5; have f6 := Zz.fr 6; have d6 := Zz.c6
      have z5 := Zz.setAll (.int .u64 0) (.int .i64 0) (.bool false) (.slice none 0 0) (.slice none 0 0) (.int .i64 0) (.slice none 0 0)
      have b5 := Lib.hid (below_setAll bz (B := w.heap.size + 2) (by omega) (.int .u64 0) (.int .i64 0) (.bool false) (.slice none 0 0) (.slice none 0 0) (.int .i64 0) (.slice none 0 0))
      have g0 := z5.c0; have g1 := z5.c1; have g2 := z5.c2; have g3 := z5.c3; have g4 := z5.c4; have g5 := z5.c5; have g6 := z5.c6
      clear z5 Zz bz 
      go_wp2_with fail
      refine bodyPost_ret (v := .tuple #[.agg #[.int .u64 0, .int .i64 0, .bool false, .slice none 0 0, .slice none 0 0, .int .i64 0, .slice none 0 0], .int .i64 (rE)]) (by simp [results, Tryz.results86, go_sem, g0, g1, g2, g3, g4, g5, g6]) rfl ?_
      have hE2 : EE = rE := hEr.out
      rw [hE2]
      exact cell_err hE0'.out b5.out
    | false =>
     have hn0 := of_decide_eq_false hnb0.out.symm
     have hnbh := Lib.hid (fun h => hbox.out h); have hn0h := Lib.hid hn0
     obtain ⟨sv, hsv0⟩ : ∃ sv, Hid (sameKC x y = sv) := ⟨_, Lib.hid rfl⟩
     go_upto_region 8 with fail
     go_cut [13] from 65 to 76 (fun s13 wx => s13 = .bool sv ∧ w2 = wx)
     case first =>
      have p1 := X'.out.c1; have q1 := Y'.out.c1; have p5 := X'.out.c5; have q5 := Y'.out.c5
      by_cases hKK : x.K = y.K
      ·rw [hKK] at p1
       by_cases hCC : x.C = y.C
       ·have hs := Lib.hid (show sv = true from by rw [← hsv0.out]; exact decide_eq_true ⟨hKK, hCC⟩)
        rw [hCC] at p5
        clear hKK hCC
        go_wp2_with fail
        go_meet
        exact ⟨by rw [hs.out], rfl⟩
       ·have hs := Lib.hid (show sv = false from by rw [← hsv0.out]; exact decide_eq_false fun h => hCC h.2)
        have hCb : (x.C == y.C) = false := by rw [beq_eq_false_iff_ne]; exact hCC
        clear hKK hCC
        go_wp2_with fail
        go_meet
        exact ⟨by rw [hs.out], rfl⟩
      ·have hs := Lib.hid (show sv = false from by rw [← hsv0.out]; exact decide_eq_false fun h => hKK h.1)
       have hKb : (x.K == y.K) = false := by rw [beq_eq_false_iff_ne]; exact hKK
       clear hKK
       go_wp2_with fail
       go_meet
       exact ⟨by rw [hs.out], rfl⟩
     case rest =>
      obtain ⟨rfl, rfl⟩ := hcut
      clear hn0
      by_cases hf1 : f = 61
      ·subst hf1
       have hsv := Lib.hid (show sameKC x y = sv from hsv0.out)
       have hEr2 := Lib.hid (show EE = 0 from by rw [hEE'.out]; unfold cellE; rw [if_neg hnbh.out, if_neg hn0h.out, if_pos (.inl rfl)])
       have hD2 := Lib.hid (show (⟨orL x.L y.L, 0, numF (truthZ sv) 1, 0, 0, fun _ => twoT 61 d (innerT x) (innerT y)⟩ : CellD) = DD from by
        rw [hDD'.out]
        unfold twoD twoN
        rw [if_neg hnbh.out, if_neg hnbh.out, if_neg hnbh.out, if_neg hn0h.out, if_pos rfl, show sameKC x y = sv from hsv.out])
       go_wp2_with fail
       refine (truth_any sv _).mono ?_
       rintro e3 w3 ⟨nb, po, pn, pc, qo, qn, qc, rfl, R2, hb3⟩
       replace bb' := Lib.hid (below_then bb'.out (Nat.le_refl _) hb3); replace Z' := Lib.hid (Z'.out.later hb3); replace s2' := Lib.hid (s2'.out.later hb3)
       have hR2 := Lib.hid R2
       have hcall := Lib.hid (numbered_ok (orL x.L y.L) pn pc qn qc nb po qo w3)
       clear hb3 R2 X' Y'
       go_wp2_with fail
       refine hcall.out.mono ?_
       rintro e5 w5 ⟨rfl, hb5⟩
       have bz := below_then bb'.out (Nat.le_refl _) hb5; have Zz := Z'.out.later hb5
       replace bb' := Lib.hid bz; replace s2' := Lib.hid (s2'.out.later hb5)
       have hNP := Lib.hid ((hR2.out.below hb5).numP (truth_small sv).1 (truth_small sv).2).limbs
       clear hcall hb5 hR2 Z'
       have f0 := Zz.fr 0; have d0 := Zz.c0; have f1 := Zz.fr 1; have d1 := Zz.c1; have f2 := Zz.fr 2; have d2 := Zz.c2; have f3 := Zz.fr 3; have d3 := Zz.c3; have f4 := Zz.fr 4; have d4 := Zz.c4; have f5 := Zz.fr 5; have d5 := Zz.c5; have f6 := Zz.fr 6; have d6 := Zz.c6
       have z5 := Zz.setAll (.int .u64 (orL x.L y.L : Nat)) (.int .i64 0) (.bool nb) (.slice po pn pc) (.slice qo qn qc) (.int .i64 0) (.slice none 0 0)
       have b5 := Lib.hid (below_setAll bz (B := w.heap.size + 2) (by omega) (.int .u64 (orL x.L y.L : Nat)) (.int .i64 0) (.bool nb) (.slice po pn pc) (.slice qo qn qc) (.int .i64 0) (.slice none 0 0))
       have g0 := z5.c0; have g1 := z5.c1; have g2 := z5.c2; have g3 := z5.c3; have g4 := z5.c4; have g5 := z5.c5; have g6 := z5.c6
       clear z5 Zz bz 
       go_wp2_with fail
       refine bodyPost_ret (v := .tuple #[.agg #[.int .u64 (orL x.L y.L : Nat), .int .i64 0, .bool nb, .slice po pn pc, .slice qo qn qc, .int .i64 0, .slice none 0 0], .int .i64 (0)]) (by simp [results, Tryz.results86, go_sem, g0, g1, g2, g3, g4, g5, g6]) rfl ?_
       rw [hEr2.out, ← hD2.out]
       exact ⟨⟨(fun q => [Value.int .u64 (orL x.L y.L : Nat), .int .i64 0, .bool nb, .slice po pn pc, .slice qo qn qc, .int .i64 0, .slice none 0 0].getD q undef), _, rfl, CellNQ.made rfl hor.out rfl isz_zero (hNP.out.keep (fun b hq _ => heap_set7' (s2'.out.ne hq) _ _ _ _ _ _ _) (fun b hq _ => Prov.limb hq bb'.out)) rfl isz_zero rfl isn_zero (.inl rfl), fun _ => rfl⟩, b5.out⟩
      ·have hf1b : (f == 61) = false := by rw [beq_eq_false_iff_ne]; exact hf1
       by_cases hf2 : f = 8800
       ·subst hf2
        have hsv := Lib.hid (show (!sameKC x y) = !sv from by rw [hsv0.out])
        clear hf1 hf1b
        have hEr2 := Lib.hid (show EE = 0 from by rw [hEE'.out]; unfold cellE; rw [if_neg hnbh.out, if_neg hn0h.out, if_pos (.inr rfl)])
        have hD2 := Lib.hid (show (⟨orL x.L y.L, 0, numF (truthZ (!sv)) 1, 0, 0, fun _ => twoT 8800 d (innerT x) (innerT y)⟩ : CellD) = DD from by
         rw [hDD'.out]
         unfold twoD twoN
         rw [if_neg hnbh.out, if_neg hnbh.out, if_neg hnbh.out, if_neg hn0h.out, if_neg (by decide), show (!sameKC x y) = (!sv) from hsv.out])
        go_wp2_with fail
        refine (truth_any (!sv) _).mono ?_
        rintro e3 w3 ⟨nb, po, pn, pc, qo, qn, qc, rfl, R2, hb3⟩
        replace bb' := Lib.hid (below_then bb'.out (Nat.le_refl _) hb3); replace Z' := Lib.hid (Z'.out.later hb3); replace s2' := Lib.hid (s2'.out.later hb3)
        have hR2 := Lib.hid R2
        have hcall := Lib.hid (numbered_ok (orL x.L y.L) pn pc qn qc nb po qo w3)
        clear hb3 R2 X' Y'
        go_wp2_with fail
        refine hcall.out.mono ?_
        rintro e5 w5 ⟨rfl, hb5⟩
        have bz := below_then bb'.out (Nat.le_refl _) hb5; have Zz := Z'.out.later hb5
        replace bb' := Lib.hid bz; replace s2' := Lib.hid (s2'.out.later hb5)
        have hNP := Lib.hid ((hR2.out.below hb5).numP (truth_small (!sv)).1 (truth_small (!sv)).2).limbs
        clear hcall hb5 hR2 Z'
        have f0 := Zz.fr 0; have d0 := Zz.c0; have f1 := Zz.fr 1; have d1 := Zz.c1; have f2 := Zz.fr 2; have d2 := Zz.c2; have f3 := Zz.fr 3; have d3 := Zz.c3; have f4 := Zz.fr 4; have d4 := Zz.c4; have f5 := Zz.fr 5; have d5 := Zz.c5; have f6 := Zz.fr 6; have d6 := Zz.c6
        have z5 := Zz.setAll (.int .u64 (orL x.L y.L : Nat)) (.int .i64 0) (.bool nb) (.slice po pn pc) (.slice qo qn qc) (.int .i64 0) (.slice none 0 0)
        have b5 := Lib.hid (below_setAll bz (B := w.heap.size + 2) (by omega) (.int .u64 (orL x.L y.L : Nat)) (.int .i64 0) (.bool nb) (.slice po pn pc) (.slice qo qn qc) (.int .i64 0) (.slice none 0 0))
        have g0 := z5.c0; have g1 := z5.c1; have g2 := z5.c2; have g3 := z5.c3; have g4 := z5.c4; have g5 := z5.c5; have g6 := z5.c6
        clear z5 Zz bz 
        go_wp2_with fail
        refine bodyPost_ret (v := .tuple #[.agg #[.int .u64 (orL x.L y.L : Nat), .int .i64 0, .bool nb, .slice po pn pc, .slice qo qn qc, .int .i64 0, .slice none 0 0], .int .i64 (0)]) (by simp [results, Tryz.results86, go_sem, g0, g1, g2, g3, g4, g5, g6]) rfl ?_
        rw [hEr2.out, ← hD2.out]
        exact ⟨⟨(fun q => [Value.int .u64 (orL x.L y.L : Nat), .int .i64 0, .bool nb, .slice po pn pc, .slice qo qn qc, .int .i64 0, .slice none 0 0].getD q undef), _, rfl, CellNQ.made rfl hor.out rfl isz_zero (hNP.out.keep (fun b hq _ => heap_set7' (s2'.out.ne hq) _ _ _ _ _ _ _) (fun b hq _ => Prov.limb hq bb'.out)) rfl isz_zero rfl isn_zero (.inl rfl), fun _ => rfl⟩, b5.out⟩
       ·have hf2b : (f == 8800) = false := by rw [beq_eq_false_iff_ne]; exact hf2
        have hEr2 := Lib.hid (show EE = 3 from by rw [hEE'.out]; unfold cellE; rw [if_neg hnbh.out, if_neg hn0h.out, if_neg (by omega)])
        have bz := bb'.out; have Zz := Z'.out
        clear X' Y' Z' s2' bb' hf1 hf2
        have f0 := Zz.fr 0; have d0 := Zz.c0; have f1 := Zz.fr 1; have d1 := Zz.c1; have f2 := Zz.fr 2; have d2 := Zz.c2; have f3 := Zz.fr 3; have d3 := Zz.c3; have f4 := Zz.fr 4; have d4 := Zz.c4; have f5 := Zz.fr 5; have d5 := Zz.c5; have f6 := Zz.fr 6; have d6 := Zz.c6
        have z5 := Zz.setAll (.int .u64 0) (.int .i64 0) (.bool false) (.slice none 0 0) (.slice none 0 0) (.int .i64 0) (.slice none 0 0)
        have b5 := Lib.hid (below_setAll bz (B := w.heap.size + 2) (by omega) (.int .u64 0) (.int .i64 0) (.bool false) (.slice none 0 0) (.slice none 0 0) (.int .i64 0) (.slice none 0 0))
        have g0 := z5.c0; have g1 := z5.c1; have g2 := z5.c2; have g3 := z5.c3; have g4 := z5.c4; have g5 := z5.c5; have g6 := z5.c6
        clear z5 Zz bz 
        go_wp2_with fail
        refine bodyPost_ret (v := .tuple #[.agg #[.int .u64 0, .int .i64 0, .bool false, .slice none 0 0, .slice none 0 0, .int .i64 0, .slice none 0 0], .int .i64 (3)]) (by simp [results, Tryz.results86, go_sem, g0, g1, g2, g3, g4, g5, g6]) rfl ?_
        rw [hEr2.out]
        exact cell_err (by decide) b5.out
theorem twoP_all (f : Int) (hf : f ∈ twosZ) : ∀ d, TwoOfP f d
 | 0 => twoP_t f hf 0 (twoCellsP_of f 0 fun d' h => by omega)
 | d + 1 => twoP_t f hf (d + 1) (twoCellsP_of f (d + 1) fun d' h => by
   obtain rfl : d' = d := by omega
   exact twoP_all f hf d')
end Go.Proofs.YtaepelipkkmeaaaGreat
