/-
  scrimref10.two, where Two tells what is made of what is in both.
  An api.Array that came in, as the walks speak of it.
  Arrays, plain: what is without labels, what has got more; what is packed and unpacked.
  What One and Two make is right; arrays that are alike become such as are (plain).
  scrimref10.Two, where two tells what is made of two cells; both, of any arrays.
  What the functions of package scalar are to tell (as hypotheses of the walks of the statements); the document's One and Two, of any word.
  What the functions of package array are to tell (as hypotheses of the walks of the statements).
  scrimref04.Small of a number whose bottom has not one limb; scrimlaw10.small.
-/
import Derived.Test.YtaepelipkkmeaaaGreatMgtA
import Derived.Test.YtaepelipkkmeaaaGreatMgtB
import Derived.Test.YtaepelipkkmeaaaGreatMgtC
import Derived.Test.YtaepelipkkmeaaaGreatMgtD
import Derived.Test.YtaepelipkkmeaaaGreatMgtE
import Derived.Test.YtaepelipkkmeaaaGreatMgtF
import Derived.Test.YtaepelipkkmeaaaGreatMgtG
import Derived.Test.YtaepelipkkmeaaaGreatMgtScalarTwo1
import Derived.Test.YtaepelipkkmeaaaGreatMgtScalarTwo2
import Derived.Deep.LoopGhost
import Derived.WalkKit
import Derived.Lib.BitFns
import Derived.Laws.AppendOwn
import Derived.Deep.AppendLies
import Derived.Deep.RegionHeld3
import Derived.Deep.CutRange
import Derived.BigQuiet
import Derived.Deep.DrawnRows
import Derived.Laws.OwnMore
import Derived.Deep.RegionWith
import Derived.WalkSpells
import Derived.WalkLawsBesides
import Derived.Lib.Hide
import Derived.Laws.CopyOwn
import Derived.Lib.Small
import Derived.Lib.Walk
import Derived.Deep.QuietTactic
import Derived.OpenShut
import Derived.SizedLaws
set_option maxRecDepth 20000
set_option maxHeartbeats 16000000
namespace Go.Proofs.YtaepelipkkmeaaaGreat
open Go.RowKit Num
theorem Box7.set1 {w : World} {B : Nat} {z0 z1 z2 z3 z4 z5 z6 : Value} (h : Box7 w B z0 z1 z2 z3 z4 z5 z6) (v : Value) : Box7 (w.setCell ⟨B, 1, none⟩ v) B z0 v z2 z3 z4 z5 z6 := by
 have ne : ∀ {j k : Nat}, j ≠ k → (⟨B, j, none⟩ : Addr) ≠ ⟨B, k, none⟩ := fun h e => h (by injection e)
 exact ⟨(cell_set_ne (ne (by decide))).trans h.c0, World.cell?_setCell_same _ _ _ h.c1, (cell_set_ne (ne (by decide))).trans h.c2, (cell_set_ne (ne (by decide))).trans h.c3, (cell_set_ne (ne (by decide))).trans h.c4, (cell_set_ne (ne (by decide))).trans h.c5, (cell_set_ne (ne (by decide))).trans h.c6, fun j => by rw [World.frozen?_setCell]; exact h.fr j⟩
def TwoMade (x y D' : CellD) (_ : Int) (Q0 : Nat → Prop) (w w' : World) (v1 v2 v3 v4 v6 : Value) : Prop :=
 Below w.heap.size w w' ∧ Box7 w' (w.heap.size + 2) (.int .u64 0) (.int .i64 0) (.bool false) (.slice none 0 0) (.slice none 0 0) (.int .i64 0) (.slice none 0 0) ∧ Box7 w' (w.heap.size + 3) (.int .u64 (orL x.L y.L : Nat)) v1 v2 v3 v4 (.int .i64 0) v6 ∧
 CellNQ w' (fun b => Prov Q0 w b ∧ b ≠ w.heap.size + 2) D' (fun q => [Value.int .u64 (orL x.L y.L : Nat), v1, v2, v3, v4, .int .i64 0, v6].getD q undef)
theorem two_free {Q0 : Nat → Prop} {w w' : World} {b B4 : Nat} (h : Prov (fun b => (Q0 b ∧ b < w.heap.size) ∨ (w.heap.size + 4 ≤ b ∧ b ≠ B4)) w' b) (hb : Below w.heap.size w w') (s2 : Shut w' (w.heap.size + 2)) (s3 : Shut w' (w.heap.size + 3)) (s4 : Shut w' B4) (hB : w.heap.size + 4 ≤ B4) : ((Prov Q0 w b ∧ b ≠ w.heap.size + 2) ∧ b ≠ w.heap.size + 3) ∧ b ≠ B4 := by
 have h4 := s4.1
 rcases h with (h | h) | h | h
 ·exact ⟨⟨⟨.inl h.1, by have := h.2; omega⟩, by have := h.2; omega⟩, by have := h.2; omega⟩
 ·exact ⟨⟨⟨.inr (.inl (by omega)), by omega⟩, by omega⟩, h.2⟩
 ·exact ⟨⟨⟨.inr (.inl (by omega)), by omega⟩, by omega⟩, by omega⟩
 ·exact ⟨⟨⟨Prov.limb h hb, s2.ne h⟩, s3.ne h⟩, s4.ne h⟩
theorem two_free3 {Q0 : Nat → Prop} {w w' : World} {b : Nat} (h : Prov (fun b => (Q0 b ∧ b < w.heap.size) ∨ w.heap.size + 4 ≤ b) w' b) (hb : Below w.heap.size w w') (s2 : Shut w' (w.heap.size + 2)) (s3 : Shut w' (w.heap.size + 3)) : (Prov Q0 w b ∧ b ≠ w.heap.size + 2) ∧ b ≠ w.heap.size + 3 := by
 have h3 := s3.1
 rcases h with (h | h) | h | h
 ·exact ⟨⟨.inl h.1, by have := h.2; omega⟩, by have := h.2; omega⟩
 ·exact ⟨⟨.inr (.inl (by omega)), by omega⟩, by omega⟩
 ·exact ⟨⟨.inr (.inl (by omega)), by omega⟩, by omega⟩
 ·exact ⟨⟨Prov.limb h hb, s2.ne h⟩, s3.ne h⟩
theorem two_plain {x y : CellD} {N : NumF} {E : Int} {T : Tree} {Q0 : Nat → Prop} {w w' : World} {z0 z1 z2 : Value} (bb : Below w.heap.size w w') (Z : Box7 w' (w.heap.size + 2) (.int .u64 0) (.int .i64 0) (.bool false) (.slice none 0 0) (.slice none 0 0) (.int .i64 0) (.slice none 0 0)) (O : Box7 w' (w.heap.size + 3) (.int .u64 (orL x.L y.L : Nat)) (.int .i64 0) z0 z1 z2 (.int .i64 0) (.slice none 0 0)) (hor : IsL (orL x.L y.L)) (hN : NumQ w' (fun b => Prov Q0 w b ∧ b ≠ w.heap.size + 2) N z0 z1 z2) :
  TwoMade x y ⟨orL x.L y.L, 0, N, 0, 0, fun _ => T⟩ E Q0 w w' (.int .i64 0) z0 z1 z2 (.slice none 0 0) :=
 ⟨bb, Z, O, CellNQ.made rfl hor rfl isz_zero hN rfl isz_zero rfl isn_zero (.inl rfl)⟩
theorem two_done {x y D D' : CellD} {E : Int} {Q0 : Nat → Prop} {w w' : World} {v1 v2 v3 v4 v6 : Value} (h : TwoMade x y D' E Q0 w w' v1 v2 v3 v4 v6) (hD : E = 0 → D' = D) :
  CellResQ E D Q0 w (.returned (.tuple #[.agg #[.int .u64 (orL x.L y.L : Nat), v1, v2, v3, v4, .int .i64 0, v6], .int .i64 E])) (((((((w'.setCell ⟨w.heap.size + 2, 0, none⟩ (.int .u64 (orL x.L y.L : Nat))).setCell ⟨w.heap.size + 2, 1, none⟩ v1).setCell ⟨w.heap.size + 2, 2, none⟩ v2).setCell ⟨w.heap.size + 2, 3, none⟩ v3).setCell ⟨w.heap.size + 2, 4, none⟩ v4).setCell ⟨w.heap.size + 2, 5, none⟩ (.int .i64 0)).setCell ⟨w.heap.size + 2, 6, none⟩ v6) := by
 obtain ⟨hb, _, _, hc⟩ := h
 refine ⟨⟨fun q => [Value.int .u64 (orL x.L y.L : Nat), v1, v2, v3, v4, .int .i64 0, v6].getD q undef, D', rfl, ?_, hD⟩, below_setAll hb (B := w.heap.size + 2) (by omega) _ _ _ _ _ _ _⟩
 exact CellQ.keep hc (fun b hq _ => heap_set7' hq.2 _ _ _ _ _ _ _) (fun b hq _ => hq.1) fun j d0 d1 d2 hd => ArrQ.keep (fun b hq _ => heap_set7' hq.2 _ _ _ _ _ _ _) (fun b hq _ => hq.1) _ _ _ _ hd
theorem two10_of (f : Int) (d : Nat) (h : ∀ d', d' + 1 = d → TwoOf f d') : TwoCell f d := by
 intro x y Q0 e e' w hx hy ox oy
 replace hx : CellNQ w (fun b => Q0 b ∧ b < w.heap.size) x e := CellQ.keep hx (fun _ _ _ => rfl) (fun b hq hb => ⟨hq, hb⟩) fun _ _ _ _ hd => ArrQ.keep (fun _ _ _ => rfl) (fun b hq hb => ⟨hq, hb⟩) _ _ _ _ hd
 replace hy : CellNQ w (fun b => Q0 b ∧ b < w.heap.size) y e' := CellQ.keep hy (fun _ _ _ => rfl) (fun b hq hb => ⟨hq, hb⟩) fun _ _ _ _ hd => ArrQ.keep (fun _ _ _ => rfl) (fun b hq hb => ⟨hq, hb⟩) _ _ _ _ hd
 obtain ⟨xa, xb, xi, xac, xbc, xkc, xv, xL, xK, xN, xC, xk, _⟩ := hx.form
 obtain ⟨ya, yb, yi, yac, ybc, ykc, yv, yL, yK, yN, yC, yk, _⟩ := hy.form
 rw [← xv, ← yv]
 have xv' := Lib.hid xv; have yv' := Lib.hid yv; have hx' := Lib.hid hx; have hy' := Lib.hid hy
 have xL' := Lib.hid xL; have yL' := Lib.hid yL; have xN' := Lib.hid xN; have yN' := Lib.hid yN
 have ox' := Lib.hid ox; have oy' := Lib.hid oy; have h' := Lib.hid h
 have xk1 := xk.1; have xk2 := xk.2.1; have yk1 := yk.1; have yk2 := yk.2.1
 obtain ⟨EE, hEE⟩ : ∃ EE, EE = cellE f x y (twoE f d (innerT x) (innerT y)) := ⟨_, rfl⟩
 obtain ⟨DD, hDD⟩ : ∃ DD, DD = twoD f x y (twoT f d (innerT x) (innerT y)) := ⟨_, rfl⟩
 have hEE' := Lib.hid hEE; have hDD' := Lib.hid hDD
 rw [← hEE, ← hDD]
 have hor := Lib.hid (orL_is xL yL)
 clear xv yv hx hy xL yL xN yN ox oy h xk yk xK yK xC yC hEE hDD
 go_enter Tryz.func90, Tryz.ntmps90
 go_upto_region 1 with fail
 refine told_wp (fun w' => Below w.heap.size w w' ∧ Box7 w' w.heap.size (.int .u64 x.L) (.int .i64 x.K) (.bool x.N.neg) (.slice xa x.N.an xac) (.slice xb x.N.am xbc) (.int .i64 x.C) (.slice xi x.k xkc) ∧ Box7 w' (w.heap.size + 1) (.int .u64 y.L) (.int .i64 y.K) (.bool y.N.neg) (.slice ya y.N.an yac) (.slice yb y.N.am ybc) (.int .i64 y.C) (.slice yi y.k ykc) ∧ Box7 w' (w.heap.size + 2) (.int .u64 0) (.int .i64 0) (.bool false) (.slice none 0 0) (.slice none 0 0) (.int .i64 0) (.slice none 0 0) ∧ Shut w' (w.heap.size + 2) ∧ w'.heap.size = w.heap.size + 3)
  ⟨(((Below.refl _ _).alloc (Nat.le_refl _) _).alloc (by simp) _).alloc (by simp; omega) _, ((Box7.new _ _ _ _ _ _ _ _ rfl).alloc _).alloc _, (Box7.new _ _ _ _ _ _ _ _ (by simp)).alloc _, Box7.new _ _ _ _ _ _ _ _ (by simp), by have := shut7 (w := (w.alloc (.cells #[.int .u64 x.L, .int .i64 x.K, .bool x.N.neg, .slice xa x.N.an xac, .slice xb x.N.am xbc, .int .i64 x.C, .slice xi x.k xkc] 65)).alloc (.cells #[.int .u64 y.L, .int .i64 y.K, .bool y.N.neg, .slice ya y.N.an yac, .slice yb y.N.am ybc, .int .i64 y.C, .slice yi y.k ykc] 65)) (a := 0) (k := 0) (c := 0) (b := false) (p := none) (q := none) (r := none) (n := 0) (nc := 0) (m := 0) (mc := 0) (l := 0) (lc := 0) (t := 65); simpa using this, by simp⟩ ?_
 rintro w1 ⟨bb, X, Y, Z, sz, hsz⟩
 have p0 := X.c0; have q0 := Y.c0
 have bb' := Lib.hid bb; have X' := Lib.hid X; have Y' := Lib.hid Y; have Z' := Lib.hid Z; have sz' := Lib.hid sz
 clear bb X Y Z sz
 go_wp2_with fail
 refine (join01_any x.L y.L xL'.out yL'.out w1).mono ?_
 rintro e2 w1' ⟨rfl, rfl⟩
 have bz := bb'.out.alloc bb'.out.size (.cells #[.int .u64 (orL x.L y.L : Nat), .int .i64 0, .bool false, .slice none 0 0, .slice none 0 0, .int .i64 0, .slice none 0 0] 65)
 have Xa := X'.out.alloc (.cells #[.int .u64 (orL x.L y.L : Nat), .int .i64 0, .bool false, .slice none 0 0, .slice none 0 0, .int .i64 0, .slice none 0 0] 65)
 have Ya := Y'.out.alloc (.cells #[.int .u64 (orL x.L y.L : Nat), .int .i64 0, .bool false, .slice none 0 0, .slice none 0 0, .int .i64 0, .slice none 0 0] 65)
 have Za := Z'.out.alloc (.cells #[.int .u64 (orL x.L y.L : Nat), .int .i64 0, .bool false, .slice none 0 0, .slice none 0 0, .int .i64 0, .slice none 0 0] 65)
 have sa := sz'.out.later ((Below.refl _ w1).alloc (Nat.le_refl _) (.cells #[.int .u64 (orL x.L y.L : Nat), .int .i64 0, .bool false, .slice none 0 0, .slice none 0 0, .int .i64 0, .slice none 0 0] 65))
 have so := shut7 (w := w1) (a := (orL x.L y.L : Nat)) (k := 0) (c := 0) (b := false) (p := none) (q := none) (r := none) (n := 0) (nc := 0) (m := 0) (mc := 0) (l := 0) (lc := 0) (t := 65)
 have On := Box7.new (w := w1) (B := w.heap.size + 3) (.int .u64 (orL x.L y.L : Nat)) (.int .i64 0) (.bool false) (.slice none 0 0) (.slice none 0 0) (.int .i64 0) (.slice none 0 0) 65 hsz.symm
 rw [hsz] at so
 clear bb' X' Y' Z' sz' p0 q0
 go_upto_region 2 with fail
 refine told_wp (fun w' => Below w.heap.size w w' ∧ Box7 w' w.heap.size (.int .u64 x.L) (.int .i64 x.K) (.bool x.N.neg) (.slice xa x.N.an xac) (.slice xb x.N.am xbc) (.int .i64 x.C) (.slice xi x.k xkc) ∧ Box7 w' (w.heap.size + 1) (.int .u64 y.L) (.int .i64 y.K) (.bool y.N.neg) (.slice ya y.N.an yac) (.slice yb y.N.am ybc) (.int .i64 y.C) (.slice yi y.k ykc) ∧ Box7 w' (w.heap.size + 2) (.int .u64 0) (.int .i64 0) (.bool false) (.slice none 0 0) (.slice none 0 0) (.int .i64 0) (.slice none 0 0) ∧ Box7 w' (w.heap.size + 3) (.int .u64 (orL x.L y.L : Nat)) (.int .i64 0) (.bool false) (.slice none 0 0) (.slice none 0 0) (.int .i64 0) (.slice none 0 0) ∧ Shut w' (w.heap.size + 2) ∧ Shut w' (w.heap.size + 3)) ⟨bz, Xa, Ya, Za, On, sa, so⟩ ?_
 clear bz Xa Ya Za On sa so hsz
 rintro w2 ⟨bb, X, Y, Z, O, s2, s3⟩
 have bb' := Lib.hid bb; have X' := Lib.hid X; have Y' := Lib.hid Y; have Z' := Lib.hid Z; have O' := Lib.hid O; have s2' := Lib.hid s2; have s3' := Lib.hid s3
 have p1 := X.c1; have q1 := Y.c1
 clear bb X Y Z O s2 s3
 obtain ⟨bx, hbxv⟩ : ∃ bx, Hid (bx = decide (x.K = 2 ∨ y.K = 2)) := ⟨_, Lib.hid rfl⟩
 go_cut [25] from 18 to 25 (fun s25 wx => s25 = .bool bx ∧ w2 = wx)
 case first =>
  by_cases hx2 : x.K = 2
  ·have hv := Lib.hid (show bx = true from by rw [hbxv.out]; exact decide_eq_true (.inl hx2))
   rw [hx2] at p1
   clear hx2
   go_wp2_with fail
   go_meet
   exact ⟨by rw [hv.out], rfl⟩
  ·have hx2b : (x.K == 2) = false := by rw [beq_eq_false_iff_ne]; exact hx2
   by_cases hy2 : y.K = 2
   ·have hv := Lib.hid (show bx = true from by rw [hbxv.out]; exact decide_eq_true (.inr hy2))
    rw [hy2] at q1
    clear hx2 hy2
    go_wp2_with fail
    go_meet
    exact ⟨by rw [hv.out], rfl⟩
   ·have hy2b : (y.K == 2) = false := by rw [beq_eq_false_iff_ne]; exact hy2
    have hv := Lib.hid (show bx = false from by rw [hbxv.out]; exact decide_eq_false (by omega))
    clear hx2 hy2
    go_wp2_with fail
    go_meet
    exact ⟨by rw [hv.out], rfl⟩
 case rest =>
  obtain ⟨rfl, rfl⟩ := hcut
  cases bx with
  | true =>
   have hbox := Lib.hid (show x.K = 2 ∨ y.K = 2 from of_decide_eq_true hbxv.out.symm)
   have hdpos := Lib.hid (show 0 < d from by
    rcases hbox.out with h | h
    ·exact (ox'.out.box h).2.2.1
    ·exact (oy'.out.box h).2.2.1)
   have hd1 : 0 < d := hdpos.out
   obtain ⟨d', rfl⟩ : ∃ d', d = d' + 1 := ⟨d - 1, by omega⟩
   have ix := ox'.out.inner; have iy := oy'.out.inner
   have ixa := Lib.hid ix; have iya := Lib.hid iy
   have hix := Lib.hid (show ∀ (W : World) (Q : Nat → Prop), CellNQ W Q x e → Calls Tryz.prog 139 #[.agg #[.int .u64 x.L, .int .i64 x.K, .bool x.N.neg, .slice xa x.N.an xac, .slice xb x.N.am xbc, .int .i64 x.C, .slice xi x.k xkc]] W (TreeQN (innerT x) Q W) from fun W Q hW => by
    have := innerQ_any x Q e W hW (fun hK => by have := (ox'.out.box hK).2.1; omega)
    rw [← xv'.out] at this; exact this)
   have hiy := Lib.hid (show ∀ (W : World) (Q : Nat → Prop), CellNQ W Q y e' → Calls Tryz.prog 139 #[.agg #[.int .u64 y.L, .int .i64 y.K, .bool y.N.neg, .slice ya y.N.an yac, .slice yb y.N.am ybc, .int .i64 y.C, .slice yi y.k ykc]] W (TreeQN (innerT y) Q W) from fun W Q hW => by
    have := innerQ_any y Q e' W hW (fun hK => by have := (oy'.out.box hK).2.1; omega)
    rw [← yv'.out] at this; exact this)
   have hTwo := Lib.hid (h'.out d' rfl)
   have hEi := Lib.hid (show EE = twoE f (d' + 1) (innerT x) (innerT y) from by rw [hEE'.out]; exact if_pos hbox.out)
   have hxw := Lib.hid (show CellNQ w2 (fun b => Q0 b ∧ b < w.heap.size) x e from CellQ.keep hx'.out (fun b hq _ => bb'.out.block b hq.2) (fun _ hq _ => hq) fun _ _ _ _ hd => ArrQ.keep (fun b hq _ => bb'.out.block b hq.2) (fun _ hq _ => hq) _ _ _ _ hd)
   have hyw := Lib.hid (show CellNQ w2 (fun b => Q0 b ∧ b < w.heap.size) y e' from CellQ.keep hy'.out (fun b hq _ => bb'.out.block b hq.2) (fun _ hq _ => hq) fun _ _ _ _ hd => ArrQ.keep (fun b hq _ => bb'.out.block b hq.2) (fun _ hq _ => hq) _ _ _ _ hd)
   clear ix iy
   go_upto_region 3 with fail
   have bb := bb'.out; have X := X'.out; have Y := Y'.out; have Z := Z'.out; have O := O'.out; have s2 := s2'.out; have s3 := s3'.out; have hxq := hxw.out; have hyq := hyw.out
   clear bb' X' Y' Z' O' s2' s3' p1 q1 hxw hyw
   have hOl := O.lt
   go_cut [9, 10] from 26 to 34 (fun s9 e10 wx => ∃ (E4 St nt nct mt mct : Nat) (aot cot : Option Addr), s9 = .pointer (some ⟨E4, 0, none⟩) ∧ e10 = .int .i64 EE ∧ Below w.heap.size w wx ∧ Box7 wx (w.heap.size + 2) (.int .u64 0) (.int .i64 0) (.bool false) (.slice none 0 0) (.slice none 0 0) (.int .i64 0) (.slice none 0 0) ∧ Box7 wx (w.heap.size + 3) (.int .u64 (orL x.L y.L : Nat)) (.int .i64 0) (.bool false) (.slice none 0 0) (.slice none 0 0) (.int .i64 0) (.slice none 0 0) ∧ Box3 wx E4 (.int .u64 (St : Nat)) (.slice aot nt nct) (.slice cot mt mct) ∧ ArrQ wx (fun b => (Prov Q0 w b ∧ b ≠ w.heap.size + 2) ∧ b ≠ w.heap.size + 3) (resT EE (twoT f (d' + 1) (innerT x) (innerT y))) (.int .u64 (St : Nat)) (.slice aot nt nct) (.slice cot mt mct) ∧ w.heap.size + 4 ≤ E4)
   case first =>
    have sn0 := True.intro
    go_region_held3 (fun w' => w'.cell? ⟨w.heap.size, 0, none⟩ = some (.int .u64 x.L) ∧ w'.cell? ⟨w.heap.size, 1, none⟩ = some (.int .i64 x.K) ∧ w'.cell? ⟨w.heap.size, 2, none⟩ = some (.bool x.N.neg) ∧ w'.cell? ⟨w.heap.size, 3, none⟩ = some (.slice xa x.N.an xac) ∧ w'.cell? ⟨w.heap.size, 4, none⟩ = some (.slice xb x.N.am xbc) ∧ w'.cell? ⟨w.heap.size, 5, none⟩ = some (.int .i64 x.C) ∧ w'.cell? ⟨w.heap.size, 6, none⟩ = some (.slice xi x.k xkc) ∧ w'.cell? ⟨w.heap.size + 1, 0, none⟩ = some (.int .u64 y.L) ∧ w'.cell? ⟨w.heap.size + 1, 1, none⟩ = some (.int .i64 y.K) ∧ w'.cell? ⟨w.heap.size + 1, 2, none⟩ = some (.bool y.N.neg) ∧ w'.cell? ⟨w.heap.size + 1, 3, none⟩ = some (.slice ya y.N.an yac) ∧ w'.cell? ⟨w.heap.size + 1, 4, none⟩ = some (.slice yb y.N.am ybc) ∧ w'.cell? ⟨w.heap.size + 1, 5, none⟩ = some (.int .i64 y.C) ∧ w'.cell? ⟨w.heap.size + 1, 6, none⟩ = some (.slice yi y.k ykc))
     (first | with_reducible exact ⟨X.c0, X.c1, X.c2, X.c3, X.c4, X.c5, X.c6, Y.c0, Y.c1, Y.c2, Y.c3, Y.c4, Y.c5, Y.c6⟩ | with_reducible exact ⟨X.drew.c0, X.drew.c1, X.drew.c2, X.drew.c3, X.drew.c4, X.drew.c5, X.drew.c6, Y.drew.c0, Y.drew.c1, Y.drew.c2, Y.drew.c3, Y.drew.c4, Y.drew.c5, Y.drew.c6⟩ | with_reducible exact ⟨(X.alloc _).c0, (X.alloc _).c1, (X.alloc _).c2, (X.alloc _).c3, (X.alloc _).c4, (X.alloc _).c5, (X.alloc _).c6, (Y.alloc _).c0, (Y.alloc _).c1, (Y.alloc _).c2, (Y.alloc _).c3, (Y.alloc _).c4, (Y.alloc _).c5, (Y.alloc _).c6⟩ | with_reducible exact ⟨(X.alloc _).drew.c0, (X.alloc _).drew.c1, (X.alloc _).drew.c2, (X.alloc _).drew.c3, (X.alloc _).drew.c4, (X.alloc _).drew.c5, (X.alloc _).drew.c6, (Y.alloc _).drew.c0, (Y.alloc _).drew.c1, (Y.alloc _).drew.c2, (Y.alloc _).drew.c3, (Y.alloc _).drew.c4, (Y.alloc _).drew.c5, (Y.alloc _).drew.c6⟩ | with_reducible exact ⟨XS.c0, XS.c1, XS.c2, XS.c3, XS.c4, XS.c5, XS.c6, YS.c0, YS.c1, YS.c2, YS.c3, YS.c4, YS.c5, YS.c6⟩ | exact ⟨(X.alloc _).c0, (X.alloc _).c1, (X.alloc _).c2, (X.alloc _).c3, (X.alloc _).c4, (X.alloc _).c5, (X.alloc _).c6, (Y.alloc _).c0, (Y.alloc _).c1, (Y.alloc _).c2, (Y.alloc _).c3, (Y.alloc _).c4, (Y.alloc _).c5, (Y.alloc _).c6⟩ | go_keep)
     (first
    | (go_at_call 139; clear sn0; refine (hix.out _ (fun b => Q0 b ∧ b < w.heap.size) ?_).mono ?_; (with_reducible exact CellNQ.later hxq (Below.refl _ _).drew); rintro e3 u1 ⟨z0, z1, z2, rfl, hN, hb⟩; have hda := (Below.refl w2.heap.size w2).drew; have bb := below_then bb (Nat.le_refl _) hda; have X := X.later hda; have Y := Y.later hda; have Z := Z.later hda; have O := O.later hda; have s2 := s2.later hda; have s3 := s3.later hda; have hyq := hyq.later hda; clear hda; have hsd1 : w2.drew.heap.size = w2.heap.size := rfl; have hsz1 := hb.size; obtain ⟨Sa, na, nca, ma, mca, aoa, coa, ea0, ea1, ea2⟩ := hN.form; subst ea0; subst ea1; subst ea2; have hA := ArrQ.keep (Q' := fun b => (Q0 b ∧ b < w.heap.size) ∨ w.heap.size + 4 ≤ b) (fun _ _ _ => rfl) (fun b hq _ => by have hol := O.lt; rcases hq with h | h; exact .inl h; exact .inr (by first | omega | exact ⟨by omega, by omega⟩)) _ _ _ _ hN; clear hN; have bb := below_then bb (Nat.le_refl _) hb; have X := X.later hb; have Y := Y.later hb; have Z := Z.later hb; have O := O.later hb; have s2 := s2.later hb; have s3 := s3.later hb; have hyq := hyq.later hb; clear hb hxq; have sn1 := True.intro)
    | (go_at_call 139; clear sn0; refine (hix.out _ (fun b => Q0 b ∧ b < w.heap.size) ?_).mono ?_; (with_reducible exact CellNQ.later hxq ((Below.refl _ _).alloc (Nat.le_refl _) (.cells #[.int .u64 0, .slice none 0 0, .slice none 0 0] 45)).drew); rintro e3 u1 ⟨z0, z1, z2, rfl, hN, hb⟩; have hox := O.lt; have hda := ((Below.refl w2.heap.size w2).alloc (Nat.le_refl _) (.cells #[.int .u64 0, .slice none 0 0, .slice none 0 0] 45)).drew; have s4 := shut3 (w := w2) (a := 0) (p := none) (q := none) (n := 0) (nc := 0) (m := 0) (mc := 0) (t := 45); have I := Box3.new (w := w2) (B := w2.heap.size) (.int .u64 0) (.slice none 0 0) (.slice none 0 0) 45 rfl; have s4 := s4.later (Below.refl _ _).drew; have I := I.later (Below.refl _ _).drew; have bb := below_then bb (Nat.le_refl _) hda; have X := X.later hda; have Y := Y.later hda; have Z := Z.later hda; have O := O.later hda; have s2 := s2.later hda; have s3 := s3.later hda; have hyq := hyq.later hda; clear hda; have hsd1 : ((w2.alloc (.cells #[.int .u64 0, .slice none 0 0, .slice none 0 0] 45)).drew).heap.size = w2.heap.size + 1 := (by simp); have hsz1 := hb.size; obtain ⟨Sa, na, nca, ma, mca, aoa, coa, ea0, ea1, ea2⟩ := hN.form; subst ea0; subst ea1; subst ea2; have hA := ArrQ.keep (Q' := fun b => (Q0 b ∧ b < w.heap.size) ∨ (w.heap.size + 4 ≤ b ∧ b ≠ w2.heap.size)) (fun _ _ _ => rfl) (fun b hq _ => by have hol := O.lt; have h4 := s4.1; rcases hq with h | h; exact .inl h; exact .inr (by first | omega | exact ⟨by omega, by omega⟩)) _ _ _ _ hN; clear hN; have bb := below_then bb (Nat.le_refl _) hb; have X := X.later hb; have Y := Y.later hb; have Z := Z.later hb; have O := O.later hb; have I := I.later hb; have s2 := s2.later hb; have s3 := s3.later hb; have s4 := s4.later hb; have hyq := hyq.later hb; clear hb hxq; have sp1w2 := True.intro)
    | (go_at_call 139; clear sn1; refine (hiy.out _ (fun b => Q0 b ∧ b < w.heap.size) ?_).mono ?_; (with_reducible exact hyq); rintro e3 u2 ⟨z0, z1, z2, rfl, hN, hb⟩; have hsz2 := hb.size; obtain ⟨Sb, nb, ncb, mb, mcb, aob, cob, eb0, eb1, eb2⟩ := hN.form; subst eb0; subst eb1; subst eb2; have hB := ArrQ.keep (Q' := fun b => (Q0 b ∧ b < w.heap.size) ∨ w.heap.size + 4 ≤ b) (fun _ _ _ => rfl) (fun b hq _ => by have hol := O.lt; rcases hq with h | h; exact .inl h; exact .inr (by first | omega | exact ⟨by omega, by omega⟩)) _ _ _ _ hN; clear hN; have bb := below_then bb (Nat.le_refl _) hb; have X := X.later hb; have Y := Y.later hb; have Z := Z.later hb; have O := O.later hb; have s2 := s2.later hb; have s3 := s3.later hb; have hA := ArrQ.laterQ hA hb; clear hb hyq; have sn2 := True.intro)
    | (go_at_call 139; clear sn1; have hA := ArrQ.keep (Q' := fun b => (Q0 b ∧ b < w.heap.size) ∨ (w.heap.size + 4 ≤ b ∧ b ≠ u1.heap.size)) (fun _ _ _ => rfl) (fun b hq hlt => by rcases hq with h | h; exact .inl h; exact .inr ⟨h, by omega⟩) _ _ _ _ hA; refine (hiy.out _ (fun b => Q0 b ∧ b < w.heap.size) ?_).mono ?_; (with_reducible exact CellNQ.later hyq ((Below.refl _ _).alloc (Nat.le_refl _) (.cells #[.int .u64 0, .slice none 0 0, .slice none 0 0] 45))); rintro e3 u2 ⟨z0, z1, z2, rfl, hN, hb⟩; have hox := O.lt; have hda := ((Below.refl u1.heap.size u1).alloc (Nat.le_refl _) (.cells #[.int .u64 0, .slice none 0 0, .slice none 0 0] 45)); have s4 := shut3 (w := u1) (a := 0) (p := none) (q := none) (n := 0) (nc := 0) (m := 0) (mc := 0) (t := 45); have I := Box3.new (w := u1) (B := u1.heap.size) (.int .u64 0) (.slice none 0 0) (.slice none 0 0) 45 rfl; have bb := below_then bb (Nat.le_refl _) hda; have X := X.later hda; have Y := Y.later hda; have Z := Z.later hda; have O := O.later hda; have s2 := s2.later hda; have s3 := s3.later hda; have hA := ArrQ.laterQ hA hda; clear hda; have hsd2 : ((u1.alloc (.cells #[.int .u64 0, .slice none 0 0, .slice none 0 0] 45))).heap.size = u1.heap.size + 1 := (by simp); have hsz2 := hb.size; obtain ⟨Sb, nb, ncb, mb, mcb, aob, cob, eb0, eb1, eb2⟩ := hN.form; subst eb0; subst eb1; subst eb2; have hB := ArrQ.keep (Q' := fun b => (Q0 b ∧ b < w.heap.size) ∨ (w.heap.size + 4 ≤ b ∧ b ≠ u1.heap.size)) (fun _ _ _ => rfl) (fun b hq _ => by have hol := O.lt; have h4 := s4.1; rcases hq with h | h; exact .inl h; exact .inr (by first | omega | exact ⟨by omega, by omega⟩)) _ _ _ _ hN; clear hN; have bb := below_then bb (Nat.le_refl _) hb; have X := X.later hb; have Y := Y.later hb; have Z := Z.later hb; have O := O.later hb; have I := I.later hb; have s2 := s2.later hb; have s3 := s3.later hb; have s4 := s4.later hb; have hA := ArrQ.laterQ hA hb; clear hb hyq; have sp2u1 := True.intro)
    | (go_at_call 139; clear sp1w2; refine (hiy.out _ (fun b => Q0 b ∧ b < w.heap.size) ?_).mono ?_; (with_reducible exact hyq); rintro e3 u2 ⟨z0, z1, z2, rfl, hN, hb⟩; have hsz2 := hb.size; obtain ⟨Sb, nb, ncb, mb, mcb, aob, cob, eb0, eb1, eb2⟩ := hN.form; subst eb0; subst eb1; subst eb2; have hB := ArrQ.keep (Q' := fun b => (Q0 b ∧ b < w.heap.size) ∨ (w.heap.size + 4 ≤ b ∧ b ≠ w2.heap.size)) (fun _ _ _ => rfl) (fun b hq _ => by have hol := O.lt; have h4 := s4.1; rcases hq with h | h; exact .inl h; exact .inr (by first | omega | exact ⟨by omega, by omega⟩)) _ _ _ _ hN; clear hN; have bb := below_then bb (Nat.le_refl _) hb; have X := X.later hb; have Y := Y.later hb; have Z := Z.later hb; have O := O.later hb; have I := I.later hb; have s2 := s2.later hb; have s3 := s3.later hb; have s4 := s4.later hb; have hA := ArrQ.laterQ hA hb; clear hb hyq; have sp2w2 := True.intro)
    | (go_at_call 30; clear sn2; refine (hTwo.out _ _ (fun b => (Q0 b ∧ b < w.heap.size) ∨ w.heap.size + 4 ≤ b) _ _ _ _ _ _ _ ?_ ?_ ixa.out.1 iya.out.1 ixa.out.2 iya.out.2).mono ?_; (with_reducible exact hA); (with_reducible exact hB); rintro e3 u3 ⟨⟨z0, z1, z2, rfl, hT⟩, hb⟩; have hsz3 := hb.size; obtain ⟨St, nt, nct, mt, mct, aot, cot, et0, et1, et2⟩ := hT.form; subst et0; subst et1; subst et2; have hT := ArrQ.keep (Q' := fun b => (Prov Q0 w b ∧ b ≠ w.heap.size + 2) ∧ b ≠ w.heap.size + 3) (fun _ _ _ => rfl) (fun b hq _ => two_free3 hq bb s2 s3) _ _ _ _ hT; have bb := below_then bb (Nat.le_refl _) hb; have X := X.later hb; have Y := Y.later hb; have Z := Z.later hb; have O := O.later hb; have hO := O.lt; clear hb hA hB s2 s3; have done3 := True.intro)
    | (go_at_call 30; clear sn2; have hA := ArrQ.keep (Q' := fun b => (Q0 b ∧ b < w.heap.size) ∨ (w.heap.size + 4 ≤ b ∧ b ≠ u2.heap.size)) (fun _ _ _ => rfl) (fun b hq hlt => by rcases hq with h | h; exact .inl h; exact .inr ⟨h, by omega⟩) _ _ _ _ hA; have hB := ArrQ.keep (Q' := fun b => (Q0 b ∧ b < w.heap.size) ∨ (w.heap.size + 4 ≤ b ∧ b ≠ u2.heap.size)) (fun _ _ _ => rfl) (fun b hq hlt => by rcases hq with h | h; exact .inl h; exact .inr ⟨h, by omega⟩) _ _ _ _ hB; refine (hTwo.out _ _ (fun b => (Q0 b ∧ b < w.heap.size) ∨ (w.heap.size + 4 ≤ b ∧ b ≠ u2.heap.size)) _ _ _ _ _ _ _ ?_ ?_ ixa.out.1 iya.out.1 ixa.out.2 iya.out.2).mono ?_; (with_reducible exact ArrQ.laterQ hA ((Below.refl _ _).alloc (Nat.le_refl _) (.cells #[.int .u64 0, .slice none 0 0, .slice none 0 0] 45))); (with_reducible exact ArrQ.laterQ hB ((Below.refl _ _).alloc (Nat.le_refl _) (.cells #[.int .u64 0, .slice none 0 0, .slice none 0 0] 45))); rintro e3 u3 ⟨⟨z0, z1, z2, rfl, hT⟩, hb⟩; have hox := O.lt; have hda := ((Below.refl u2.heap.size u2).alloc (Nat.le_refl _) (.cells #[.int .u64 0, .slice none 0 0, .slice none 0 0] 45)); have s4 := shut3 (w := u2) (a := 0) (p := none) (q := none) (n := 0) (nc := 0) (m := 0) (mc := 0) (t := 45); have I := Box3.new (w := u2) (B := u2.heap.size) (.int .u64 0) (.slice none 0 0) (.slice none 0 0) 45 rfl; have bb := below_then bb (Nat.le_refl _) hda; have X := X.later hda; have Y := Y.later hda; have Z := Z.later hda; have O := O.later hda; have s2 := s2.later hda; have s3 := s3.later hda; have hA := ArrQ.laterQ hA hda; have hB := ArrQ.laterQ hB hda; clear hda; have hsd3 : ((u2.alloc (.cells #[.int .u64 0, .slice none 0 0, .slice none 0 0] 45))).heap.size = u2.heap.size + 1 := (by simp); have hsz3 := hb.size; obtain ⟨St, nt, nct, mt, mct, aot, cot, et0, et1, et2⟩ := hT.form; subst et0; subst et1; subst et2; have hT := ArrQ.keep (Q' := fun b => ((Prov Q0 w b ∧ b ≠ w.heap.size + 2) ∧ b ≠ w.heap.size + 3) ∧ b ≠ u2.heap.size) (fun _ _ _ => rfl) (fun b hq _ => two_free hq bb s2 s3 s4 (by omega)) _ _ _ _ hT; have bb := below_then bb (Nat.le_refl _) hb; have X := X.later hb; have Y := Y.later hb; have Z := Z.later hb; have O := O.later hb; have I := I.later hb; have hO := O.lt; have hI := I.lt; have XS := ((X.aside (D := u2.heap.size) (by omega) 0 (.int .u64 (St : Nat))).aside (D := u2.heap.size) (by omega) 1 (.slice aot nt nct)).aside (D := u2.heap.size) (by omega) 2 (.slice cot mt mct); have YS := ((Y.aside (D := u2.heap.size) (by omega) 0 (.int .u64 (St : Nat))).aside (D := u2.heap.size) (by omega) 1 (.slice aot nt nct)).aside (D := u2.heap.size) (by omega) 2 (.slice cot mt mct); have i0 := I.c0; have i1 := I.c1; have i2 := I.c2; have j0 := I.fr 0; have j1 := I.fr 1; have j2 := I.fr 2; clear hb hA hB s2 s3 s4; have done3 := True.intro)
    | (go_at_call 30; clear sp2u1; refine (hTwo.out _ _ (fun b => (Q0 b ∧ b < w.heap.size) ∨ (w.heap.size + 4 ≤ b ∧ b ≠ u1.heap.size)) _ _ _ _ _ _ _ ?_ ?_ ixa.out.1 iya.out.1 ixa.out.2 iya.out.2).mono ?_; (with_reducible exact hA); (with_reducible exact hB); rintro e3 u3 ⟨⟨z0, z1, z2, rfl, hT⟩, hb⟩; have hsz3 := hb.size; obtain ⟨St, nt, nct, mt, mct, aot, cot, et0, et1, et2⟩ := hT.form; subst et0; subst et1; subst et2; have hT := ArrQ.keep (Q' := fun b => ((Prov Q0 w b ∧ b ≠ w.heap.size + 2) ∧ b ≠ w.heap.size + 3) ∧ b ≠ u1.heap.size) (fun _ _ _ => rfl) (fun b hq _ => two_free hq bb s2 s3 s4 (by omega)) _ _ _ _ hT; have bb := below_then bb (Nat.le_refl _) hb; have X := X.later hb; have Y := Y.later hb; have Z := Z.later hb; have O := O.later hb; have I := I.later hb; have hO := O.lt; have hI := I.lt; have XS := ((X.aside (D := u1.heap.size) (by omega) 0 (.int .u64 (St : Nat))).aside (D := u1.heap.size) (by omega) 1 (.slice aot nt nct)).aside (D := u1.heap.size) (by omega) 2 (.slice cot mt mct); have YS := ((Y.aside (D := u1.heap.size) (by omega) 0 (.int .u64 (St : Nat))).aside (D := u1.heap.size) (by omega) 1 (.slice aot nt nct)).aside (D := u1.heap.size) (by omega) 2 (.slice cot mt mct); have i0 := I.c0; have i1 := I.c1; have i2 := I.c2; have j0 := I.fr 0; have j1 := I.fr 1; have j2 := I.fr 2; clear hb hA hB s2 s3 s4; have done3 := True.intro)
    | (go_at_call 30; clear sp2w2; refine (hTwo.out _ _ (fun b => (Q0 b ∧ b < w.heap.size) ∨ (w.heap.size + 4 ≤ b ∧ b ≠ w2.heap.size)) _ _ _ _ _ _ _ ?_ ?_ ixa.out.1 iya.out.1 ixa.out.2 iya.out.2).mono ?_; (with_reducible exact hA); (with_reducible exact hB); rintro e3 u3 ⟨⟨z0, z1, z2, rfl, hT⟩, hb⟩; have hsz3 := hb.size; obtain ⟨St, nt, nct, mt, mct, aot, cot, et0, et1, et2⟩ := hT.form; subst et0; subst et1; subst et2; have hT := ArrQ.keep (Q' := fun b => ((Prov Q0 w b ∧ b ≠ w.heap.size + 2) ∧ b ≠ w.heap.size + 3) ∧ b ≠ w2.heap.size) (fun _ _ _ => rfl) (fun b hq _ => two_free hq bb s2 s3 s4 (by omega)) _ _ _ _ hT; have bb := below_then bb (Nat.le_refl _) hb; have X := X.later hb; have Y := Y.later hb; have Z := Z.later hb; have O := O.later hb; have I := I.later hb; have hO := O.lt; have hI := I.lt; have XS := ((X.aside (D := w2.heap.size) (by omega) 0 (.int .u64 (St : Nat))).aside (D := w2.heap.size) (by omega) 1 (.slice aot nt nct)).aside (D := w2.heap.size) (by omega) 2 (.slice cot mt mct); have YS := ((Y.aside (D := w2.heap.size) (by omega) 0 (.int .u64 (St : Nat))).aside (D := w2.heap.size) (by omega) 1 (.slice aot nt nct)).aside (D := w2.heap.size) (by omega) 2 (.slice cot mt mct); have i0 := I.c0; have i1 := I.c1; have i2 := I.c2; have j0 := I.fr 0; have j1 := I.fr 1; have j2 := I.fr 2; clear hb hA hB s2 s3 s4; have done3 := True.intro))
    ·clear done3
     rw [← hEi.out] at hT
     have b4 := bb.alloc bb.size (.cells #[.int .u64 (St : Nat), .slice aot nt nct, .slice cot mt mct] 45)
     have Z4 := Z.alloc (.cells #[.int .u64 (St : Nat), .slice aot nt nct, .slice cot mt mct] 45); have O4 := O.alloc (.cells #[.int .u64 (St : Nat), .slice aot nt nct, .slice cot mt mct] 45); have I4 := Box3.new (w := u3) (B := u3.heap.size) (.int .u64 (St : Nat)) (.slice aot nt nct) (.slice cot mt mct) 45 rfl
     have T4 := ArrQ.laterQ hT ((Below.refl _ _).alloc (Nat.le_refl _) (.cells #[.int .u64 (St : Nat), .slice aot nt nct, .slice cot mt mct] 45))
     go_wp2_with fail
     go_meet
     exact ⟨u3.heap.size, St, nt, nct, mt, mct, aot, cot, rfl, by rw [hEi.out], b4, Z4, O4, I4, T4, by omega⟩
    ·clear done3
     rw [← hEi.out] at hT
     have b4 := below_set3 bb (B := u2.heap.size) (by omega) (.int .u64 (St : Nat)) (.slice aot nt nct) (.slice cot mt mct)
     have Z4 := ((Z.aside (D := u2.heap.size) (by omega) 0 (.int .u64 (St : Nat))).aside (D := u2.heap.size) (by omega) 1 (.slice aot nt nct)).aside (D := u2.heap.size) (by omega) 2 (.slice cot mt mct)
     have O4 := ((O.aside (D := u2.heap.size) (by omega) 0 (.int .u64 (St : Nat))).aside (D := u2.heap.size) (by omega) 1 (.slice aot nt nct)).aside (D := u2.heap.size) (by omega) 2 (.slice cot mt mct)
     have I4 := I.set (.int .u64 (St : Nat)) (.slice aot nt nct) (.slice cot mt mct)
     have T4 := ArrQ.keep (Q' := fun b => (Prov Q0 w b ∧ b ≠ w.heap.size + 2) ∧ b ≠ w.heap.size + 3) (fun b hq _ => heap_set012 (w := u3) hq.2 (.int .u64 (St : Nat)) (.slice aot nt nct) (.slice cot mt mct)) (fun b hq _ => hq.1) _ _ _ _ hT
     go_wp2_with fail
     go_meet
     exact ⟨u2.heap.size, St, nt, nct, mt, mct, aot, cot, rfl, by rw [hEi.out], b4, Z4, O4, I4, T4, by omega⟩
    ·clear done3
     rw [← hEi.out] at hT
     have b4 := below_set3 bb (B := u1.heap.size) (by omega) (.int .u64 (St : Nat)) (.slice aot nt nct) (.slice cot mt mct)
     have Z4 := ((Z.aside (D := u1.heap.size) (by omega) 0 (.int .u64 (St : Nat))).aside (D := u1.heap.size) (by omega) 1 (.slice aot nt nct)).aside (D := u1.heap.size) (by omega) 2 (.slice cot mt mct)
     have O4 := ((O.aside (D := u1.heap.size) (by omega) 0 (.int .u64 (St : Nat))).aside (D := u1.heap.size) (by omega) 1 (.slice aot nt nct)).aside (D := u1.heap.size) (by omega) 2 (.slice cot mt mct)
     have I4 := I.set (.int .u64 (St : Nat)) (.slice aot nt nct) (.slice cot mt mct)
     have T4 := ArrQ.keep (Q' := fun b => (Prov Q0 w b ∧ b ≠ w.heap.size + 2) ∧ b ≠ w.heap.size + 3) (fun b hq _ => heap_set012 (w := u3) hq.2 (.int .u64 (St : Nat)) (.slice aot nt nct) (.slice cot mt mct)) (fun b hq _ => hq.1) _ _ _ _ hT
     go_wp2_with fail
     go_meet
     exact ⟨u1.heap.size, St, nt, nct, mt, mct, aot, cot, rfl, by rw [hEi.out], b4, Z4, O4, I4, T4, by omega⟩
    ·clear done3
     rw [← hEi.out] at hT
     have b4 := below_set3 bb (B := w2.heap.size) (by omega) (.int .u64 (St : Nat)) (.slice aot nt nct) (.slice cot mt mct)
     have Z4 := ((Z.aside (D := w2.heap.size) (by omega) 0 (.int .u64 (St : Nat))).aside (D := w2.heap.size) (by omega) 1 (.slice aot nt nct)).aside (D := w2.heap.size) (by omega) 2 (.slice cot mt mct)
     have O4 := ((O.aside (D := w2.heap.size) (by omega) 0 (.int .u64 (St : Nat))).aside (D := w2.heap.size) (by omega) 1 (.slice aot nt nct)).aside (D := w2.heap.size) (by omega) 2 (.slice cot mt mct)
     have I4 := I.set (.int .u64 (St : Nat)) (.slice aot nt nct) (.slice cot mt mct)
     have T4 := ArrQ.keep (Q' := fun b => (Prov Q0 w b ∧ b ≠ w.heap.size + 2) ∧ b ≠ w.heap.size + 3) (fun b hq _ => heap_set012 (w := u3) hq.2 (.int .u64 (St : Nat)) (.slice aot nt nct) (.slice cot mt mct)) (fun b hq _ => hq.1) _ _ _ _ hT
     go_wp2_with fail
     go_meet
     exact ⟨w2.heap.size, St, nt, nct, mt, mct, aot, cot, rfl, by rw [hEi.out], b4, Z4, O4, I4, T4, by omega⟩
   case rest =>
    obtain ⟨E4, St, nt, nct, mt, mct, aot, cot, rfl, rfl, bb, Z, O, I, hT, hE4⟩ := hcut
    have hO := O.lt; have hI := I.lt
    have I1 := I.aside (D := w.heap.size + 3) (by omega) 1 (.int .i64 2)
    have i0 := I1.c0; have i1 := I1.c1; have i2 := I1.c2
    have k1 := O.c1; have k6 := O.c6; have g1 := O.fr 1; have g6 := O.fr 6
    have bw := ((bb.setCell (p := ⟨w.heap.size + 3, 1, none⟩) (by show w.heap.size ≤ w.heap.size + 3; omega) (.int .i64 2)).setCell (p := ⟨w.heap.size + 3, 6, none⟩) (by show w.heap.size ≤ w.heap.size + 3; omega) (.slice (some ⟨wc.heap.size, 0, none⟩) 1 1)).alloc (by have := bb.size; simpa [World.setCell] using this) (.cells #[.int .u64 (St : Nat), .slice aot nt nct, .slice cot mt mct] 45)
    have Ow := ((O.set1 (.int .i64 2)).set6 (.slice (some ⟨wc.heap.size, 0, none⟩) 1 1)).alloc (.cells #[.int .u64 (St : Nat), .slice aot nt nct, .slice cot mt mct] 45)
    have Zw := ((Z.aside (D := w.heap.size + 3) (by omega) 1 (.int .i64 2)).aside (D := w.heap.size + 3) (by omega) 6 (.slice (some ⟨wc.heap.size, 0, none⟩) 1 1)).alloc (.cells #[.int .u64 (St : Nat), .slice aot nt nct, .slice cot mt mct] 45)
    have hkp := fun b (hb : b ≠ w.heap.size + 3) (hlt : b < wc.heap.size) => ((Lib.alloc_old ((wc.setCell ⟨w.heap.size + 3, 1, none⟩ (.int .i64 2)).setCell ⟨w.heap.size + 3, 6, none⟩ (.slice (some ⟨wc.heap.size, 0, none⟩) 1 1)) (.cells #[.int .u64 (St : Nat), .slice aot nt nct, .slice cot mt mct] 45) b (by simpa [World.setCell] using hlt)).trans ((Below.heap_setCell (w := (wc.setCell ⟨w.heap.size + 3, 1, none⟩ (.int .i64 2))) ⟨w.heap.size + 3, 6, none⟩ (.slice (some ⟨wc.heap.size, 0, none⟩) 1 1) b hb).trans (Below.heap_setCell (w := wc) ⟨w.heap.size + 3, 1, none⟩ (.int .i64 2) b hb)))
    have hTk := ArrQ.keep (Q' := fun b => Prov Q0 w b ∧ b ≠ w.heap.size + 2) (fun b hq hb => hkp b hq.2 hb) (fun b hq _ => hq.1) _ _ _ _ hT
    have hrw := row_one (w := ((wc.setCell ⟨w.heap.size + 3, 1, none⟩ (.int .i64 2)).setCell ⟨w.heap.size + 3, 6, none⟩ (.slice (some ⟨wc.heap.size, 0, none⟩) 1 1))) (.int .u64 (St : Nat)) (.slice aot nt nct) (.slice cot mt mct) 45
    have hsz2 : ((wc.setCell ⟨w.heap.size + 3, 1, none⟩ (.int .i64 2)).setCell ⟨w.heap.size + 3, 6, none⟩ (.slice (some ⟨wc.heap.size, 0, none⟩) 1 1)).heap.size = wc.heap.size := by simp [World.setCell]
    rw [hsz2] at hrw
    have hbs := bb.size
    have hD2 := Lib.hid (show EE = 0 → twoD f x y (resT EE (twoT f (d' + 1) (innerT x) (innerT y))) = DD from fun h0 => by rw [hDD'.out]; unfold resT; rw [if_pos h0])
    obtain ⟨TT, hTT⟩ : ∃ TT, TT = resT EE (twoT f (d' + 1) (innerT x) (innerT y)) := ⟨_, rfl⟩
    rw [← hTT] at hTk hD2
    have hmade : TwoMade x y (twoD f x y TT) EE Q0 w (((wc.setCell ⟨w.heap.size + 3, 1, none⟩ (.int .i64 2)).setCell ⟨w.heap.size + 3, 6, none⟩ (.slice (some ⟨wc.heap.size, 0, none⟩) 1 1)).alloc (.cells #[.int .u64 (St : Nat), .slice aot nt nct, .slice cot mt mct] 45)) (.int .i64 2) (.bool false) (.slice none 0 0) (.slice none 0 0) (.slice (some ⟨wc.heap.size, 0, none⟩) 1 1) := by
     refine ⟨bw, Zw, Ow, CellNQ.made rfl hor.out (if_pos hbox.out) (by show IsZ (if _ then _ else _); rw [if_pos hbox.out]; exact ⟨by decide, by decide⟩) (by show NumQ _ _ (twoN f x y) _ _ _; unfold twoN; rw [if_pos hbox.out]; exact num_zero10 _ _) rfl isz_zero (if_pos hbox.out) (by show IsN (if _ then _ else _) _; rw [if_pos hbox.out]; exact ⟨Nat.le_refl _, by decide, by decide⟩) (.inr ⟨wc.heap.size, 0, rfl, ⟨.inr (.inl (by omega)), by omega⟩, fun j hj => ?_⟩)⟩
     have hj' : j < (if x.K = 2 ∨ y.K = 2 then 1 else 0) := hj
     rw [if_pos hbox.out] at hj'
     obtain rfl : j = 0 := by omega
     exact ⟨_, _, _, hrw.1, hrw.2.1, hrw.2.2, hTk⟩
    clear bw Ow Zw hkp hTk hrw hsz2 hT bb Z O I I1 X Y
    go_upto_region 6 with fail
    refine told_wp (fun w' => TwoMade x y (twoD f x y TT) EE Q0 w w' (.int .i64 2) (.bool false) (.slice none 0 0) (.slice none 0 0) (.slice (some ⟨wc.heap.size, 0, none⟩) 1 1)) hmade ?_
    clear hmade k1 k6 g1 g6 i0 i1 i2
    rintro wm mM
    have mO := mM.2.2.1; have mZ := mM.2.1
    have m0 := mO.c0; have m1 := mO.c1; have m2 := mO.c2; have m3 := mO.c3; have m4 := mO.c4; have m5 := mO.c5; have m6 := mO.c6
    have n0 := mZ.c0; have n1 := mZ.c1; have n2 := mZ.c2; have n3 := mZ.c3; have n4 := mZ.c4; have n5 := mZ.c5; have n6 := mZ.c6
    have f0 := mZ.fr 0; have f1 := mZ.fr 1; have f2 := mZ.fr 2; have f3 := mZ.fr 3; have f4 := mZ.fr 4; have f5 := mZ.fr 5; have f6 := mZ.fr 6
    have zz := mZ.setAll (.int .u64 (orL x.L y.L : Nat)) (.int .i64 2) (.bool false) (.slice none 0 0) (.slice none 0 0) (.int .i64 0) (.slice (some ⟨wc.heap.size, 0, none⟩) 1 1)
    have e0 := zz.c0; have e1 := zz.c1; have e2 := zz.c2; have e3 := zz.c3; have e4 := zz.c4; have e5 := zz.c5; have e6 := zz.c6
    have mM' := Lib.hid mM
    clear zz mO mZ mM
    go_wp2_with fail
    refine bodyPost_ret (v := .tuple #[.agg #[.int .u64 (orL x.L y.L : Nat), .int .i64 2, .bool false, .slice none 0 0, .slice none 0 0, .int .i64 0, .slice (some ⟨wc.heap.size, 0, none⟩) 1 1], .int .i64 EE]) (by simp [results, Tryz.results90, go_sem, e0, e1, e2, e3, e4, e5, e6]) rfl ?_
    exact two_done mM'.out hD2.out
  | false =>
   have hbox := Lib.hid (show ¬ (x.K = 2 ∨ y.K = 2) from of_decide_eq_false hbxv.out.symm)
   have hx2 := Lib.hid (show x.K ≠ 2 from fun h => hbox.out (.inl h)); have hy2 := Lib.hid (show y.K ≠ 2 from fun h => hbox.out (.inr h))
   by_cases hn0 : x.K = 0 ∧ y.K = 0
   ·obtain ⟨hx0, hy0⟩ := hn0
    have hRx : RightF x.N := by
     rcases ox'.out.plain hx2.out with ⟨_, _, _, h⟩ | ⟨h, _⟩
     ·exact h
     ·omega
    have hRy : RightF y.N := by
     rcases oy'.out.plain hy2.out with ⟨_, _, _, h⟩ | ⟨h, _⟩
     ·exact h
     ·omega
    have hnb : ¬ (x.K = 2 ∨ y.K = 2) := by omega
    have hx0h := Lib.hid hx0; have hy0h := Lib.hid hy0; have hnbh := Lib.hid hnb
    have p2 := X'.out.c2; have p3 := X'.out.c3; have p4 := X'.out.c4; have q2 := Y'.out.c2; have q3 := Y'.out.c3; have q4 := Y'.out.c4
    rw [hx0] at p1; rw [hy0] at q1
    have lx := hRx.low; have ly := hRy.low
    have Rx := (show NumP w2 x.N (.bool x.N.neg) (.slice xa x.N.an xac) (.slice xb x.N.am xbc) from (xN'.out.keep (Q' := fun _ => True) (fun b hq _ => bb'.out.block b hq.2) (fun _ _ _ => trivial)).plain').rtS hRx
    have Ry := (show NumP w2 y.N (.bool y.N.neg) (.slice ya y.N.an yac) (.slice yb y.N.am ybc) from (yN'.out.keep (Q' := fun _ => True) (fun b hq _ => bb'.out.block b hq.2) (fun _ _ _ => trivial)).plain').rtS hRy
    have hfit := Lib.hid (fit_two f lx ly)
    obtain ⟨r, hrr⟩ : ∃ r, r = num2R f (topF x.N) (botF x.N) (topF y.N) (botF y.N) := ⟨_, rfl⟩
    have hrr' := Lib.hid hrr
    have hcall := numbers10_any f x.N.neg xa xb x.N.an xac x.N.am xbc (topF x.N) (botF x.N) y.N.neg ya yb y.N.an yac y.N.am ybc (topF y.N) (botF y.N) w2 Rx lx Ry ly
    rw [← hrr] at hcall hfit
    replace hcall := Lib.hid hcall
    have hEr := Lib.hid (show EE = r.2.2 from by rw [hEE'.out]; unfold cellE; rw [if_neg hnbh.out, if_pos ⟨hx0h.out, hy0h.out⟩, hrr])
    clear Rx Ry lx ly hrr hx0 hy0 hnb hRx hRy
    go_wp2_with fail
    refine hcall.out.mono ?_
    rintro e3 w3 ⟨nb, po, pn, pc, qo, qn, qc, rfl, R2, hb3⟩
    obtain ⟨rT, rB, rE⟩ := r
    have hsm : rT.natAbs < pw 32 ∧ rB < pw 32 := by
     rcases hfit.out with ⟨_, hl⟩ | ⟨_, h1, h2⟩
     ·exact ⟨hl.2.2.1, hl.2.2.2⟩
     ·have h1' : rT = 0 := h1
      have h2' : rB = 0 := h2
      rw [h1', h2']; exact ⟨Nat.lt_trans (by decide : (0 : Int).natAbs < 1) one_lt, Nat.lt_trans Nat.zero_lt_one one_lt⟩
    have hNP := R2.numP hsm.1 hsm.2
    have bb := below_then bb'.out (Nat.le_refl _) hb3; have Z := Z'.out.later hb3; have O := O'.out.later hb3; have s2 := s2'.out.later hb3; have s3 := s3'.out.later hb3
    have hNQ := hNP.limbs.keep (w' := ((w3.setCell ⟨w.heap.size + 3, 2, none⟩ (.bool nb)).setCell ⟨w.heap.size + 3, 3, none⟩ (.slice po pn pc)).setCell ⟨w.heap.size + 3, 4, none⟩ (.slice qo qn qc)) (Q' := fun b => Prov Q0 w b ∧ b ≠ w.heap.size + 2) (fun b hq _ => heap_set234 (s3.ne hq) _ _ _) (fun b hq _ => ⟨Prov.limb hq bb, s2.ne hq⟩)
    have g2 := O.fr 2; have g3 := O.fr 3; have g4 := O.fr 4; have k2 := O.c2; have k3 := O.c3; have k4 := O.c4
    have hmade : TwoMade x y ⟨orL x.L y.L, 0, numF rT rB, 0, 0, fun _ => twoT f d (innerT x) (innerT y)⟩ rE Q0 w (((w3.setCell ⟨w.heap.size + 3, 2, none⟩ (.bool nb)).setCell ⟨w.heap.size + 3, 3, none⟩ (.slice po pn pc)).setCell ⟨w.heap.size + 3, 4, none⟩ (.slice qo qn qc)) (.int .i64 0) (.bool nb) (.slice po pn pc) (.slice qo qn qc) (.slice none 0 0) :=
     two_plain (((bb.setCell (p := ⟨w.heap.size + 3, 2, none⟩) (by show w.heap.size ≤ w.heap.size + 3; omega) _).setCell (p := ⟨w.heap.size + 3, 3, none⟩) (by show w.heap.size ≤ w.heap.size + 3; omega) _).setCell (p := ⟨w.heap.size + 3, 4, none⟩) (by show w.heap.size ≤ w.heap.size + 3; omega) _)
      (((Z.aside (D := w.heap.size + 3) (by omega) _ _).aside (D := w.heap.size + 3) (by omega) _ _).aside (D := w.heap.size + 3) (by omega) _ _) (O.set234 _ _ _) hor.out hNQ
    have hEr2 := Lib.hid (show EE = rE from hEr.out)
    have hD2 := Lib.hid (show rE = 0 → (⟨orL x.L y.L, 0, numF rT rB, 0, 0, fun _ => twoT f d (innerT x) (innerT y)⟩ : CellD) = DD from fun _ => by
     rw [hDD'.out]
     unfold twoD twoN
     rw [if_neg hnbh.out, if_neg hnbh.out, if_neg hnbh.out, if_pos ⟨hx0h.out, hy0h.out⟩, ← hrr'.out])
    clear bb Z O s2 s3 hNQ R2 hNP hsm hcall p1 p2 p3 p4 q1 q2 q3 q4 hb3 X' Y' Z' O' s2' s3' bb'
    go_upto_region 15 with fail
    refine told_wp (fun w' => TwoMade x y (⟨orL x.L y.L, 0, numF rT rB, 0, 0, fun _ => twoT f d (innerT x) (innerT y)⟩) rE Q0 w w' (.int .i64 0) (.bool nb) (.slice po pn pc) (.slice qo qn qc) (.slice none 0 0)) hmade ?_
    clear hmade g2 g3 g4 k2 k3 k4
    rintro wm mM
    have mO := mM.2.2.1; have mZ := mM.2.1
    have m0 := mO.c0; have m1 := mO.c1; have m2 := mO.c2; have m3 := mO.c3; have m4 := mO.c4; have m5 := mO.c5; have m6 := mO.c6
    have n0 := mZ.c0; have n1 := mZ.c1; have n2 := mZ.c2; have n3 := mZ.c3; have n4 := mZ.c4; have n5 := mZ.c5; have n6 := mZ.c6
    have f0 := mZ.fr 0; have f1 := mZ.fr 1; have f2 := mZ.fr 2; have f3 := mZ.fr 3; have f4 := mZ.fr 4; have f5 := mZ.fr 5; have f6 := mZ.fr 6
    have zz := mZ.setAll (.int .u64 (orL x.L y.L : Nat)) (.int .i64 0) (.bool nb) (.slice po pn pc) (.slice qo qn qc) (.int .i64 0) (.slice none 0 0)
    have e0 := zz.c0; have e1 := zz.c1; have e2 := zz.c2; have e3 := zz.c3; have e4 := zz.c4; have e5 := zz.c5; have e6 := zz.c6
    have mM' := Lib.hid mM
    clear zz mO mZ mM
    go_wp2_with fail
    refine bodyPost_ret (v := .tuple #[.agg #[.int .u64 (orL x.L y.L : Nat), .int .i64 0, .bool nb, .slice po pn pc, .slice qo qn qc, .int .i64 0, .slice none 0 0], .int .i64 rE]) (by simp [results, Tryz.results90, go_sem, e0, e1, e2, e3, e4, e5, e6]) rfl ?_
    rw [hEr2.out]
    exact two_done mM'.out hD2.out
   ·skip
    have hnbh := Lib.hid (fun h => hbox.out h); have hn0h := Lib.hid hn0
    obtain ⟨sv, hsv0⟩ : ∃ sv, Hid (sameKC x y = sv) := ⟨_, Lib.hid rfl⟩
    have hk4 : (x.K = 0 ∧ y.K = 1 ∧ True ∧ sv = false) ∨ (x.K = 1 ∧ y.K = 0 ∧ True ∧ sv = false) ∨ (x.K = 1 ∧ y.K = 1 ∧ x.C = y.C ∧ sv = true) ∨ (x.K = 1 ∧ y.K = 1 ∧ ((x.C == y.C) = false ∧ (x.C != y.C) = true) ∧ sv = false) := by
     have h1 : x.K = 0 ∨ x.K = 1 := by
      rcases ox'.out.plain hx2.out with ⟨h, _⟩ | ⟨h, _⟩
      ·exact .inl h
      ·exact .inr h
     have h2 : y.K = 0 ∨ y.K = 1 := by
      rcases oy'.out.plain hy2.out with ⟨h, _⟩ | ⟨h, _⟩
      ·exact .inl h
      ·exact .inr h
     rw [← hsv0.out]
     by_cases hKK : x.K = y.K
     ·have h11 : x.K = 1 ∧ y.K = 1 := by have := hn0h.out; omega
      by_cases hCC : x.C = y.C
      ·exact .inr (.inr (.inl ⟨h11.1, h11.2, hCC, decide_eq_true ⟨hKK, hCC⟩⟩))
      ·exact .inr (.inr (.inr ⟨h11.1, h11.2, ⟨by rw [beq_eq_false_iff_ne]; exact hCC, bne_iff_ne.2 hCC⟩, decide_eq_false fun h => hCC h.2⟩))
     ·have hs : sameKC x y = false := decide_eq_false fun h => hKK h.1
      rcases h1 with h1 | h1
      ·exact .inl ⟨h1, by omega, trivial, hs⟩
      ·exact .inr (.inl ⟨h1, by omega, trivial, hs⟩)
    have p5 := X'.out.c5; have q5 := Y'.out.c5
    by_cases hf1 : f = 61
    ·subst hf1
     have hsv := Lib.hid (show sameKC x y = sv from hsv0.out)
     clear hn0
     rcases hk4 with ⟨hxk, hyk, hCC, hs⟩ | ⟨hxk, hyk, hCC, hs⟩ | ⟨hxk, hyk, hCC, hs⟩ | ⟨hxk, hyk, hCC, hs⟩
     all_goals
      replace hs := Lib.hid hs
      rw [hxk] at p1
      rw [hyk] at q1
      (try have hCn := hCC.2)
      (try replace hCC := hCC.1)
      (first | (rw [hCC] at p5; clear hCC) | skip)
      clear hxk hyk
      have hEr2 := Lib.hid (show EE = 0 from by rw [hEE'.out]; unfold cellE; rw [if_neg hnbh.out, if_neg hn0h.out, if_pos (.inl rfl)])
      have hD2 := Lib.hid (show (⟨orL x.L y.L, 0, numF (truthZ sv) 1, 0, 0, fun _ => twoT 61 d (innerT x) (innerT y)⟩ : CellD) = DD from by
       rw [hDD'.out]
       unfold twoD twoN
       rw [if_neg hnbh.out, if_neg hnbh.out, if_neg hnbh.out, if_neg hn0h.out, if_pos rfl, show (sameKC x y) = sv from hsv.out])
      go_wp2_with fail
      refine ((truth10_any _ _).mono fun _ _ h => (show ResPost (truthZ sv) 1 0 _ _ _ from by rw [hs.out]; exact h)).mono ?_
      rintro e3 w3 ⟨nb, po, pn, pc, qo, qn, qc, rfl, R2, hb3⟩
      have hNP := R2.numP (truth_small sv).1 (truth_small sv).2
      have bb := below_then bb'.out (Nat.le_refl _) hb3; have Z := Z'.out.later hb3; have O := O'.out.later hb3; have s2 := s2'.out.later hb3; have s3 := s3'.out.later hb3
      have hNQ := hNP.limbs.keep (w' := ((w3.setCell ⟨w.heap.size + 3, 2, none⟩ (.bool nb)).setCell ⟨w.heap.size + 3, 3, none⟩ (.slice po pn pc)).setCell ⟨w.heap.size + 3, 4, none⟩ (.slice qo qn qc)) (Q' := fun b => Prov Q0 w b ∧ b ≠ w.heap.size + 2) (fun b hq _ => heap_set234 (s3.ne hq) _ _ _) (fun b hq _ => ⟨Prov.limb hq bb, s2.ne hq⟩)
      have g2 := O.fr 2; have g3 := O.fr 3; have g4 := O.fr 4; have k2 := O.c2; have k3 := O.c3; have k4 := O.c4
      have hmade : TwoMade x y ⟨orL x.L y.L, 0, numF (truthZ sv) 1, 0, 0, fun _ => twoT 61 d (innerT x) (innerT y)⟩ 0 Q0 w (((w3.setCell ⟨w.heap.size + 3, 2, none⟩ (.bool nb)).setCell ⟨w.heap.size + 3, 3, none⟩ (.slice po pn pc)).setCell ⟨w.heap.size + 3, 4, none⟩ (.slice qo qn qc)) (.int .i64 0) (.bool nb) (.slice po pn pc) (.slice qo qn qc) (.slice none 0 0) :=
       two_plain (((bb.setCell (p := ⟨w.heap.size + 3, 2, none⟩) (by show w.heap.size ≤ w.heap.size + 3; omega) _).setCell (p := ⟨w.heap.size + 3, 3, none⟩) (by show w.heap.size ≤ w.heap.size + 3; omega) _).setCell (p := ⟨w.heap.size + 3, 4, none⟩) (by show w.heap.size ≤ w.heap.size + 3; omega) _)
        (((Z.aside (D := w.heap.size + 3) (by omega) _ _).aside (D := w.heap.size + 3) (by omega) _ _).aside (D := w.heap.size + 3) (by omega) _ _) (O.set234 _ _ _) hor.out hNQ
      clear bb Z O s2 s3 hNQ R2 hNP p1 q1 hb3 X' Y' Z' O' s2' s3' bb'
      go_upto_region 15 with fail
      refine told_wp (fun w' => TwoMade x y (⟨orL x.L y.L, 0, numF (truthZ sv) 1, 0, 0, fun _ => twoT 61 d (innerT x) (innerT y)⟩) 0 Q0 w w' (.int .i64 0) (.bool nb) (.slice po pn pc) (.slice qo qn qc) (.slice none 0 0)) hmade ?_
      clear hmade g2 g3 g4 k2 k3 k4
      rintro wm mM
      have mO := mM.2.2.1; have mZ := mM.2.1
      have m0 := mO.c0; have m1 := mO.c1; have m2 := mO.c2; have m3 := mO.c3; have m4 := mO.c4; have m5 := mO.c5; have m6 := mO.c6
      have n0 := mZ.c0; have n1 := mZ.c1; have n2 := mZ.c2; have n3 := mZ.c3; have n4 := mZ.c4; have n5 := mZ.c5; have n6 := mZ.c6
      have f0 := mZ.fr 0; have f1 := mZ.fr 1; have f2 := mZ.fr 2; have f3 := mZ.fr 3; have f4 := mZ.fr 4; have f5 := mZ.fr 5; have f6 := mZ.fr 6
      have zz := mZ.setAll (.int .u64 (orL x.L y.L : Nat)) (.int .i64 0) (.bool nb) (.slice po pn pc) (.slice qo qn qc) (.int .i64 0) (.slice none 0 0)
      have e0 := zz.c0; have e1 := zz.c1; have e2 := zz.c2; have e3 := zz.c3; have e4 := zz.c4; have e5 := zz.c5; have e6 := zz.c6
      have mM' := Lib.hid mM
      clear zz mO mZ mM
      go_wp2_with fail
      refine bodyPost_ret (v := .tuple #[.agg #[.int .u64 (orL x.L y.L : Nat), .int .i64 0, .bool nb, .slice po pn pc, .slice qo qn qc, .int .i64 0, .slice none 0 0], .int .i64 0]) (by simp [results, Tryz.results90, go_sem, e0, e1, e2, e3, e4, e5, e6]) rfl ?_
      rw [hEr2.out]
      exact two_done mM'.out (fun _ => hD2.out)
    ·have hf1b : (f == 61) = false := by rw [beq_eq_false_iff_ne]; exact hf1
     by_cases hf2 : f = 8800
     ·subst hf2
      have hsv := Lib.hid (show (!sameKC x y) = !sv from by rw [hsv0.out])
      clear hf1 hf1b hn0
      rcases hk4 with ⟨hxk, hyk, hCC, hs⟩ | ⟨hxk, hyk, hCC, hs⟩ | ⟨hxk, hyk, hCC, hs⟩ | ⟨hxk, hyk, hCC, hs⟩
      all_goals
       replace hs := Lib.hid hs
       rw [hxk] at p1
       rw [hyk] at q1
       (try have hCn := hCC.2)
       (try replace hCC := hCC.1)
       (first | (rw [hCC] at p5; clear hCC) | skip)
       clear hxk hyk
       have hEr2 := Lib.hid (show EE = 0 from by rw [hEE'.out]; unfold cellE; rw [if_neg hnbh.out, if_neg hn0h.out, if_pos (.inr rfl)])
       have hD2 := Lib.hid (show (⟨orL x.L y.L, 0, numF (truthZ (!sv)) 1, 0, 0, fun _ => twoT 8800 d (innerT x) (innerT y)⟩ : CellD) = DD from by
        rw [hDD'.out]
        unfold twoD twoN
        rw [if_neg hnbh.out, if_neg hnbh.out, if_neg hnbh.out, if_neg hn0h.out, if_neg (by decide), show (!sameKC x y) = (!sv) from hsv.out])
       go_wp2_with fail
       refine ((truth10_any _ _).mono fun _ _ h => (show ResPost (truthZ (!sv)) 1 0 _ _ _ from by rw [hs.out]; exact h)).mono ?_
       rintro e3 w3 ⟨nb, po, pn, pc, qo, qn, qc, rfl, R2, hb3⟩
       have hNP := R2.numP (truth_small (!sv)).1 (truth_small (!sv)).2
       have bb := below_then bb'.out (Nat.le_refl _) hb3; have Z := Z'.out.later hb3; have O := O'.out.later hb3; have s2 := s2'.out.later hb3; have s3 := s3'.out.later hb3
       have hNQ := hNP.limbs.keep (w' := ((w3.setCell ⟨w.heap.size + 3, 2, none⟩ (.bool nb)).setCell ⟨w.heap.size + 3, 3, none⟩ (.slice po pn pc)).setCell ⟨w.heap.size + 3, 4, none⟩ (.slice qo qn qc)) (Q' := fun b => Prov Q0 w b ∧ b ≠ w.heap.size + 2) (fun b hq _ => heap_set234 (s3.ne hq) _ _ _) (fun b hq _ => ⟨Prov.limb hq bb, s2.ne hq⟩)
       have g2 := O.fr 2; have g3 := O.fr 3; have g4 := O.fr 4; have k2 := O.c2; have k3 := O.c3; have k4 := O.c4
       have hmade : TwoMade x y ⟨orL x.L y.L, 0, numF (truthZ (!sv)) 1, 0, 0, fun _ => twoT 8800 d (innerT x) (innerT y)⟩ 0 Q0 w (((w3.setCell ⟨w.heap.size + 3, 2, none⟩ (.bool nb)).setCell ⟨w.heap.size + 3, 3, none⟩ (.slice po pn pc)).setCell ⟨w.heap.size + 3, 4, none⟩ (.slice qo qn qc)) (.int .i64 0) (.bool nb) (.slice po pn pc) (.slice qo qn qc) (.slice none 0 0) :=
        two_plain (((bb.setCell (p := ⟨w.heap.size + 3, 2, none⟩) (by show w.heap.size ≤ w.heap.size + 3; omega) _).setCell (p := ⟨w.heap.size + 3, 3, none⟩) (by show w.heap.size ≤ w.heap.size + 3; omega) _).setCell (p := ⟨w.heap.size + 3, 4, none⟩) (by show w.heap.size ≤ w.heap.size + 3; omega) _)
         (((Z.aside (D := w.heap.size + 3) (by omega) _ _).aside (D := w.heap.size + 3) (by omega) _ _).aside (D := w.heap.size + 3) (by omega) _ _) (O.set234 _ _ _) hor.out hNQ
       clear bb Z O s2 s3 hNQ R2 hNP p1 q1 hb3 X' Y' Z' O' s2' s3' bb'
       go_upto_region 15 with fail
       refine told_wp (fun w' => TwoMade x y (⟨orL x.L y.L, 0, numF (truthZ (!sv)) 1, 0, 0, fun _ => twoT 8800 d (innerT x) (innerT y)⟩) 0 Q0 w w' (.int .i64 0) (.bool nb) (.slice po pn pc) (.slice qo qn qc) (.slice none 0 0)) hmade ?_
       clear hmade g2 g3 g4 k2 k3 k4
       rintro wm mM
       have mO := mM.2.2.1; have mZ := mM.2.1
       have m0 := mO.c0; have m1 := mO.c1; have m2 := mO.c2; have m3 := mO.c3; have m4 := mO.c4; have m5 := mO.c5; have m6 := mO.c6
       have n0 := mZ.c0; have n1 := mZ.c1; have n2 := mZ.c2; have n3 := mZ.c3; have n4 := mZ.c4; have n5 := mZ.c5; have n6 := mZ.c6
       have f0 := mZ.fr 0; have f1 := mZ.fr 1; have f2 := mZ.fr 2; have f3 := mZ.fr 3; have f4 := mZ.fr 4; have f5 := mZ.fr 5; have f6 := mZ.fr 6
       have zz := mZ.setAll (.int .u64 (orL x.L y.L : Nat)) (.int .i64 0) (.bool nb) (.slice po pn pc) (.slice qo qn qc) (.int .i64 0) (.slice none 0 0)
       have e0 := zz.c0; have e1 := zz.c1; have e2 := zz.c2; have e3 := zz.c3; have e4 := zz.c4; have e5 := zz.c5; have e6 := zz.c6
       have mM' := Lib.hid mM
       clear zz mO mZ mM
       go_wp2_with fail
       refine bodyPost_ret (v := .tuple #[.agg #[.int .u64 (orL x.L y.L : Nat), .int .i64 0, .bool nb, .slice po pn pc, .slice qo qn qc, .int .i64 0, .slice none 0 0], .int .i64 0]) (by simp [results, Tryz.results90, go_sem, e0, e1, e2, e3, e4, e5, e6]) rfl ?_
       rw [hEr2.out]
       exact two_done mM'.out (fun _ => hD2.out)
     ·have hf2b : (f == 8800) = false := by rw [beq_eq_false_iff_ne]; exact hf2
      have hk2 : (x.K = 0 ∧ y.K = 1) ∨ (x.K = 1) := by
       rcases hk4 with ⟨a, b, _⟩ | ⟨a, _⟩ | ⟨a, _⟩ | ⟨a, _⟩
       ·exact .inl ⟨a, b⟩
       ·exact .inr a
       ·exact .inr a
       ·exact .inr a
      clear hk4 p5 q5 hn0
      rcases hk2 with ⟨hxk, hyk⟩ | hxk
      ·rw [hxk] at p1
       rw [hyk] at q1
       clear hxk hyk
       have hEr2 := Lib.hid (show EE = 3 from by rw [hEE'.out]; unfold cellE; rw [if_neg hnbh.out, if_neg hn0h.out, if_neg (by omega)])
       have hmade : TwoMade x y ⟨orL x.L y.L, 0, zeroN, 0, 0, fun _ => .leaf⟩ 3 Q0 w w2 (.int .i64 0) (.bool false) (.slice none 0 0) (.slice none 0 0) (.slice none 0 0) :=
        two_plain bb'.out Z'.out O'.out hor.out (num_zero10 _ _)
       clear X' Y' Z' O' s2' s3' bb'
       go_upto_region 15 with fail
       refine told_wp (fun w' => TwoMade x y (⟨orL x.L y.L, 0, zeroN, 0, 0, fun _ => .leaf⟩) 3 Q0 w w' (.int .i64 0) (.bool false) (.slice none 0 0) (.slice none 0 0) (.slice none 0 0)) hmade ?_
       clear hmade p1 q1
       rintro wm mM
       have mO := mM.2.2.1; have mZ := mM.2.1
       have m0 := mO.c0; have m1 := mO.c1; have m2 := mO.c2; have m3 := mO.c3; have m4 := mO.c4; have m5 := mO.c5; have m6 := mO.c6
       have n0 := mZ.c0; have n1 := mZ.c1; have n2 := mZ.c2; have n3 := mZ.c3; have n4 := mZ.c4; have n5 := mZ.c5; have n6 := mZ.c6
       have f0 := mZ.fr 0; have f1 := mZ.fr 1; have f2 := mZ.fr 2; have f3 := mZ.fr 3; have f4 := mZ.fr 4; have f5 := mZ.fr 5; have f6 := mZ.fr 6
       have zz := mZ.setAll (.int .u64 (orL x.L y.L : Nat)) (.int .i64 0) (.bool false) (.slice none 0 0) (.slice none 0 0) (.int .i64 0) (.slice none 0 0)
       have e0 := zz.c0; have e1 := zz.c1; have e2 := zz.c2; have e3 := zz.c3; have e4 := zz.c4; have e5 := zz.c5; have e6 := zz.c6
       have mM' := Lib.hid mM
       clear zz mO mZ mM
       go_wp2_with fail
       refine bodyPost_ret (v := .tuple #[.agg #[.int .u64 (orL x.L y.L : Nat), .int .i64 0, .bool false, .slice none 0 0, .slice none 0 0, .int .i64 0, .slice none 0 0], .int .i64 3]) (by simp [results, Tryz.results90, go_sem, e0, e1, e2, e3, e4, e5, e6]) rfl ?_
       rw [hEr2.out]
       exact two_done mM'.out (fun h => absurd h (by decide))
      ·rw [hxk] at p1
       clear hxk
       have hEr2 := Lib.hid (show EE = 3 from by rw [hEE'.out]; unfold cellE; rw [if_neg hnbh.out, if_neg hn0h.out, if_neg (by omega)])
       have hmade : TwoMade x y ⟨orL x.L y.L, 0, zeroN, 0, 0, fun _ => .leaf⟩ 3 Q0 w w2 (.int .i64 0) (.bool false) (.slice none 0 0) (.slice none 0 0) (.slice none 0 0) :=
        two_plain bb'.out Z'.out O'.out hor.out (num_zero10 _ _)
       clear X' Y' Z' O' s2' s3' bb'
       go_upto_region 15 with fail
       refine told_wp (fun w' => TwoMade x y (⟨orL x.L y.L, 0, zeroN, 0, 0, fun _ => .leaf⟩) 3 Q0 w w' (.int .i64 0) (.bool false) (.slice none 0 0) (.slice none 0 0) (.slice none 0 0)) hmade ?_
       clear hmade p1 q1
       rintro wm mM
       have mO := mM.2.2.1; have mZ := mM.2.1
       have m0 := mO.c0; have m1 := mO.c1; have m2 := mO.c2; have m3 := mO.c3; have m4 := mO.c4; have m5 := mO.c5; have m6 := mO.c6
       have n0 := mZ.c0; have n1 := mZ.c1; have n2 := mZ.c2; have n3 := mZ.c3; have n4 := mZ.c4; have n5 := mZ.c5; have n6 := mZ.c6
       have f0 := mZ.fr 0; have f1 := mZ.fr 1; have f2 := mZ.fr 2; have f3 := mZ.fr 3; have f4 := mZ.fr 4; have f5 := mZ.fr 5; have f6 := mZ.fr 6
       have zz := mZ.setAll (.int .u64 (orL x.L y.L : Nat)) (.int .i64 0) (.bool false) (.slice none 0 0) (.slice none 0 0) (.int .i64 0) (.slice none 0 0)
       have e0 := zz.c0; have e1 := zz.c1; have e2 := zz.c2; have e3 := zz.c3; have e4 := zz.c4; have e5 := zz.c5; have e6 := zz.c6
       have mM' := Lib.hid mM
       clear zz mO mZ mM
       go_wp2_with fail
       refine bodyPost_ret (v := .tuple #[.agg #[.int .u64 (orL x.L y.L : Nat), .int .i64 0, .bool false, .slice none 0 0, .slice none 0 0, .int .i64 0, .slice none 0 0], .int .i64 3]) (by simp [results, Tryz.results90, go_sem, e0, e1, e2, e3, e4, e5, e6]) rfl ?_
       rw [hEr2.out]
       exact two_done mM'.out (fun h => absurd h (by decide))
end Go.Proofs.YtaepelipkkmeaaaGreat
namespace Go.Proofs.YtaepelipkkmeaaaGreat
open Go.RowKit Num Go.ChangeShapes
section
variable {H : Type} {enc : TypeId × Value → H} {P : Program} {W : World}
end
variable {H : Type} {enc : TypeId × Value → H} {W : World}
theorem seven_of {cs : List Value} (h : cs.length = 7) : ∃ e : Nat → Value, cs = [e 0, e 1, e 2, e 3, e 4, e 5, e 6] := by
 match cs, h with
 | [c0, c1, c2, c3, c4, c5, c6], _ => exact ⟨fun i => [c0, c1, c2, c3, c4, c5, c6].getD i c0, rfl⟩
def ArrIn (enc : TypeId × Value → H) (W : World) (fuel : Nat) : Prop := ∀ (cs : List Value) (x : DataW H × List MemPlace), DataW.trod enc Tryz.prog W 0 (fun _ => true) true fuel 45 cs = some x → (∀ k ∈ x.1.weights Tryz.prog 45, k ≤ reachBytes) → ∃ (A : Tree) (c0 c1 c2 : Value), cs = [c0, c1, c2] ∧ ArrP W A c0 c1 c2
theorem cell_in {fuel : Nat} (ih : ∀ m, m < fuel → ArrIn enc W m) {cs : List Value} {x : DataW H × List MemPlace} (h : DataW.trod enc Tryz.prog W 0 (fun _ => true) true fuel 65 cs = some x) (hw : ∀ k ∈ x.1.weights Tryz.prog 65, k ≤ reachBytes) :
  ∃ (c : CellD) (e : Nat → Value), cs = [e 0, e 1, e 2, e 3, e 4, e 5, e 6] ∧ CellR W c e := by
 obtain ⟨n, hn, hl, hf⟩ := struct_open Tryz.underlying65 h hw
 have kC : Tryz.prog.cellsOf 65 = 7 := by kernel_rfl
 obtain ⟨e, rfl⟩ := seven_of (hl.trans kC)
 obtain ⟨y0, h0, _⟩ := hf 0 _ rfl
 obtain ⟨y1, h1, _⟩ := hf 1 _ rfl
 obtain ⟨y2, h2, w2⟩ := hf 2 _ rfl
 obtain ⟨y3, h3, _⟩ := hf 3 _ rfl
 obtain ⟨y4, h4, w4⟩ := hf 4 _ rfl
 have ku : Tryz.prog.cellsOf 42 = 1 := by kernel_rfl
 have ki : Tryz.prog.cellsOf 3 = 1 := by kernel_rfl
 have kN : Tryz.prog.cellsOf 24 = 3 := by kernel_rfl
 have kS : Tryz.prog.cellsOf 63 = 1 := by kernel_rfl
 have h0' : DataW.trod enc Tryz.prog W 0 (fun _ => true) true n 42 [e 0] = some y0 := by simpa [ku] using h0
 have h1' : DataW.trod enc Tryz.prog W 0 (fun _ => true) true n 3 [e 1] = some y1 := by simpa [ki] using h1
 have h2' : DataW.trod enc Tryz.prog W 0 (fun _ => true) true n 24 [e 2, e 3, e 4] = some y2 := by simpa [kN] using h2
 have h3' : DataW.trod enc Tryz.prog W 0 (fun _ => true) true n 3 [e 5] = some y3 := by simpa [ki] using h3
 have h4' : DataW.trod enc Tryz.prog W 0 (fun _ => true) true n 63 [e 6] = some y4 := by simpa [kS] using h4
 obtain ⟨v0, q0, _, r0⟩ := DataW.trod_int Tryz.underlying42 h0'
 obtain ⟨v1, q1, _, r1⟩ := DataW.trod_int Tryz.underlying3 h1'
 obtain ⟨v3, q3, _, r3⟩ := DataW.trod_int Tryz.underlying3 h3'
 obtain ⟨N, hN⟩ := num_in h2' w2
 obtain ⟨ao, k, kc, q6, hk, hr⟩ := row_open Tryz.underlying63 (show Tryz.prog.cellsOf 45 = 3 by kernel_rfl) (by decide) (show 0 < Tryz.prog.bytesOf 45 from of_decide_eq_true (by kernel_rfl)) h4' w4
 have b0 := bounds_u64 r0
 have e0 : e 0 = .int .u64 (v0.toNat : Nat) := by rw [Int.toNat_of_nonneg b0.1]; simpa using q0
 have e1 : e 1 = .int .i64 v1 := by simpa using q1
 have e5 : e 5 = .int .i64 v3 := by simpa using q3
 have hL : IsL v0.toNat := by show v0.toNat < 18446744073709551616; omega
 rcases hr with hk0 | ⟨b, o, rfl, hr⟩
 ·exact ⟨⟨v0.toNat, v1, N, v3, k, fun _ => .leaf⟩, e, rfl, e0, hL, e1, bounds_i64 r1, hN, e5, bounds_i64 r3, ao, kc, q6, hk, .inl hk0⟩
 ·obtain ⟨sub, hsub⟩ := pick Tree.leaf (p := fun j A => ∃ d0 d1 d2, W.cell? ⟨b, o + j * 3, none⟩ = some d0 ∧ W.cell? ⟨b, o + j * 3 + 1, none⟩ = some d1 ∧ W.cell? ⟨b, o + j * 3 + 2, none⟩ = some d2 ∧ ArrP W A d0 d1 d2) fun j hj => by
   obtain ⟨m, cs, y, hm, _, p2, p3, p4⟩ := hr j hj
   obtain ⟨A, d0, d1, d2, rfl, hA⟩ := ih m (by omega) cs y p3 p4
   exact ⟨A, d0, d1, d2, by simpa using p2 0 (by decide), by simpa using p2 1 (by decide), by simpa using p2 2 (by decide), hA⟩
  exact ⟨⟨v0.toNat, v1, N, v3, k, sub⟩, e, rfl, e0, hL, e1, bounds_i64 r1, hN, e5, bounds_i64 r3, _, kc, q6, hk, .inr ⟨b, o, rfl, hsub⟩⟩
theorem arr_in : ∀ fuel, ArrIn enc W fuel := by
 intro fuel
 induction fuel using Nat.strongRecOn with
 | ind fuel ih =>
  intro cs x h hw
  obtain ⟨n, hn, hl, hf⟩ := struct_open Tryz.underlying45 h hw
  have kA : Tryz.prog.cellsOf 45 = 3 := by kernel_rfl
  obtain ⟨c0, c1, c2, rfl⟩ := three_of (hl.trans kA)
  obtain ⟨y0, h0, _⟩ := hf 0 _ rfl
  obtain ⟨y1, h1, w1⟩ := hf 1 _ rfl
  obtain ⟨y2, h2, w2⟩ := hf 2 _ rfl
  have ku : Tryz.prog.cellsOf 42 = 1 := by kernel_rfl
  have ks : Tryz.prog.cellsOf 27 = 1 := by kernel_rfl
  have kS : Tryz.prog.cellsOf 43 = 1 := by kernel_rfl
  have h0' : DataW.trod enc Tryz.prog W 0 (fun _ => true) true n 42 [c0] = some y0 := by simpa [ku] using h0
  have h1' : DataW.trod enc Tryz.prog W 0 (fun _ => true) true n 27 [c1] = some y1 := by simpa [ks] using h1
  have h2' : DataW.trod enc Tryz.prog W 0 (fun _ => true) true n 43 [c2] = some y2 := by simpa [kS] using h2
  obtain ⟨v0, q0, _, r0⟩ := DataW.trod_int Tryz.underlying42 h0'
  obtain ⟨ao, p, nc, rfl, hp, sh, hsh, hz⟩ := ints_in h1' w1
  obtain ⟨co, m, mc, rfl, hm, hr⟩ := row_open Tryz.underlying43 (show Tryz.prog.cellsOf 65 = 7 by kernel_rfl) (by decide) (show 0 < Tryz.prog.bytesOf 65 from of_decide_eq_true (by kernel_rfl)) h2' w2
  have b0 := bounds_u64 r0
  have e0 : c0 = .int .u64 (v0.toNat : Nat) := by rw [Int.toNat_of_nonneg b0.1]; simpa using q0
  have hL : IsL v0.toNat := by show v0.toNat < 18446744073709551616; omega
  rcases hr with hm0 | ⟨b, o, rfl, hr⟩
  ·exact ⟨.arr v0.toNat p sh m (fun _ => 0) (fun _ => 0) (fun _ => 0) (fun _ => zeroN) (fun _ => 0) (fun _ _ => .leaf), _, _, _, rfl, e0, hL, ⟨ao, nc, rfl, hp, hsh, hz⟩, co, mc, rfl, hm, .inl hm0⟩
  ·obtain ⟨cd, hcd⟩ := pick (⟨0, 0, zeroN, 0, 0, fun _ => .leaf⟩ : CellD) (p := fun i c => ∃ e : Nat → Value, (∀ t, t < 7 → W.cell? ⟨b, o + i * 7 + t, none⟩ = some (e t)) ∧ CellR W c e) fun i hi => by
    obtain ⟨m', cs, y, hm', _, p2, p3, p4⟩ := hr i hi
    obtain ⟨c, e, rfl, hc⟩ := cell_in (fun q hq => ih q (by omega)) p3 p4
    refine ⟨c, e, fun t ht => ?_, hc⟩
    rw [p2 t ht]
    rcases t with _ | _ | _ | _ | _ | _ | _ | t
    all_goals first | rfl | omega
   exact ⟨.arr v0.toNat p sh m (fun i => (cd i).L) (fun i => (cd i).K) (fun i => (cd i).C) (fun i => (cd i).N) (fun i => (cd i).k) (fun i => (cd i).sub), _, _, _, rfl, e0, hL, ⟨ao, nc, rfl, hp, hsh, hz⟩, _, mc, rfl, hm, .inr ⟨b, o, rfl, hcd⟩⟩
end Go.Proofs.YtaepelipkkmeaaaGreat
namespace Go.Proofs.YtaepelipkkmeaaaGreat
open Go.RowKit Num
def FullT : Tree → Prop
 | .leaf => False
 | .arr _ _ _ m _ _ _ _ k sub => ∀ i, i < m → ∀ j, j < k i → FullT (sub i j)
theorem ArrP.full {w : World} : ∀ (A : Tree) (c0 c1 c2 : Value), ArrP w A c0 c1 c2 → FullT A := by
 intro A
 induction A with
 | leaf => intro c0 c1 c2 h; exact (ArrP.leaf h).elim
 | arr S n sh m L K C N k sub ih =>
  intro c0 c1 c2 h i hi j hj
  obtain ⟨_, _, h3⟩ := arr_labels h
  obtain ⟨d0, d1, d2, r⟩ := h3 i hi j hj
  exact ih i j d0 d1 d2 r
theorem same_refl : ∀ A, FullT A → SameT A A := by
 intro A
 induction A with
 | leaf => intro h; exact h.elim
 | arr S n sh m L K C N k sub ih =>
  intro h
  exact ⟨rfl, ⟨rfl, fun _ _ => rfl⟩, rfl, fun i hi => ⟨rfl, rfl, rfl, ⟨rfl, ⟨rfl, fun _ _ => rfl⟩, rfl, fun _ _ => rfl⟩, rfl, fun j hj => ih i j (h i hi j hj)⟩⟩
end Go.Proofs.YtaepelipkkmeaaaGreat
namespace Go.Proofs.YtaepelipkkmeaaaGreat
open Go.RowKit Num
theorem twoD_box {f : Int} {x y : CellD} {T : Tree} (h : x.K = 2 ∨ y.K = 2) : twoD f x y T = ⟨orL x.L y.L, 2, zeroN, 0, 1, fun _ => T⟩ := by
 unfold twoD twoN
 rw [if_pos h, if_pos h, if_pos h]
theorem twoD_plain {f : Int} {x y : CellD} {T : Tree} (h : ¬ (x.K = 2 ∨ y.K = 2)) : twoD f x y T = ⟨orL x.L y.L, 0, twoN f x y, 0, 0, fun _ => T⟩ := by
 unfold twoD
 rw [if_neg h, if_neg h]
theorem twoN_right {f : Int} {x y : CellD} {d : Nat} (ox : CellOk x d) (oy : CellOk y d) (h : ¬ (x.K = 2 ∨ y.K = 2)) (hE : cellE f x y 0 = 0) : RightF (twoN f x y) := by
 unfold cellE at hE
 unfold twoN
 rw [if_neg h] at hE ⊢
 by_cases h0 : x.K = 0 ∧ y.K = 0
 ·rw [if_pos h0] at hE ⊢
  have rx : RightF x.N := by
   rcases ox.plain (by omega) with ⟨_, _, _, hR⟩ | ⟨h1, _⟩
   ·exact hR
   ·omega
  have ry : RightF y.N := by
   rcases oy.plain (by omega) with ⟨_, _, _, hR⟩ | ⟨h1, _⟩
   ·exact hR
   ·omega
  rcases fit_two f rx.low ry.low with ⟨_, hl⟩ | ⟨h1, _, _⟩
  ·exact numF_right hl
  ·exact absurd hE h1
 ·rw [if_neg h0] at hE ⊢
  have tr : ∀ b, RightF (numF (truthZ b) 1) := fun b => numF_right (low_small (by cases b <;> decide))
  by_cases h61 : f = 61
  ·rw [if_pos h61]; exact tr _
  ·rw [if_neg h61]; exact tr _
theorem simple_form {A : Tree} : simpleT A = (decide (rankT A = 0) && decide (cellsT A = 1) && !decide ((pickT A ((0 : Nat) : Int)).K = 2)) := by
 obtain _ | ⟨S, n, sh, m, L, K, C, N, k, sub⟩ := A
 ·rfl
 ·show (decide (n = 0) && decide (m = 1) && !decide (K 0 = 2)) = (decide (n = 0) && decide (m = 1) && !decide ((if n = 0 ∧ 0 < m then _ else _ : CellD).K = 2))
  by_cases h : n = 0 ∧ m = 1
  ·rw [if_pos ⟨h.1, by omega⟩]
  ·have : (decide (n = 0) && decide (m = 1)) = false := by
    by_cases hn : n = 0
    ·rw [decide_eq_false (show ¬ m = 1 from fun e => h ⟨hn, e⟩), Bool.and_false]
    ·rw [decide_eq_false hn, Bool.false_and]
   rw [this, Bool.false_and, Bool.false_and]
theorem cellE_zero {f : Int} {x y : CellD} {e : Int} (h : cellE f x y e = 0) : (x.K = 2 ∨ y.K = 2 → e = 0) ∧ (¬ (x.K = 2 ∨ y.K = 2) → cellE f x y 0 = 0) := by
 unfold cellE at h ⊢
 by_cases hb : x.K = 2 ∨ y.K = 2
 ·rw [if_pos hb] at h ⊢; exact ⟨fun _ => h, fun k => absurd hb k⟩
 ·rw [if_neg hb] at h ⊢; exact ⟨fun k => absurd k hb, fun _ => h⟩
theorem two_not_simple {f : Int} {x y : CellD} {d : Nat} (ox : CellOk x (d + 1)) (oy : CellOk y (d + 1)) (hb : x.K = 2 ∨ y.K = 2) : simpleT (twoT f (d + 1) (innerT x) (innerT y)) = false := by
 cases hs : simpleT (twoT f (d + 1) (innerT x) (innerT y)) with
 | false => rfl
 | true =>
  exfalso
  have ix := ox.inner; have iy := oy.inner
  have hs' : (decide ((if rankT (innerT x) = 0 then rankT (innerT y) else rankT (innerT x)) = 0) && decide ((if rankT (innerT x) = 0 then cellsT (innerT y) else cellsT (innerT x)) = 1) && !decide ((twoD f (pickT (innerT x) ((0 : Nat) : Int)) (pickT (innerT y) ((0 : Nat) : Int)) (twoT f d (innerT (pickT (innerT x) ((0 : Nat) : Int))) (innerT (pickT (innerT y) ((0 : Nat) : Int))))).K = 2)) = true := hs
  rw [Bool.and_eq_true, Bool.and_eq_true, decide_eq_true_eq, decide_eq_true_eq, Bool.not_eq_true', decide_eq_false_iff_not] at hs'
  obtain ⟨⟨h1, h2⟩, h3⟩ := hs'
  have hx0 : rankT (innerT x) = 0 := by
   by_cases h : rankT (innerT x) = 0
   ·exact h
   ·rw [if_neg h] at h1; exact h1
  rw [if_pos hx0] at h1 h2
  have cx := (right_form ix.1).only hx0
  have hnb : ¬ ((pickT (innerT x) ((0 : Nat) : Int)).K = 2 ∨ (pickT (innerT y) ((0 : Nat) : Int)).K = 2) := fun h => h3 (by rw [twoD_box h])
  rcases hb with hb | hb
  ·have hns := (ox.box hb).2.2.2.1
   have e : x.sub 0 = innerT x := by unfold innerT; rw [if_pos hb]
   rw [e, simple_form, decide_eq_true hx0, decide_eq_true cx, decide_eq_false fun h => hnb (.inl h)] at hns
   exact absurd hns (by decide)
  ·have hns := (oy.box hb).2.2.2.1
   have e : y.sub 0 = innerT y := by unfold innerT; rw [if_pos hb]
   rw [e, simple_form, decide_eq_true h1, decide_eq_true h2, decide_eq_false fun h => hnb (.inr h)] at hns
   exact absurd hns (by decide)
theorem two_right (f : Int) : ∀ (d : Nat) (A B : Tree), RightT A d → RightT B d → partsT A ≤ 4000 → partsT B ≤ 4000 → twoE f (d + 1) A B = 0 → RightT (twoT f (d + 1) A B) d := by
 intro d
 induction d with
 | zero =>
  intro A B hA hB pA pB hE
  unfold twoE at hE
  by_cases hc : confE (rankT A) (shapeT A) (rankT B) (shapeT B) = 0
  ·rw [if_pos hc] at hE
   obtain ⟨c1, c2⟩ := conf_ok hA hB hc
   refine ⟨c1, fun i hi => ?_⟩
   obtain ⟨k1, k2, k3, k4⟩ := c2 i hi
   have ox := pick_ok hA pA k1 k2
   have oy := pick_ok hB pB k3 k4
   have hi0 := cellE_zero ((firstE_zero _).1 hE i hi)
   have hnb : ¬ ((pickT A (i : Int)).K = 2 ∨ (pickT B (i : Int)).K = 2) := by
    rintro (h | h)
    ·have := (ox.box h).2.2.1; omega
    ·have := (oy.box h).2.2.1; omega
   simp only [twoD_plain hnb]
   exact .inl ⟨rfl, rfl, rfl, twoN_right ox oy hnb (hi0.2 hnb)⟩
  ·rw [if_neg hc] at hE; exact absurd hE hc
 | succ d ih =>
  intro A B hA hB pA pB hE
  unfold twoE at hE
  by_cases hc : confE (rankT A) (shapeT A) (rankT B) (shapeT B) = 0
  ·rw [if_pos hc] at hE
   obtain ⟨c1, c2⟩ := conf_ok hA hB hc
   refine ⟨c1, fun i hi => ?_⟩
   obtain ⟨k1, k2, k3, k4⟩ := c2 i hi
   have ox := pick_ok hA pA k1 k2
   have oy := pick_ok hB pB k3 k4
   have hi0 := cellE_zero ((firstE_zero _).1 hE i hi)
   by_cases hb : (pickT A (i : Int)).K = 2 ∨ (pickT B (i : Int)).K = 2
   ·have ix := ox.inner; have iy := oy.inner
    have hE2 := hi0.1 hb
    have hR := ih _ _ ix.1 iy.1 ix.2 iy.2 hE2
    simp only [twoD_box hb]
    refine .inr (.inr ⟨rfl, rfl, rfl, rfl, Nat.succ_pos _, ?_, hR⟩)
    -- not simple: a box is in one of both
    obtain ⟨x, hx⟩ : ∃ x, x = pickT A (i : Int) := ⟨_, rfl⟩
    obtain ⟨y, hy⟩ : ∃ y, y = pickT B (i : Int) := ⟨_, rfl⟩
    rw [← hx, ← hy] at hE2 hb ⊢
    rw [← hx] at ox; rw [← hy] at oy
    exact two_not_simple ox oy hb
   ·simp only [twoD_plain hb]
    exact .inl ⟨rfl, rfl, rfl, twoN_right ox oy hb (hi0.2 hb)⟩
  ·rw [if_neg hc] at hE; exact absurd hE hc
end Go.Proofs.YtaepelipkkmeaaaGreat
namespace Go.Proofs.YtaepelipkkmeaaaGreat
open Go.RowKit Num
theorem Mk.clear0 {F : CellF} {M Q0 : Nat → Prop} {Bo U : Nat} {w wa : World} {o0 a1 : Value} {t : Nat} {V : Value} {es : Nat → List Value} (h : Mk F M (Prov Q0 w) Bo U w wa o0 a1 t V es) {b : Nat} (hb : Prov (fun b => Q0 b ∧ b < w.heap.size) wa b) :
  Prov Q0 w b ∧ ¬ M b ∧ some b ≠ V.ownBlock := by
 have hsB := h.sB; have hBU := h.BU; have hUw := h.Uw
 refine ⟨hb.trans h.bel fun k => .inl k.1, fun hm => ?_, fun e => ?_⟩
 ·have hM := h.MU b hm
  rcases hb with k | k | k
  ·have := k.2; omega
  ·omega
  ·exact (h.sh b hm).ne k rfl
 ·have h1 := (h.row.lt b e.symm).1
  have h2 := h.vU b e.symm
  rcases hb with k | k | k
  ·have := k.2; omega
  ·omega
  ·exact (h.shV b e.symm).ne k rfl
theorem two10_t (f : Int) (hf : f ∈ twosZ) (d : Nat) (hcell : TwoCell f d) : TwoOf f d := by
 obtain ⟨iC, hC0, hC1, hC2, hC3⟩ := info_parts infoCell
 intro A B Q0 c0 c1 c2 d0 d1 d2 w hA hB rA rB pA pB
 replace hA := ArrQ.keep (Q' := (fun b => Q0 b ∧ b < w.heap.size)) (fun _ _ _ => rfl) (fun b hq hb => ⟨hq, hb⟩) _ _ _ _ hA
 replace hB := ArrQ.keep (Q' := (fun b => Q0 b ∧ b < w.heap.size)) (fun _ _ _ => rfl) (fun b hq hb => ⟨hq, hb⟩) _ _ _ _ hB
 obtain ⟨ao, co, nc, mc, rfl, rfl, rfl, lA, nA, sA, zA, mA⟩ := hA.top
 obtain ⟨bo, eo, bc, ec, rfl, rfl, rfl, lB, nB, sB, zB, mB⟩ := hB.top
 have n1 := nA.1; have n2 := nA.2.1; have n3 := nA.2.2; have m1 := mA.1; have m2 := mA.2.1; have m3 := mA.2.2
 have n4 := nB.1; have n5 := nB.2.1; have n6 := nB.2.2; have m4 := mB.1; have m5 := mB.2.1; have m6 := mB.2.2
 obtain ⟨EE, hEE⟩ : ∃ EE, EE = twoE f (d + 1) A B := ⟨_, rfl⟩
 obtain ⟨TT, hTT⟩ : ∃ TT, TT = twoT f (d + 1) A B := ⟨_, rfl⟩
 obtain ⟨CE, hCE⟩ : ∃ CE, CE = confE (rankT A) (shapeT A) (rankT B) (shapeT B) := ⟨_, rfl⟩
 have hEE' := Lib.hid hEE; have hTT' := Lib.hid hTT; have hCE' := Lib.hid hCE; have hf' := Lib.hid hf; have hcell' := Lib.hid hcell
 rw [← hEE, ← hTT]
 have hA' := Lib.hid hA; have hB' := Lib.hid hB; have rA' := Lib.hid rA; have rB' := Lib.hid rB; have pA' := Lib.hid pA; have pB' := Lib.hid pB
 have lA' := Lib.hid lA; have lB' := Lib.hid lB; have sA' := Lib.hid sA; have sB' := Lib.hid sB; have zA' := Lib.hid zA; have zB' := Lib.hid zB; have nA' := Lib.hid nA; have nB' := Lib.hid nB
 clear hA hB rA rB pA pB lA lB sA sB zA zB nA nB mA mB hEE hTT hCE hf hcell
 have hF := twoF_keep f d A B
 go_enter Tryz.func30, Tryz.ntmps30
 go_upto_region 1 with fail
 refine told_wp (fun w' => Below w.heap.size w w' ∧ Box3 w' w.heap.size (.int .u64 (labT A)) (.slice ao (rankT A) nc) (.slice co (cellsT A) mc) ∧ Box3 w' (w.heap.size + 1) (.int .u64 (labT B)) (.slice bo (rankT B) bc) (.slice eo (cellsT B) ec) ∧ Box3 w' (w.heap.size + 2) (.int .u64 0) (.slice none 0 0) (.slice none 0 0) ∧ Shut w' (w.heap.size + 2))
  ⟨(((Below.refl _ _).alloc (Nat.le_refl _) _).alloc (by simp) _).alloc (by simp; omega) _, ((Box3.new _ _ _ _ rfl).alloc _).alloc _, (Box3.new _ _ _ _ (by simp)).alloc _, Box3.new _ _ _ _ (by simp), by have := shut3 (w := (w.alloc (.cells #[.int .u64 (labT A), .slice ao (rankT A) nc, .slice co (cellsT A) mc] 45)).alloc (.cells #[.int .u64 (labT B), .slice bo (rankT B) bc, .slice eo (cellsT B) ec] 45)) (a := 0) (p := none) (q := none) (n := 0) (nc := 0) (m := 0) (mc := 0) (t := 45); simpa using this⟩ ?_
 rintro w1 ⟨bb, X, Y, Z, s2⟩
 have bb' := Lib.hid bb; have X' := Lib.hid X; have Y' := Lib.hid Y; have Z' := Lib.hid Z; have s2' := Lib.hid s2
 clear bb X Y Z s2
 go_wp2_with fail
 refine (twosZ_any w1).mono ?_
 rintro e w2 ⟨L, rfl, hl, hb2⟩
 have hl' := Lib.hid hl
 replace bb' := Lib.hid (below_then bb'.out (Nat.le_refl _) hb2); replace X' := Lib.hid (X'.out.later hb2); replace Y' := Lib.hid (Y'.out.later hb2); replace Z' := Lib.hid (Z'.out.later hb2); replace s2' := Lib.hid (s2'.out.later hb2)
 clear hl hb2
 go_wp2_with fail
 refine (in6_any _ _ _ _ f w2 (by decide) hl'.out).mono ?_
 rintro e w2' ⟨hin, rfl⟩
 obtain ⟨rfl, hmem⟩ := hin.resolve_right fun k => k.2 ((memZ_list _ _).2 hf'.out)
 clear hmem hin hl'
 have x0 := X'.out.c0; have x1 := X'.out.c1; have x2 := X'.out.c2; have y0 := Y'.out.c0; have y1 := Y'.out.c1; have y2 := Y'.out.c2
 have hconf := conform10_any (labT A) (labT B) ao bo (rankT A) nc (rankT B) bc (shapeT A) (shapeT B) (.slice co (cellsT A) mc) (.slice eo (cellsT B) ec) w2 nA'.out nB'.out (sA'.out.keep (Q' := fun _ => True) (fun b hq _ => bb'.out.block b hq.2) (fun _ _ _ => trivial)).plain (sB'.out.keep (Q' := fun _ => True) (fun b hq _ => bb'.out.block b hq.2) (fun _ _ _ => trivial)).plain ⟨_, _, _, rfl⟩ ⟨_, _, _, rfl⟩
 rw [← hCE'.out] at hconf
 obtain ⟨CV, hCV⟩ : ∃ CV, CV = confV (.slice ao (rankT A) nc) (.slice bo (rankT B) bc) (rankT A) (shapeT A) (rankT B) (shapeT B) := ⟨_, rfl⟩
 rw [← hCV] at hconf
 have hCV' := Lib.hid hCV
 replace hconf := Lib.hid hconf
 clear hCV
 go_wp2_with fail
 refine hconf.out.mono ?_
 rintro e w3 ⟨rfl, hb3⟩
 replace bb' := Lib.hid (below_then bb'.out (Nat.le_refl _) hb3); replace X' := Lib.hid (X'.out.later hb3); replace Y' := Lib.hid (Y'.out.later hb3); replace Z' := Lib.hid (Z'.out.later hb3); replace s2' := Lib.hid (s2'.out.later hb3)
 clear hconf hb3 x0 x1 x2 y0 y1 y2
 by_cases hC : CE = 0
 ·subst hC
  obtain ⟨NN, hNN⟩ : ∃ NN, NN = if rankT A = 0 then rankT B else rankT A := ⟨_, rfl⟩
  obtain ⟨SH, hSH⟩ : ∃ SH, SH = if rankT A = 0 then shapeT B else shapeT A := ⟨_, rfl⟩
  obtain ⟨mm, hmm⟩ : ∃ mm, mm = if rankT A = 0 then cellsT B else cellsT A := ⟨_, rfl⟩
  obtain ⟨hshape, hidx⟩ := conf_ok rA'.out rB'.out hCE'.out.symm
  rw [← hNN, ← hSH, ← hmm] at hshape
  rw [← hmm] at hidx
  have hshape' := Lib.hid hshape; have hidx' := Lib.hid hidx; have hNN' := Lib.hid hNN; have hSH' := Lib.hid hSH; have hmm' := Lib.hid hmm
  have hmost := hshape.most
  have hmm40 : mm ≤ 4000 := by omega
  obtain ⟨so, snc, hso, hsn, hss, hsz⟩ : ∃ (so : Option Addr) (snc : Nat), CV = .slice so NN snc ∧ IsN NN snc ∧ SlZQ w (fun b => Q0 b ∧ b < w.heap.size) so NN SH ∧ ∀ j, j < NN → IsZ (SH j) := by
   rw [hCV'.out, hNN, hSH]
   unfold confV
   by_cases h0 : rankT A = 0
   ·rw [if_pos h0, if_pos h0, if_pos h0]; exact ⟨bo, bc, rfl, nB'.out, sB'.out, zB'.out⟩
   ·rw [if_neg h0, if_pos hCE'.out.symm, if_neg h0, if_neg h0]; exact ⟨ao, nc, rfl, nA'.out, sA'.out, zA'.out⟩
  subst hso
  have s1 := hsn.1; have s3 := hsn.2.1; have s4 := hsn.2.2
  have hsn' := Lib.hid hsn; have hss' := Lib.hid hss; have hsz' := Lib.hid hsz
  obtain ⟨er, her⟩ : ∃ er : Nat → Int, er = fun (i : Nat) => cellE f (pickT A (i : Int)) (pickT B (i : Int)) (twoE f d (innerT (pickT A (i : Int))) (innerT (pickT B (i : Int)))) := ⟨_, rfl⟩
  have her' := Lib.hid her
  have hE1 := Lib.hid (show EE = firstE er mm from by rw [hEE'.out]; unfold twoE; rw [← hCE'.out, if_pos rfl, her, hmm])
  clear hshape hidx hNN hSH hmm hsn hss hsz her
  go_wp2_with fail
  refine (count7_any so NN snc SH w3 (by omega) (hss'.out.keep (Q' := fun _ => True) (fun b hq _ => bb'.out.block b hq.2) (fun _ _ _ => trivial)).plain).mono ?_
  rintro e w3' ⟨⟨N, E, rfl, hct⟩, rfl⟩
  obtain ⟨hN, hE⟩ := hct.uniq (fun _ _ => rfl) hshape'.out.countIs
  subst hN; subst hE
  have x0 := X'.out.c0; have y0 := Y'.out.c0
  clear hct
  go_wp2_with fail
  refine (join01_any (labT A) (labT B) lA'.out lB'.out w3).mono ?_
  rintro e w3' ⟨rfl, rfl⟩
  obtain ⟨Bo, hBo⟩ : ∃ Bo, Bo = w3.heap.size := ⟨_, rfl⟩
  have hsB : w.heap.size + 3 ≤ Bo := by have := Z'.out.lt; omega
  obtain ⟨M, hM⟩ : ∃ M : Nat → Prop, M = fun b => b = w.heap.size + 2 ∨ b = Bo := ⟨_, rfl⟩
  have hM' := Lib.hid hM
  have hmk0 : Mk (twoF f d A B) M (Prov Q0 w) Bo (Bo + 1) w (w3.alloc (.cells #[.int .u64 (orL (labT A) (labT B) : Nat), .slice so NN snc, .slice none 0 0] 45)) (.int .u64 (orL (labT A) (labT B) : Nat)) (.slice so NN snc) 0 (.slice none 0 0) (fun _ => []) := by
   rw [hM]
   refine ⟨Box3.new _ _ _ _ hBo, World.ownsRow_nil _ _ _ _, fun x hx => by omega, bb'.out.alloc bb'.out.size _, ?_, (fun g hg => by cases hg), ?_, .inr rfl, Nat.le_refl _, (by simp [hBo]), (fun g hg => by cases hg)⟩
   ·rintro b (rfl | rfl)
    ·exact s2'.out.later ((Below.refl _ _).alloc (Nat.le_refl _) _)
    ·rw [hBo]; exact shut3
   ·rintro b (rfl | rfl) <;> omega
  have hxa := X'.out.alloc (.cells #[.int .u64 (orL (labT A) (labT B) : Nat), .slice so NN snc, .slice none 0 0] 45)
  have hya := Y'.out.alloc (.cells #[.int .u64 (orL (labT A) (labT B) : Nat), .slice so NN snc, .slice none 0 0] 45)
  have hza := Z'.out.alloc (.cells #[.int .u64 (orL (labT A) (labT B) : Nat), .slice so NN snc, .slice none 0 0] 45)
  clear bb' X' Y' Z' s2'
  go_upto_region 8 with fail
  rw [← hBo]
  refine told_wp (fun w' => Mk (twoF f d A B) M (Prov Q0 w) Bo (Bo + 1) w w' (.int .u64 (orL (labT A) (labT B) : Nat)) (.slice so NN snc) 0 (.slice none 0 0) (fun _ => []) ∧ Box3 w' w.heap.size (.int .u64 (labT A)) (.slice ao (rankT A) nc) (.slice co (cellsT A) mc) ∧ Box3 w' (w.heap.size + 1) (.int .u64 (labT B)) (.slice bo (rankT B) bc) (.slice eo (cellsT B) ec) ∧ Box3 w' (w.heap.size + 2) (.int .u64 0) (.slice none 0 0) (.slice none 0 0)) ⟨hmk0, hxa, hya, hza⟩ ?_
  clear hmk0 hxa hya hza x0 y0 hBo hM
  rintro w4 ⟨hv0', hx0', hy0', hz0'⟩
  have hv0 := Lib.hid hv0'; have hx0 := Lib.hid hx0'; have hy0 := Lib.hid hy0'; have hz0 := Lib.hid hz0'
  clear hv0' hx0' hy0' hz0'
  go_wp2_with fail
  go_loopw [13] (fun i wr => ∃ (t : Nat) (V : Value) (es : Nat → List Value) (U : Nat), t ≤ mm ∧ i = .int .i64 t ∧ Hid (Mk (twoF f d A B) M (Prov Q0 w) Bo U w wr (.int .u64 (orL (labT A) (labT B) : Nat)) (.slice so NN snc) t V es) ∧ Hid (Box3 wr w.heap.size (.int .u64 (labT A)) (.slice ao (rankT A) nc) (.slice co (cellsT A) mc)) ∧ Hid (Box3 wr (w.heap.size + 1) (.int .u64 (labT B)) (.slice bo (rankT B) bc) (.slice eo (cellsT B) ec)) ∧ Hid (Box3 wr (w.heap.size + 2) (.int .u64 0) (.slice none 0 0) (.slice none 0 0)) ∧ Hid (∀ i, i < t → er i = 0)) (fun i _ => mm - (intOfZ i).toNat)
  case atStart => exact ⟨0, _, _, _, Nat.zero_le _, rfl, hv0, hx0, hy0, hz0, Lib.hid fun i hi => absurd hi (Nat.not_lt_zero _)⟩
  case round =>
   obtain ⟨t, V, es, U0, ht, rfl, hv1, hx1, hy1, hz1, her0⟩ := hrel
   have hv := Lib.hid (hv1.out.lift hF)
   clear hv0 hv1 hx0 hy0 hz0
   by_cases hlt : t < mm
   ·obtain ⟨k1, k2, k3, k4⟩ := hidx'.out t hlt
    have ox := Lib.hid (pick_ok rA'.out pA'.out k1 k2); have oy := Lib.hid (pick_ok rB'.out pB'.out k3 k4)
    obtain ⟨x, hx⟩ : ∃ x, x = pickT A (t : Int) := ⟨_, rfl⟩
    obtain ⟨y, hy⟩ : ∃ y, y = pickT B (t : Int) := ⟨_, rfl⟩
    have hert := Lib.hid (show er t = cellE f x y (twoE f d (innerT x) (innerT y)) from by rw [her'.out, hx, hy])
    have hFt := Lib.hid (show ∀ (w' : World) (Q : Nat → Prop) (e : Nat → Value), CellNQ w' Q (twoD f x y (twoT f d (innerT x) (innerT y))) e → twoF f d A B t w' Q e from fun w' Q e h => by show CellNQ w' Q _ e; rw [← hx, ← hy]; exact h)
    have hpx := Lib.hid (show ∀ (u : World), ArrQ u (fun b => Q0 b ∧ b < w.heap.size) A (.int .u64 (labT A)) (.slice ao (rankT A) nc) (.slice co (cellsT A) mc) → Calls Tryz.prog 37 #[.agg #[.int .u64 (labT A), .slice ao (rankT A) nc, .slice co (cellsT A) mc], .int .i64 t] u (CellQPost x (fun b => Q0 b ∧ b < w.heap.size) u) from fun u hu => by rw [hx]; exact pickQ_any A _ _ _ _ (t : Int) u hu (by omega) (by omega))
    have hpy := Lib.hid (show ∀ (u : World), ArrQ u (fun b => Q0 b ∧ b < w.heap.size) B (.int .u64 (labT B)) (.slice bo (rankT B) bc) (.slice eo (cellsT B) ec) → Calls Tryz.prog 37 #[.agg #[.int .u64 (labT B), .slice bo (rankT B) bc, .slice eo (cellsT B) ec], .int .i64 t] u (CellQPost y (fun b => Q0 b ∧ b < w.heap.size) u) from fun u hu => by rw [hy]; exact pickQ_any B _ _ _ _ (t : Int) u hu (by omega) (by omega))
    rw [← hx] at ox; rw [← hy] at oy
    clear k1 k2 k3 k4 hx hy
    go_upto_region 11 with fail
    have mkw := hv.out; have X := hx1.out; have Y := hy1.out; have Z := hz1.out
    have hAw := ArrQ.keep (Q' := (fun b => Q0 b ∧ b < w.heap.size)) (fun b hq _ => mkw.bel.block b hq.2) (fun _ hq _ => hq) _ _ _ _ hA'.out
    have hBw := ArrQ.keep (Q' := (fun b => Q0 b ∧ b < w.heap.size)) (fun b hq _ => mkw.bel.block b hq.2) (fun _ hq _ => hq) _ _ _ _ hB'.out
    have hsw := mkw.sB; have hBUw := mkw.BU; have hUww := mkw.Uw
    have hUr : wr.heap.size ≤ wr.heap.size := Nat.le_refl _
    clear hv hx1 hy1 hz1
    obtain ⟨CC, hCC⟩ : ∃ CC, CC = cellE f x y (twoE f d (innerT x) (innerT y)) := ⟨_, rfl⟩
    rw [← hCC] at hert
    have hCC' := Lib.hid hCC
    clear hCC
    go_cut [14, 15] from 48 to 58 (fun s15 e15 wx => ∃ (E4 : Nat) (D : CellD) (p1 p2 p3 : Option Addr) (c1 c2 c3 : Nat), s15 = .pointer (some ⟨E4, 0, none⟩) ∧ e15 = .int .i64 CC ∧ Mk (twoF f d A B) M (Prov Q0 w) Bo wr.heap.size w wx (.int .u64 (orL (labT A) (labT B) : Nat)) (.slice so NN snc) t V es ∧ Box7 wx E4 (.int .u64 D.L) (.int .i64 D.K) (.bool D.N.neg) (.slice p1 D.N.an c1) (.slice p2 D.N.am c2) (.int .i64 D.C) (.slice p3 D.k c3) ∧ Box3 wx w.heap.size (.int .u64 (labT A)) (.slice ao (rankT A) nc) (.slice co (cellsT A) mc) ∧ Box3 wx (w.heap.size + 1) (.int .u64 (labT B)) (.slice bo (rankT B) bc) (.slice eo (cellsT B) ec) ∧ Box3 wx (w.heap.size + 2) (.int .u64 0) (.slice none 0 0) (.slice none 0 0) ∧ CellNQ wx (fun b => Prov Q0 w b ∧ ¬ M b ∧ some b ≠ V.ownBlock) D (fun q => [Value.int .u64 D.L, .int .i64 D.K, .bool D.N.neg, .slice p1 D.N.an c1, .slice p2 D.N.am c2, .int .i64 D.C, .slice p3 D.k c3].getD q undef) ∧ (CC = 0 → D = twoD f x y (twoT f d (innerT x) (innerT y))))
    case first =>
     have sn0 := True.intro
     go_region_held3 (fun w' => w'.cell? ⟨w.heap.size, 0, none⟩ = some (.int .u64 (labT A)) ∧ w'.cell? ⟨w.heap.size, 1, none⟩ = some (.slice ao (rankT A) nc) ∧ w'.cell? ⟨w.heap.size, 2, none⟩ = some (.slice co (cellsT A) mc) ∧ w'.cell? ⟨w.heap.size + 1, 0, none⟩ = some (.int .u64 (labT B)) ∧ w'.cell? ⟨w.heap.size + 1, 1, none⟩ = some (.slice bo (rankT B) bc) ∧ w'.cell? ⟨w.heap.size + 1, 2, none⟩ = some (.slice eo (cellsT B) ec))
      (first | with_reducible exact ⟨X.c0, X.c1, X.c2, Y.c0, Y.c1, Y.c2⟩ | with_reducible exact ⟨X.drew.c0, X.drew.c1, X.drew.c2, Y.drew.c0, Y.drew.c1, Y.drew.c2⟩ | with_reducible exact ⟨(X.alloc _).c0, (X.alloc _).c1, (X.alloc _).c2, (Y.alloc _).c0, (Y.alloc _).c1, (Y.alloc _).c2⟩ | with_reducible exact ⟨(X.alloc _).drew.c0, (X.alloc _).drew.c1, (X.alloc _).drew.c2, (Y.alloc _).drew.c0, (Y.alloc _).drew.c1, (Y.alloc _).drew.c2⟩ | with_reducible exact ⟨XS.c0, XS.c1, XS.c2, YS.c0, YS.c1, YS.c2⟩ | exact ⟨(X.alloc _).c0, (X.alloc _).c1, (X.alloc _).c2, (Y.alloc _).c0, (Y.alloc _).c1, (Y.alloc _).c2⟩ | exact ⟨(X.alloc _).drew.c0, (X.alloc _).drew.c1, (X.alloc _).drew.c2, (Y.alloc _).drew.c0, (Y.alloc _).drew.c1, (Y.alloc _).drew.c2⟩ | go_keep)
      (first
      | (go_at_call 37; clear sn0; refine (hpx.out _ ?_).mono ?_; (with_reducible exact ArrQ.laterQ hAw (Below.refl _ _).drew); intro e3 u1 hP; have hda := (Below.refl wr.heap.size wr).drew; have mkw := mkw.upto hF (hda.mono (by omega)); have X := X.later hda; have Y := Y.later hda; have Z := Z.later hda; have hAw := ArrQ.laterQ hAw hda; have hBw := ArrQ.laterQ hBw hda; clear hda; have hsd1 : wr.drew.heap.size = wr.heap.size := rfl; obtain ⟨xp1, xp2, xp3, xc1, xc2, xc3, rfl, hpx1, hb⟩ := hP.form; clear hP; have hsz1 := hb.size; have mkw := mkw.upto hF (hb.mono (by omega)); have X := X.later hb; have Y := Y.later hb; have Z := Z.later hb; have hAw := ArrQ.laterQ hAw hb; have hBw := ArrQ.laterQ hBw hb; clear hb; have sn1 := True.intro)
      | (go_at_call 37; clear sn0; refine (hpx.out _ ?_).mono ?_; (with_reducible exact ArrQ.laterQ hAw ((Below.refl _ _).alloc (Nat.le_refl _) (.cells #[.int .u64 0, .int .i64 0, .bool false, .slice none 0 0, .slice none 0 0, .int .i64 0, .slice none 0 0] 65)).drew); intro e3 u1 hP; have hda := ((Below.refl wr.heap.size wr).alloc (Nat.le_refl _) (.cells #[.int .u64 0, .int .i64 0, .bool false, .slice none 0 0, .slice none 0 0, .int .i64 0, .slice none 0 0] 65)).drew; have s4 := shut7 (w := wr) (a := 0) (k := 0) (c := 0) (b := false) (p := none) (q := none) (r := none) (n := 0) (nc := 0) (m := 0) (mc := 0) (l := 0) (lc := 0) (t := 65); have I := Box7.new (w := wr) (B := wr.heap.size) (.int .u64 0) (.int .i64 0) (.bool false) (.slice none 0 0) (.slice none 0 0) (.int .i64 0) (.slice none 0 0) 65 rfl; have s4 := s4.later (Below.refl _ _).drew; have I := I.later (Below.refl _ _).drew; have mkw := mkw.upto hF (hda.mono (by omega)); have X := X.later hda; have Y := Y.later hda; have Z := Z.later hda; have hAw := ArrQ.laterQ hAw hda; have hBw := ArrQ.laterQ hBw hda; clear hda; have hsd1 : ((wr.alloc (.cells #[.int .u64 0, .int .i64 0, .bool false, .slice none 0 0, .slice none 0 0, .int .i64 0, .slice none 0 0] 65)).drew).heap.size = wr.heap.size + 1 := (by simp); obtain ⟨xp1, xp2, xp3, xc1, xc2, xc3, rfl, hpx1, hb⟩ := hP.form; clear hP; have hsz1 := hb.size; have mkw := mkw.upto hF (hb.mono (by omega)); have X := X.later hb; have Y := Y.later hb; have Z := Z.later hb; have I := I.later hb; have s4 := s4.later hb; have hAw := ArrQ.laterQ hAw hb; have hBw := ArrQ.laterQ hBw hb; clear hb; have sp1wr := True.intro)
      | (go_at_call 37; clear sn1; refine (hpy.out _ ?_).mono ?_; (with_reducible exact hBw); intro e3 u2 hP; obtain ⟨yp1, yp2, yp3, yc1, yc2, yc3, rfl, hpy1, hb⟩ := hP.form; clear hP; have hsz2 := hb.size; have mkw := mkw.upto hF (hb.mono (by omega)); have X := X.later hb; have Y := Y.later hb; have Z := Z.later hb; have hpx1 := hpx1.later hb; have hAw := ArrQ.laterQ hAw hb; have hBw := ArrQ.laterQ hBw hb; clear hb; have sn2 := True.intro)
      | (go_at_call 37; clear sn1; refine (hpy.out _ ?_).mono ?_; (with_reducible exact ArrQ.laterQ hBw ((Below.refl _ _).alloc (Nat.le_refl _) (.cells #[.int .u64 0, .int .i64 0, .bool false, .slice none 0 0, .slice none 0 0, .int .i64 0, .slice none 0 0] 65))); intro e3 u2 hP; have hda := ((Below.refl u1.heap.size u1).alloc (Nat.le_refl _) (.cells #[.int .u64 0, .int .i64 0, .bool false, .slice none 0 0, .slice none 0 0, .int .i64 0, .slice none 0 0] 65)); have s4 := shut7 (w := u1) (a := 0) (k := 0) (c := 0) (b := false) (p := none) (q := none) (r := none) (n := 0) (nc := 0) (m := 0) (mc := 0) (l := 0) (lc := 0) (t := 65); have I := Box7.new (w := u1) (B := u1.heap.size) (.int .u64 0) (.int .i64 0) (.bool false) (.slice none 0 0) (.slice none 0 0) (.int .i64 0) (.slice none 0 0) 65 rfl; have mkw := mkw.upto hF (hda.mono (by omega)); have X := X.later hda; have Y := Y.later hda; have Z := Z.later hda; have hpx1 := hpx1.later hda; have hAw := ArrQ.laterQ hAw hda; have hBw := ArrQ.laterQ hBw hda; clear hda; have hsd2 : ((u1.alloc (.cells #[.int .u64 0, .int .i64 0, .bool false, .slice none 0 0, .slice none 0 0, .int .i64 0, .slice none 0 0] 65))).heap.size = u1.heap.size + 1 := (by simp); obtain ⟨yp1, yp2, yp3, yc1, yc2, yc3, rfl, hpy1, hb⟩ := hP.form; clear hP; have hsz2 := hb.size; have mkw := mkw.upto hF (hb.mono (by omega)); have X := X.later hb; have Y := Y.later hb; have Z := Z.later hb; have I := I.later hb; have s4 := s4.later hb; have hpx1 := hpx1.later hb; have hAw := ArrQ.laterQ hAw hb; have hBw := ArrQ.laterQ hBw hb; clear hb; have sp2u1 := True.intro)
      | (go_at_call 37; clear sp1wr; refine (hpy.out _ ?_).mono ?_; (with_reducible exact hBw); intro e3 u2 hP; obtain ⟨yp1, yp2, yp3, yc1, yc2, yc3, rfl, hpy1, hb⟩ := hP.form; clear hP; have hsz2 := hb.size; have mkw := mkw.upto hF (hb.mono (by omega)); have X := X.later hb; have Y := Y.later hb; have Z := Z.later hb; have I := I.later hb; have s4 := s4.later hb; have hpx1 := hpx1.later hb; have hAw := ArrQ.laterQ hAw hb; have hBw := ArrQ.laterQ hBw hb; clear hb; have sp2wr := True.intro)
      | (go_at_call 90; clear sn2; refine (hcell'.out x y (fun b => Q0 b ∧ b < w.heap.size) (fun q => [Value.int .u64 x.L, .int .i64 x.K, .bool x.N.neg, .slice xp1 x.N.an xc1, .slice xp2 x.N.am xc2, .int .i64 x.C, .slice xp3 x.k xc3].getD q undef) (fun q => [Value.int .u64 y.L, .int .i64 y.K, .bool y.N.neg, .slice yp1 y.N.an yc1, .slice yp2 y.N.am yc2, .int .i64 y.C, .slice yp3 y.k yc3].getD q undef) _ ?_ ?_ ox.out oy.out).mono ?_; (with_reducible exact hpx1); (with_reducible exact hpy1); intro e3 u3 hP; obtain ⟨D, p1, p2, p3, c1, c2, c3, rfl, hD, hD0, hb⟩ := hP.form; clear hP; have hD := show CellNQ u3 (fun b => Prov Q0 w b ∧ ¬ M b ∧ some b ≠ V.ownBlock) D _ from CellQ.keep hD (fun _ _ _ => rfl) (fun b hq _ => mkw.clear0 hq) fun _ _ _ _ hk => ArrQ.keep (fun _ _ _ => rfl) (fun b hq _ => mkw.clear0 hq) _ _ _ _ hk; have hsz3 := hb.size; have mkw := mkw.upto hF (hb.mono (by omega)); have X := X.later hb; have Y := Y.later hb; have Z := Z.later hb; have hAw := ArrQ.laterQ hAw hb; have hBw := ArrQ.laterQ hBw hb; clear hb hpx1 hpy1; have done3 := True.intro)
      | (go_at_call 90; clear sn2; refine (hcell'.out x y (fun b => Q0 b ∧ b < w.heap.size) (fun q => [Value.int .u64 x.L, .int .i64 x.K, .bool x.N.neg, .slice xp1 x.N.an xc1, .slice xp2 x.N.am xc2, .int .i64 x.C, .slice xp3 x.k xc3].getD q undef) (fun q => [Value.int .u64 y.L, .int .i64 y.K, .bool y.N.neg, .slice yp1 y.N.an yc1, .slice yp2 y.N.am yc2, .int .i64 y.C, .slice yp3 y.k yc3].getD q undef) _ ?_ ?_ ox.out oy.out).mono ?_; (with_reducible exact CellNQ.later hpx1 ((Below.refl _ _).alloc (Nat.le_refl _) (.cells #[.int .u64 0, .int .i64 0, .bool false, .slice none 0 0, .slice none 0 0, .int .i64 0, .slice none 0 0] 65))); (with_reducible exact CellNQ.later hpy1 ((Below.refl _ _).alloc (Nat.le_refl _) (.cells #[.int .u64 0, .int .i64 0, .bool false, .slice none 0 0, .slice none 0 0, .int .i64 0, .slice none 0 0] 65))); intro e3 u3 hP; have hda := ((Below.refl u2.heap.size u2).alloc (Nat.le_refl _) (.cells #[.int .u64 0, .int .i64 0, .bool false, .slice none 0 0, .slice none 0 0, .int .i64 0, .slice none 0 0] 65)); have s4 := shut7 (w := u2) (a := 0) (k := 0) (c := 0) (b := false) (p := none) (q := none) (r := none) (n := 0) (nc := 0) (m := 0) (mc := 0) (l := 0) (lc := 0) (t := 65); have I := Box7.new (w := u2) (B := u2.heap.size) (.int .u64 0) (.int .i64 0) (.bool false) (.slice none 0 0) (.slice none 0 0) (.int .i64 0) (.slice none 0 0) 65 rfl; have mkw := mkw.upto hF (hda.mono (by omega)); have X := X.later hda; have Y := Y.later hda; have Z := Z.later hda; have hpx1 := hpx1.later hda; have hpy1 := hpy1.later hda; have hAw := ArrQ.laterQ hAw hda; have hBw := ArrQ.laterQ hBw hda; clear hda; have hsd3 : ((u2.alloc (.cells #[.int .u64 0, .int .i64 0, .bool false, .slice none 0 0, .slice none 0 0, .int .i64 0, .slice none 0 0] 65))).heap.size = u2.heap.size + 1 := (by simp); obtain ⟨D, p1, p2, p3, c1, c2, c3, rfl, hD, hD0, hb⟩ := hP.form; clear hP; have hD := show CellNQ u3 (fun b => (Prov Q0 w b ∧ ¬ M b ∧ some b ≠ V.ownBlock) ∧ b ≠ u2.heap.size) D _ from CellQ.keep hD (fun _ _ _ => rfl) (fun b hq _ => ⟨mkw.clear0 hq, prov_ne hq s4 (by omega)⟩) fun _ _ _ _ hk => ArrQ.keep (fun _ _ _ => rfl) (fun b hq _ => ⟨mkw.clear0 hq, prov_ne hq s4 (by omega)⟩) _ _ _ _ hk; have hsz3 := hb.size; have mkw := mkw.upto hF (hb.mono (by omega)); have X := X.later hb; have Y := Y.later hb; have Z := Z.later hb; have I := I.later hb; have hAw := ArrQ.laterQ hAw hb; have hBw := ArrQ.laterQ hBw hb; have hI := I.lt; have XS := ((((((X.aside (D := u2.heap.size) (by omega) 0 (.int .u64 D.L)).aside (D := u2.heap.size) (by omega) 1 (.int .i64 D.K)).aside (D := u2.heap.size) (by omega) 2 (.bool D.N.neg)).aside (D := u2.heap.size) (by omega) 3 (.slice p1 D.N.an c1)).aside (D := u2.heap.size) (by omega) 4 (.slice p2 D.N.am c2)).aside (D := u2.heap.size) (by omega) 5 (.int .i64 D.C)).aside (D := u2.heap.size) (by omega) 6 (.slice p3 D.k c3); have YS := ((((((Y.aside (D := u2.heap.size) (by omega) 0 (.int .u64 D.L)).aside (D := u2.heap.size) (by omega) 1 (.int .i64 D.K)).aside (D := u2.heap.size) (by omega) 2 (.bool D.N.neg)).aside (D := u2.heap.size) (by omega) 3 (.slice p1 D.N.an c1)).aside (D := u2.heap.size) (by omega) 4 (.slice p2 D.N.am c2)).aside (D := u2.heap.size) (by omega) 5 (.int .i64 D.C)).aside (D := u2.heap.size) (by omega) 6 (.slice p3 D.k c3); have ZS := ((((((Z.aside (D := u2.heap.size) (by omega) 0 (.int .u64 D.L)).aside (D := u2.heap.size) (by omega) 1 (.int .i64 D.K)).aside (D := u2.heap.size) (by omega) 2 (.bool D.N.neg)).aside (D := u2.heap.size) (by omega) 3 (.slice p1 D.N.an c1)).aside (D := u2.heap.size) (by omega) 4 (.slice p2 D.N.am c2)).aside (D := u2.heap.size) (by omega) 5 (.int .i64 D.C)).aside (D := u2.heap.size) (by omega) 6 (.slice p3 D.k c3); have i0 := I.c0; have j0 := I.fr 0; have i1 := I.c1; have j1 := I.fr 1; have i2 := I.c2; have j2 := I.fr 2; have i3 := I.c3; have j3 := I.fr 3; have i4 := I.c4; have j4 := I.fr 4; have i5 := I.c5; have j5 := I.fr 5; have i6 := I.c6; have j6 := I.fr 6; clear hb hpx1 hpy1 s4; have done3 := True.intro)
      | (go_at_call 90; clear sp2u1; refine (hcell'.out x y (fun b => Q0 b ∧ b < w.heap.size) (fun q => [Value.int .u64 x.L, .int .i64 x.K, .bool x.N.neg, .slice xp1 x.N.an xc1, .slice xp2 x.N.am xc2, .int .i64 x.C, .slice xp3 x.k xc3].getD q undef) (fun q => [Value.int .u64 y.L, .int .i64 y.K, .bool y.N.neg, .slice yp1 y.N.an yc1, .slice yp2 y.N.am yc2, .int .i64 y.C, .slice yp3 y.k yc3].getD q undef) _ ?_ ?_ ox.out oy.out).mono ?_; (with_reducible exact hpx1); (with_reducible exact hpy1); intro e3 u3 hP; obtain ⟨D, p1, p2, p3, c1, c2, c3, rfl, hD, hD0, hb⟩ := hP.form; clear hP; have hD := show CellNQ u3 (fun b => (Prov Q0 w b ∧ ¬ M b ∧ some b ≠ V.ownBlock) ∧ b ≠ u1.heap.size) D _ from CellQ.keep hD (fun _ _ _ => rfl) (fun b hq _ => ⟨mkw.clear0 hq, prov_ne hq s4 (by omega)⟩) fun _ _ _ _ hk => ArrQ.keep (fun _ _ _ => rfl) (fun b hq _ => ⟨mkw.clear0 hq, prov_ne hq s4 (by omega)⟩) _ _ _ _ hk; have hsz3 := hb.size; have mkw := mkw.upto hF (hb.mono (by omega)); have X := X.later hb; have Y := Y.later hb; have Z := Z.later hb; have I := I.later hb; have hAw := ArrQ.laterQ hAw hb; have hBw := ArrQ.laterQ hBw hb; have hI := I.lt; have XS := ((((((X.aside (D := u1.heap.size) (by omega) 0 (.int .u64 D.L)).aside (D := u1.heap.size) (by omega) 1 (.int .i64 D.K)).aside (D := u1.heap.size) (by omega) 2 (.bool D.N.neg)).aside (D := u1.heap.size) (by omega) 3 (.slice p1 D.N.an c1)).aside (D := u1.heap.size) (by omega) 4 (.slice p2 D.N.am c2)).aside (D := u1.heap.size) (by omega) 5 (.int .i64 D.C)).aside (D := u1.heap.size) (by omega) 6 (.slice p3 D.k c3); have YS := ((((((Y.aside (D := u1.heap.size) (by omega) 0 (.int .u64 D.L)).aside (D := u1.heap.size) (by omega) 1 (.int .i64 D.K)).aside (D := u1.heap.size) (by omega) 2 (.bool D.N.neg)).aside (D := u1.heap.size) (by omega) 3 (.slice p1 D.N.an c1)).aside (D := u1.heap.size) (by omega) 4 (.slice p2 D.N.am c2)).aside (D := u1.heap.size) (by omega) 5 (.int .i64 D.C)).aside (D := u1.heap.size) (by omega) 6 (.slice p3 D.k c3); have ZS := ((((((Z.aside (D := u1.heap.size) (by omega) 0 (.int .u64 D.L)).aside (D := u1.heap.size) (by omega) 1 (.int .i64 D.K)).aside (D := u1.heap.size) (by omega) 2 (.bool D.N.neg)).aside (D := u1.heap.size) (by omega) 3 (.slice p1 D.N.an c1)).aside (D := u1.heap.size) (by omega) 4 (.slice p2 D.N.am c2)).aside (D := u1.heap.size) (by omega) 5 (.int .i64 D.C)).aside (D := u1.heap.size) (by omega) 6 (.slice p3 D.k c3); have i0 := I.c0; have j0 := I.fr 0; have i1 := I.c1; have j1 := I.fr 1; have i2 := I.c2; have j2 := I.fr 2; have i3 := I.c3; have j3 := I.fr 3; have i4 := I.c4; have j4 := I.fr 4; have i5 := I.c5; have j5 := I.fr 5; have i6 := I.c6; have j6 := I.fr 6; clear hb hpx1 hpy1 s4; have done3 := True.intro)
      | (go_at_call 90; clear sp2wr; refine (hcell'.out x y (fun b => Q0 b ∧ b < w.heap.size) (fun q => [Value.int .u64 x.L, .int .i64 x.K, .bool x.N.neg, .slice xp1 x.N.an xc1, .slice xp2 x.N.am xc2, .int .i64 x.C, .slice xp3 x.k xc3].getD q undef) (fun q => [Value.int .u64 y.L, .int .i64 y.K, .bool y.N.neg, .slice yp1 y.N.an yc1, .slice yp2 y.N.am yc2, .int .i64 y.C, .slice yp3 y.k yc3].getD q undef) _ ?_ ?_ ox.out oy.out).mono ?_; (with_reducible exact hpx1); (with_reducible exact hpy1); intro e3 u3 hP; obtain ⟨D, p1, p2, p3, c1, c2, c3, rfl, hD, hD0, hb⟩ := hP.form; clear hP; have hD := show CellNQ u3 (fun b => (Prov Q0 w b ∧ ¬ M b ∧ some b ≠ V.ownBlock) ∧ b ≠ wr.heap.size) D _ from CellQ.keep hD (fun _ _ _ => rfl) (fun b hq _ => ⟨mkw.clear0 hq, prov_ne hq s4 (by omega)⟩) fun _ _ _ _ hk => ArrQ.keep (fun _ _ _ => rfl) (fun b hq _ => ⟨mkw.clear0 hq, prov_ne hq s4 (by omega)⟩) _ _ _ _ hk; have hsz3 := hb.size; have mkw := mkw.upto hF (hb.mono (by omega)); have X := X.later hb; have Y := Y.later hb; have Z := Z.later hb; have I := I.later hb; have hAw := ArrQ.laterQ hAw hb; have hBw := ArrQ.laterQ hBw hb; have hI := I.lt; have XS := ((((((X.aside (D := wr.heap.size) (by omega) 0 (.int .u64 D.L)).aside (D := wr.heap.size) (by omega) 1 (.int .i64 D.K)).aside (D := wr.heap.size) (by omega) 2 (.bool D.N.neg)).aside (D := wr.heap.size) (by omega) 3 (.slice p1 D.N.an c1)).aside (D := wr.heap.size) (by omega) 4 (.slice p2 D.N.am c2)).aside (D := wr.heap.size) (by omega) 5 (.int .i64 D.C)).aside (D := wr.heap.size) (by omega) 6 (.slice p3 D.k c3); have YS := ((((((Y.aside (D := wr.heap.size) (by omega) 0 (.int .u64 D.L)).aside (D := wr.heap.size) (by omega) 1 (.int .i64 D.K)).aside (D := wr.heap.size) (by omega) 2 (.bool D.N.neg)).aside (D := wr.heap.size) (by omega) 3 (.slice p1 D.N.an c1)).aside (D := wr.heap.size) (by omega) 4 (.slice p2 D.N.am c2)).aside (D := wr.heap.size) (by omega) 5 (.int .i64 D.C)).aside (D := wr.heap.size) (by omega) 6 (.slice p3 D.k c3); have ZS := ((((((Z.aside (D := wr.heap.size) (by omega) 0 (.int .u64 D.L)).aside (D := wr.heap.size) (by omega) 1 (.int .i64 D.K)).aside (D := wr.heap.size) (by omega) 2 (.bool D.N.neg)).aside (D := wr.heap.size) (by omega) 3 (.slice p1 D.N.an c1)).aside (D := wr.heap.size) (by omega) 4 (.slice p2 D.N.am c2)).aside (D := wr.heap.size) (by omega) 5 (.int .i64 D.C)).aside (D := wr.heap.size) (by omega) 6 (.slice p3 D.k c3); have i0 := I.c0; have j0 := I.fr 0; have i1 := I.c1; have j1 := I.fr 1; have i2 := I.c2; have j2 := I.fr 2; have i3 := I.c3; have j3 := I.fr 3; have i4 := I.c4; have j4 := I.fr 4; have i5 := I.c5; have j5 := I.fr 5; have i6 := I.c6; have j6 := I.fr 6; clear hb hpx1 hpy1 s4; have done3 := True.intro))
     ·clear done3
      have mk4 := mkw.upto hF ((Below.refl wr.heap.size u3).alloc (by omega) (.cells #[.int .u64 D.L, .int .i64 D.K, .bool D.N.neg, .slice p1 D.N.an c1, .slice p2 D.N.am c2, .int .i64 D.C, .slice p3 D.k c3] 65))
      have I4 := Box7.new (w := u3) (B := u3.heap.size) (.int .u64 D.L) (.int .i64 D.K) (.bool D.N.neg) (.slice p1 D.N.an c1) (.slice p2 D.N.am c2) (.int .i64 D.C) (.slice p3 D.k c3) 65 rfl
      have X4 := X.alloc (.cells #[.int .u64 D.L, .int .i64 D.K, .bool D.N.neg, .slice p1 D.N.an c1, .slice p2 D.N.am c2, .int .i64 D.C, .slice p3 D.k c3] 65); have Y4 := Y.alloc (.cells #[.int .u64 D.L, .int .i64 D.K, .bool D.N.neg, .slice p1 D.N.an c1, .slice p2 D.N.am c2, .int .i64 D.C, .slice p3 D.k c3] 65); have Z4 := Z.alloc (.cells #[.int .u64 D.L, .int .i64 D.K, .bool D.N.neg, .slice p1 D.N.an c1, .slice p2 D.N.am c2, .int .i64 D.C, .slice p3 D.k c3] 65)
      have hD4 := CellNQ.later hD ((Below.refl _ _).alloc (Nat.le_refl _) (.cells #[.int .u64 D.L, .int .i64 D.K, .bool D.N.neg, .slice p1 D.N.an c1, .slice p2 D.N.am c2, .int .i64 D.C, .slice p3 D.k c3] 65))
      go_wp2_with fail
      go_meet
      exact ⟨u3.heap.size, D, p1, p2, p3, c1, c2, c3, rfl, by rw [hCC'.out], mk4, I4, X4, Y4, Z4, hD4, fun h => hD0 (by rw [← hCC'.out]; exact h)⟩
     ·clear done3
      have mk4 := mkw.upto hF (((((((((Below.refl wr.heap.size u3).setCell (p := ⟨u2.heap.size, 0, none⟩) (by show wr.heap.size ≤ u2.heap.size; omega) (.int .u64 D.L)).setCell (p := ⟨u2.heap.size, 1, none⟩) (by show wr.heap.size ≤ u2.heap.size; omega) (.int .i64 D.K)).setCell (p := ⟨u2.heap.size, 2, none⟩) (by show wr.heap.size ≤ u2.heap.size; omega) (.bool D.N.neg)).setCell (p := ⟨u2.heap.size, 3, none⟩) (by show wr.heap.size ≤ u2.heap.size; omega) (.slice p1 D.N.an c1)).setCell (p := ⟨u2.heap.size, 4, none⟩) (by show wr.heap.size ≤ u2.heap.size; omega) (.slice p2 D.N.am c2)).setCell (p := ⟨u2.heap.size, 5, none⟩) (by show wr.heap.size ≤ u2.heap.size; omega) (.int .i64 D.C)).setCell (p := ⟨u2.heap.size, 6, none⟩) (by show wr.heap.size ≤ u2.heap.size; omega) (.slice p3 D.k c3)))
      have I4 := I.setAll (.int .u64 D.L) (.int .i64 D.K) (.bool D.N.neg) (.slice p1 D.N.an c1) (.slice p2 D.N.am c2) (.int .i64 D.C) (.slice p3 D.k c3)
      have X4 := XS; have Y4 := YS; have Z4 := ZS
      have hD4 : CellNQ (((((((u3.setCell ⟨u2.heap.size, 0, none⟩ (.int .u64 D.L)).setCell ⟨u2.heap.size, 1, none⟩ (.int .i64 D.K)).setCell ⟨u2.heap.size, 2, none⟩ (.bool D.N.neg)).setCell ⟨u2.heap.size, 3, none⟩ (.slice p1 D.N.an c1)).setCell ⟨u2.heap.size, 4, none⟩ (.slice p2 D.N.am c2)).setCell ⟨u2.heap.size, 5, none⟩ (.int .i64 D.C)).setCell ⟨u2.heap.size, 6, none⟩ (.slice p3 D.k c3)) (fun b => Prov Q0 w b ∧ ¬ M b ∧ some b ≠ V.ownBlock) D _ := CellQ.keep hD (fun b hq _ => heap_set7' hq.2 _ _ _ _ _ _ _) (fun b hq _ => hq.1) fun _ _ _ _ hk => ArrQ.keep (fun b hq _ => heap_set7' hq.2 _ _ _ _ _ _ _) (fun b hq _ => hq.1) _ _ _ _ hk
      go_wp2_with fail
      go_meet
      exact ⟨u2.heap.size, D, p1, p2, p3, c1, c2, c3, rfl, by rw [hCC'.out], mk4, I4, X4, Y4, Z4, hD4, fun h => hD0 (by rw [← hCC'.out]; exact h)⟩
     ·clear done3
      have mk4 := mkw.upto hF (((((((((Below.refl wr.heap.size u3).setCell (p := ⟨u1.heap.size, 0, none⟩) (by show wr.heap.size ≤ u1.heap.size; omega) (.int .u64 D.L)).setCell (p := ⟨u1.heap.size, 1, none⟩) (by show wr.heap.size ≤ u1.heap.size; omega) (.int .i64 D.K)).setCell (p := ⟨u1.heap.size, 2, none⟩) (by show wr.heap.size ≤ u1.heap.size; omega) (.bool D.N.neg)).setCell (p := ⟨u1.heap.size, 3, none⟩) (by show wr.heap.size ≤ u1.heap.size; omega) (.slice p1 D.N.an c1)).setCell (p := ⟨u1.heap.size, 4, none⟩) (by show wr.heap.size ≤ u1.heap.size; omega) (.slice p2 D.N.am c2)).setCell (p := ⟨u1.heap.size, 5, none⟩) (by show wr.heap.size ≤ u1.heap.size; omega) (.int .i64 D.C)).setCell (p := ⟨u1.heap.size, 6, none⟩) (by show wr.heap.size ≤ u1.heap.size; omega) (.slice p3 D.k c3)))
      have I4 := I.setAll (.int .u64 D.L) (.int .i64 D.K) (.bool D.N.neg) (.slice p1 D.N.an c1) (.slice p2 D.N.am c2) (.int .i64 D.C) (.slice p3 D.k c3)
      have X4 := XS; have Y4 := YS; have Z4 := ZS
      have hD4 : CellNQ (((((((u3.setCell ⟨u1.heap.size, 0, none⟩ (.int .u64 D.L)).setCell ⟨u1.heap.size, 1, none⟩ (.int .i64 D.K)).setCell ⟨u1.heap.size, 2, none⟩ (.bool D.N.neg)).setCell ⟨u1.heap.size, 3, none⟩ (.slice p1 D.N.an c1)).setCell ⟨u1.heap.size, 4, none⟩ (.slice p2 D.N.am c2)).setCell ⟨u1.heap.size, 5, none⟩ (.int .i64 D.C)).setCell ⟨u1.heap.size, 6, none⟩ (.slice p3 D.k c3)) (fun b => Prov Q0 w b ∧ ¬ M b ∧ some b ≠ V.ownBlock) D _ := CellQ.keep hD (fun b hq _ => heap_set7' hq.2 _ _ _ _ _ _ _) (fun b hq _ => hq.1) fun _ _ _ _ hk => ArrQ.keep (fun b hq _ => heap_set7' hq.2 _ _ _ _ _ _ _) (fun b hq _ => hq.1) _ _ _ _ hk
      go_wp2_with fail
      go_meet
      exact ⟨u1.heap.size, D, p1, p2, p3, c1, c2, c3, rfl, by rw [hCC'.out], mk4, I4, X4, Y4, Z4, hD4, fun h => hD0 (by rw [← hCC'.out]; exact h)⟩
     ·clear done3
      have mk4 := mkw.upto hF (((((((((Below.refl wr.heap.size u3).setCell (p := ⟨wr.heap.size, 0, none⟩) (by show wr.heap.size ≤ wr.heap.size; omega) (.int .u64 D.L)).setCell (p := ⟨wr.heap.size, 1, none⟩) (by show wr.heap.size ≤ wr.heap.size; omega) (.int .i64 D.K)).setCell (p := ⟨wr.heap.size, 2, none⟩) (by show wr.heap.size ≤ wr.heap.size; omega) (.bool D.N.neg)).setCell (p := ⟨wr.heap.size, 3, none⟩) (by show wr.heap.size ≤ wr.heap.size; omega) (.slice p1 D.N.an c1)).setCell (p := ⟨wr.heap.size, 4, none⟩) (by show wr.heap.size ≤ wr.heap.size; omega) (.slice p2 D.N.am c2)).setCell (p := ⟨wr.heap.size, 5, none⟩) (by show wr.heap.size ≤ wr.heap.size; omega) (.int .i64 D.C)).setCell (p := ⟨wr.heap.size, 6, none⟩) (by show wr.heap.size ≤ wr.heap.size; omega) (.slice p3 D.k c3)))
      have I4 := I.setAll (.int .u64 D.L) (.int .i64 D.K) (.bool D.N.neg) (.slice p1 D.N.an c1) (.slice p2 D.N.am c2) (.int .i64 D.C) (.slice p3 D.k c3)
      have X4 := XS; have Y4 := YS; have Z4 := ZS
      have hD4 : CellNQ (((((((u3.setCell ⟨wr.heap.size, 0, none⟩ (.int .u64 D.L)).setCell ⟨wr.heap.size, 1, none⟩ (.int .i64 D.K)).setCell ⟨wr.heap.size, 2, none⟩ (.bool D.N.neg)).setCell ⟨wr.heap.size, 3, none⟩ (.slice p1 D.N.an c1)).setCell ⟨wr.heap.size, 4, none⟩ (.slice p2 D.N.am c2)).setCell ⟨wr.heap.size, 5, none⟩ (.int .i64 D.C)).setCell ⟨wr.heap.size, 6, none⟩ (.slice p3 D.k c3)) (fun b => Prov Q0 w b ∧ ¬ M b ∧ some b ≠ V.ownBlock) D _ := CellQ.keep hD (fun b hq _ => heap_set7' hq.2 _ _ _ _ _ _ _) (fun b hq _ => hq.1) fun _ _ _ _ hk => ArrQ.keep (fun b hq _ => heap_set7' hq.2 _ _ _ _ _ _ _) (fun b hq _ => hq.1) _ _ _ _ hk
      go_wp2_with fail
      go_meet
      exact ⟨wr.heap.size, D, p1, p2, p3, c1, c2, c3, rfl, by rw [hCC'.out], mk4, I4, X4, Y4, Z4, hD4, fun h => hD0 (by rw [← hCC'.out]; exact h)⟩
    case rest =>
     obtain ⟨E4, D, p1, p2, p3, c1, c2, c3, rfl, rfl, mk5, I5, X5, Y5, Z5, hD5, hD0'⟩ := hcut
     clear mkw X Y Z hAw hBw
     by_cases hC0e : CC = 0
     ·have hc0 := Lib.hid hC0e.symm
      subst hC0e
      have hvk := Lib.hid mk5; have xk := Lib.hid I5; have hxk := Lib.hid X5; have hyk := Lib.hid Y5; have hzk := Lib.hid Z5
      have hnew := Lib.hid (hFt.out wc (fun b => Prov Q0 w b ∧ ¬ M b ∧ some b ≠ V.ownBlock) (fun q => [Value.int .u64 D.L, .int .i64 D.K, .bool D.N.neg, .slice p1 D.N.an c1, .slice p2 D.N.am c2, .int .i64 D.C, .slice p3 D.k c3].getD q undef) (by rw [← hD0' rfl]; exact hD5))
      have her1 := Lib.hid (show ∀ i, i < t + 1 → er i = 0 from fun i hi => by
       by_cases hit : i = t
       ·rw [hit, hert.out]
       ·exact her0.out i (by omega))
      clear mk5 I5 X5 Y5 Z5 hD5 hD0'
      have g2 := hvk.out.out.c2
      have r0 := xk.out.c0; have r1 := xk.out.c1; have r2 := xk.out.c2; have r3 := xk.out.c3; have r4 := xk.out.c4; have r5 := xk.out.c5; have r6 := xk.out.c6
      have hxs := hxk.out.lt; have hys := hyk.out.lt; have hzs := hzk.out.lt
      have hBU := hvk.out.BU; have hUw := hvk.out.Uw
      go_wp2_with (at_builtin; refine wpList_append_shut rfl (.tmp 64) (.tmp 66) 43 rfl (Bo + 1) 65 iC _ 7 104 Tryz.underlying43 hC0 hC1 hC2 hC3 rfl (by decide) _ t (rowsN es t) rfl (hvk.out.row.alloc _) ⟨wc.heap.size, 0, none⟩ 1 1 [.int .u64 D.L, .int .i64 D.K, .bool D.N.neg, .slice p1 D.N.an c1, .slice p2 D.N.am c2, .int .i64 D.C, .slice p3 D.k c3] rfl rfl (seven_at wc _ _ _ _ _ _ _ _) (by intro u hu; simp at hu; rcases hu with rfl | rfl | rfl | rfl | rfl | rfl | rfl <;> rfl) (by decide) (by unfold maxLen; omega) (by omega) (by simp; omega) no_limb_cell no_limb7 (fun g hg => (hvk.out.shV g hg).later ((Below.refl _ _).alloc (Nat.le_refl _) _)) (wc.heap.size + 1) (by simp) ?_)
      intro g cap w5 hown hgr hat hsg
      have hv5 := Lib.hid (hvk.out.step hF _ rfl hown hgr hat hsg hnew.out)
      have hb5 := ((Below.refl (Bo + 1) wc).alloc (by omega) (.cells #[.int .u64 D.L, .int .i64 D.K, .bool D.N.neg, .slice p1 D.N.an c1, .slice p2 D.N.am c2, .int .i64 D.C, .slice p3 D.k c3] 65)).grown hgr (by simp; omega) (fun q hq => (hvk.out.row.lt q hq).1)
      have x5 := hvk.out.out.below hb5 (by omega)
      have hx5 := Lib.hid ((hxk.out.below hb5 (by omega)).aside (D := Bo) (by omega) 2 (.slice (some ⟨g, 0, none⟩) (t + 1) cap))
      have hy5 := Lib.hid ((hyk.out.below hb5 (by omega)).aside (D := Bo) (by omega) 2 (.slice (some ⟨g, 0, none⟩) (t + 1) cap))
      have hz5 := Lib.hid ((hzk.out.below hb5 (by omega)).aside (D := Bo) (by omega) 2 (.slice (some ⟨g, 0, none⟩) (t + 1) cap))
      have g5 := x5.c2; have f5 := x5.fr 2
      clear hown hgr hat hsg hb5 x5 hvk hnew r0 r1 r2 r3 r4 r5 r6 g2 xk hxk hyk hzk
      go_wp2_with fail
      go_roundw
      case rel => exact ⟨t + 1, _, _, _, by omega, by go_num, hv5, hx5, hy5, hz5, her1⟩
      case measure => simp [intOfZ]; omega
     ·have hCb : (CC == 0) = false := by rw [beq_eq_false_iff_ne]; exact hC0e
      have hE2 := Lib.hid (show EE = CC from by
       have h1 := firstE_at her0.out (by rw [hert.out]; exact hC0e) mm hlt
       rw [hE1.out, h1, hert.out])
      have hCn := Lib.hid hC0e
      have bb5 := mk5.bel
      clear hC0e mk5 I5 X5 Y5 hD5 hD0'
      have hlz := Z5.lt
      have z0 := Z5.c0; have z1 := Z5.c1; have z2 := Z5.c2
      have f0 := Z5.fr 0; have f1 := Z5.fr 1; have f2 := Z5.fr 2
      have zz := (Z5.set (.int .u64 0) (.slice none 0 0) (.slice none 0 0))
      have e0 := zz.c0; have e1 := zz.c1; have e2 := zz.c2
      have hbw := Lib.hid (below_set3 bb5 (B := w.heap.size + 2) (by omega) (.int .u64 0) (.slice none 0 0) (.slice none 0 0))
      have hfe := Lib.hid (show EE = CC ∧ (CC : Int) ≠ 0 from ⟨hE2.out, hCn.out⟩)
      clear zz
      go_wp2_with fail
      refine bodyPost_ret (v := .tuple #[.agg #[.int .u64 0, .slice none 0 0, .slice none 0 0], .int .i64 (CC)]) (by simp [results, Tryz.results30, go_sem, e0, e1, e2]) rfl ?_
      rw [hfe.out.1]
      exact ⟨⟨_, _, _, rfl, by rw [show resT (CC) TT = zeroT from if_neg hfe.out.2]; exact zero_arr _ _⟩, hbw.out⟩
   ·obtain rfl : t = mm := by omega
    have hsB2 := hv.out.sB
    obtain ⟨vo, vc, rfl, hvc, hrc⟩ := hv.out.row_cells hF (by omega) (fun b hb => .inr (.inl hb))
    have hbel := hv.out.bel
    have hE0 : firstE er t = 0 := (firstE_zero t).2 her0.out
    have p0 := hv.out.out.c0; have p1 := hv.out.out.c1; have p2 := hv.out.out.c2
    have g0 := hz1.out.c0; have g1 := hz1.out.c1; have g2 := hz1.out.c2
    have f0 := hz1.out.fr 0; have f1 := hz1.out.fr 1; have f2 := hz1.out.fr 2
    have z := hz1.out.set (.int .u64 (orL (labT A) (labT B) : Nat)) (.slice so NN snc) (.slice vo t vc)
    have e0 := z.c0; have e1 := z.c1; have e2 := z.c2
    have hbw := Lib.hid (below_set3 hbel (B := w.heap.size + 2) (by omega) (.int .u64 (orL (labT A) (labT B) : Nat)) (.slice so NN snc) (.slice vo t vc))
    have hM1 : M (w.heap.size + 2) := by rw [hM'.out]; exact .inl rfl
    have hk0 := fun b (hb : b ≠ w.heap.size + 2) => heap_set012 (w := wr) (B := w.heap.size + 2) (b := b) hb (.int .u64 (orL (labT A) (labT B) : Nat)) (.slice so NN snc) (.slice vo t vc)
    have hres0 : ArrQ wr (fun b => Prov Q0 w b ∧ ¬ M b) TT (.int .u64 (orL (labT A) (labT B) : Nat)) (.slice so NN snc) (.slice vo t vc) := by
     rw [hTT'.out]
     show ArrQ wr _ (.arr (orL (labT A) (labT B)) (if rankT A = 0 then rankT B else rankT A) (if rankT A = 0 then shapeT B else shapeT A) (if rankT A = 0 then cellsT B else cellsT A) _ _ _ _ _ _) _ _ _
     rw [← hNN'.out, ← hSH'.out, ← hmm'.out]
     exact ⟨rfl, orL_is lA'.out lB'.out, ⟨so, snc, rfl, hsn'.out, hss'.out.keep (fun b hq _ => hbel.block b hq.2) (fun b hq _ => ⟨.inl hq.1, fun hm => by have := (hv.out.MU b hm).1; have := hq.2; omega⟩), hsz'.out⟩, vo, vc, rfl, hvc, hrc⟩
    have hres := Lib.hid (ArrQ.keep (Q' := Prov Q0 w) (fun b hq _ => hk0 b fun e => hq.2 (by rw [e]; exact hM1)) (fun b hq _ => hq.1) _ _ _ _ hres0)
    clear z hv hx1 hy1 hz1 hrc hvc hbel hk0 hres0
    go_wp2_with fail
    refine bodyPost_ret (v := .tuple #[.agg #[.int .u64 (orL (labT A) (labT B) : Nat), .slice so NN snc, .slice vo t vc], .int .i64 0]) (by simp [results, Tryz.results30, go_sem, e0, e1, e2]) rfl ?_
    rw [hE1.out, hE0]
    exact ⟨⟨_, _, _, rfl, hres.out⟩, hbw.out⟩
 ·have hCb : (CE == 0) = false := by rw [beq_eq_false_iff_ne]; exact hC
  have hCn := Lib.hid hC
  have hE1 := Lib.hid (show EE = CE from by rw [hEE'.out]; unfold twoE; rw [← hCE'.out, if_neg hC])
  clear hC
  have hlz := Z'.out.lt
  have z0 := Z'.out.c0; have z1 := Z'.out.c1; have z2 := Z'.out.c2
  have f0 := Z'.out.fr 0; have f1 := Z'.out.fr 1; have f2 := Z'.out.fr 2
  have zz := (Z'.out.set (.int .u64 0) (.slice none 0 0) (.slice none 0 0))
  have e0 := zz.c0; have e1 := zz.c1; have e2 := zz.c2
  have hbw := Lib.hid (below_set3 bb'.out (B := w.heap.size + 2) (by omega) (.int .u64 0) (.slice none 0 0) (.slice none 0 0))
  have hfe := Lib.hid (show EE = CE ∧ (CE : Int) ≠ 0 from ⟨hE1.out, hCn.out⟩)
  clear zz
  go_wp2_with fail
  refine bodyPost_ret (v := .tuple #[.agg #[.int .u64 0, .slice none 0 0, .slice none 0 0], .int .i64 (CE)]) (by simp [results, Tryz.results30, go_sem, e0, e1, e2]) rfl ?_
  rw [hfe.out.1]
  exact ⟨⟨_, _, _, rfl, by rw [show resT (CE) TT = zeroT from if_neg hfe.out.2]; exact zero_arr _ _⟩, hbw.out⟩
theorem two10_all (f : Int) (hf : f ∈ twosZ) : ∀ d, TwoOf f d
 | 0 => two10_t f hf 0 (two10_of f 0 fun d' h => by omega)
 | d + 1 => two10_t f hf (d + 1) (two10_of f (d + 1) fun d' h => by
   obtain rfl : d' = d := by omega
   exact two10_all f hf d')
end Go.Proofs.YtaepelipkkmeaaaGreat
namespace Go.Proofs.YtaepelipkkmeaaaGreat
open Go.RowKit Num
def confN (A B : Tree) : Nat := if confE (rankT A) (shapeT A) (rankT B) (shapeT B) = 0 then (if rankT A = 0 then rankT B else rankT A) else 0
def confZ (A B : Tree) : Nat → Int := if rankT A = 0 then shapeT B else shapeT A
def ConfPost (A B : Tree) (w : World) (e : Ending) (w' : World) : Prop :=
 ∃ so nc, e = .returned (.tuple #[.slice so (confN A B) nc, .int .i64 (confE (rankT A) (shapeT A) (rankT B) (shapeT B))]) ∧ IsN (confN A B) nc ∧ SlZ w' so (confN A B) (confZ A B) ∧ Below w.heap.size w w'
def ConformC : Prop := ∀ (A B : Tree) (c0 c1 c2 d0 d1 d2 : Value) (w : World), ArrP w A c0 c1 c2 → ArrP w B d0 d1 d2 → FewT A → FewT B → Calls Tryz.prog 31 #[.agg #[c0, c1, c2], .agg #[d0, d1, d2]] w (ConfPost A B w)
theorem one10_none (f : Int) (hf : f ∉ onesZ) (A T : Tree) (c0 c1 c2 : Value) (w : World) (h : ArrP w A c0 c1 c2) : Calls Tryz.prog 25 #[.int .i64 f, .agg #[c0, c1, c2]] w (ResP 8 T w) := by
 obtain ⟨S, n, nc, m, mc, ao, co, rfl, rfl, rfl⟩ := (ArrP.within _ _ _ _ h).form
 have hf' := Lib.hid hf
 clear h hf
 go_enter Tryz.func25, Tryz.ntmps25
 go_upto_region 1 with fail
 refine told_wp (fun w' => Below w.heap.size w w' ∧ Box3 w' (w.heap.size + 1) (.int .u64 0) (.slice none 0 0) (.slice none 0 0))
  ⟨((Below.refl _ _).alloc (Nat.le_refl _) _).alloc (by simp) _, Box3.new _ _ _ _ (by simp)⟩ ?_
 rintro w1 ⟨bb1, z1⟩
 have hbb := Lib.hid bb1; have hz := Lib.hid z1
 clear bb1 z1
 go_wp2_with fail
 refine (onesZ_any w1).mono ?_
 rintro e w2 ⟨B, rfl, hl, hb2⟩
 replace hbb := Lib.hid (below_then hbb.out (Nat.le_refl _) hb2); replace hz := Lib.hid (hz.out.later hb2)
 have hl' := Lib.hid hl
 clear hl hb2
 go_wp2_with fail
 refine (in6_any _ _ _ _ f w2 (by decide) hl'.out).mono ?_
 rintro e w2' ⟨hin, rfl⟩
 obtain ⟨rfl, hmem⟩ := hin.resolve_left fun k => hf'.out ((memZ_list _ _).1 k.2)
 clear hmem hin hl'
 have z0 := hz.out.c0; have z1 := hz.out.c1; have z2 := hz.out.c2
 have f0 := hz.out.fr 0; have f1 := hz.out.fr 1; have f2 := hz.out.fr 2
 have zz := hz.out.set (.int .u64 0) (.slice none 0 0) (.slice none 0 0)
 have e0 := zz.c0; have e1 := zz.c1; have e2 := zz.c2
 have hbw := Lib.hid (below_set3 hbb.out (B := w.heap.size + 1) (by omega) (.int .u64 0) (.slice none 0 0) (.slice none 0 0))
 clear zz
 go_wp2_with fail
 refine bodyPost_ret (v := .tuple #[.agg #[.int .u64 0, .slice none 0 0, .slice none 0 0], .int .i64 8]) (by simp [results, Tryz.results25, go_sem, e0, e1, e2]) rfl ?_
 exact ⟨_, _, _, rfl, ArrQ.plain _ _ _ _ (zero_arr _ (fun _ => True)), hbw.out⟩
theorem two10_none (f : Int) (hf : f ∉ twosZ) (A B T : Tree) (c0 c1 c2 d0 d1 d2 : Value) (w : World) (h : ArrP w A c0 c1 c2) (h' : ArrP w B d0 d1 d2) : Calls Tryz.prog 30 #[.int .i64 f, .agg #[c0, c1, c2], .agg #[d0, d1, d2]] w (ResP 8 T w) := by
 obtain ⟨S, n, nc, m, mc, ao, co, rfl, rfl, rfl⟩ := (ArrP.within _ _ _ _ h).form
 obtain ⟨S', n', nc', m', mc', ao', co', rfl, rfl, rfl⟩ := (ArrP.within _ _ _ _ h').form
 have hf' := Lib.hid hf
 clear h h' hf
 go_enter Tryz.func30, Tryz.ntmps30
 go_upto_region 1 with fail
 refine told_wp (fun w' => Below w.heap.size w w' ∧ Box3 w' (w.heap.size + 2) (.int .u64 0) (.slice none 0 0) (.slice none 0 0))
  ⟨(((Below.refl _ _).alloc (Nat.le_refl _) _).alloc (by simp) _).alloc (by simp; omega) _, Box3.new _ _ _ _ (by simp)⟩ ?_
 rintro w1 ⟨bb1, z1⟩
 have hbb := Lib.hid bb1; have hz := Lib.hid z1
 clear bb1 z1
 go_wp2_with fail
 refine (twosZ_any w1).mono ?_
 rintro e w2 ⟨B, rfl, hl, hb2⟩
 replace hbb := Lib.hid (below_then hbb.out (Nat.le_refl _) hb2); replace hz := Lib.hid (hz.out.later hb2)
 have hl' := Lib.hid hl
 clear hl hb2
 go_wp2_with fail
 refine (in6_any _ _ _ _ f w2 (by decide) hl'.out).mono ?_
 rintro e w2' ⟨hin, rfl⟩
 obtain ⟨rfl, hmem⟩ := hin.resolve_left fun k => hf'.out ((memZ_list _ _).1 k.2)
 clear hmem hin hl'
 have z0 := hz.out.c0; have z1 := hz.out.c1; have z2 := hz.out.c2
 have f0 := hz.out.fr 0; have f1 := hz.out.fr 1; have f2 := hz.out.fr 2
 have zz := hz.out.set (.int .u64 0) (.slice none 0 0) (.slice none 0 0)
 have e0 := zz.c0; have e1 := zz.c1; have e2 := zz.c2
 have hbw := Lib.hid (below_set3 hbb.out (B := w.heap.size + 2) (by omega) (.int .u64 0) (.slice none 0 0) (.slice none 0 0))
 clear zz
 go_wp2_with fail
 refine bodyPost_ret (v := .tuple #[.agg #[.int .u64 0, .slice none 0 0, .slice none 0 0], .int .i64 8]) (by simp [results, Tryz.results30, go_sem, e0, e1, e2]) rfl ?_
 exact ⟨_, _, _, rfl, ArrQ.plain _ _ _ _ (zero_arr _ (fun _ => True)), hbw.out⟩
theorem two10_any (f : Int) (A B : Tree) (c0 c1 c2 d0 d1 d2 : Value) (w : World) (h : ArrP w A c0 c1 c2) (h' : ArrP w B d0 d1 d2) (hf : FewT A) (hf' : FewT B) (hr : RightT A 8) (hr' : RightT B 8) : Calls Tryz.prog 30 #[.int .i64 f, .agg #[c0, c1, c2], .agg #[d0, d1, d2]] w (ResP (twoR f 9 A B) (twoT f 9 A B) w) := by
 unfold twoR
 by_cases hm : f ∈ twosZ
 ·rw [if_pos hm]
  exact (two10_all f hm 8 A B (· < w.heap.size) c0 c1 c2 d0 d1 d2 w (ArrP.within _ _ _ _ h) (ArrP.within _ _ _ _ h') hr hr' hf.1 hf'.1).mono fun _ _ => ResQ.plain
 ·rw [if_neg hm]
  exact two10_none f hm A B _ c0 c1 c2 d0 d1 d2 w h h'
end Go.Proofs.YtaepelipkkmeaaaGreat
namespace Go.Proofs.YtaepelipkkmeaaaGreat
open Go.RowKit Num
theorem BoolPost.tell {P : Prop} {b : Bool} {w w' : World} {e : Ending} (hb : b = true ↔ P) (h : BoolPost P w e w') : Tell (.bool b) w e w' := by
 obtain ⟨r, rfl, hr, hw⟩ := h
 obtain rfl : r = b := Bool.eq_iff_iff.2 (hr.trans hb.symm)
 exact ⟨rfl, hw⟩
end Go.Proofs.YtaepelipkkmeaaaGreat
namespace Go.Proofs.YtaepelipkkmeaaaGreat
open Go.RowKit Num
attribute [local go_sem ↓] Go.wp_at_zero Go.wp_at_succ
theorem small4_cell (N : NumF) (ao bo : Option Addr) (ac bc : Nat) (w : World) (h : NumP w N (.bool N.neg) (.slice ao N.an ac) (.slice bo N.am bc)) (hr : RightF N ∨ zeroF N = true) :
  Calls Tryz.prog 13 #[.agg #[.bool N.neg, .slice ao N.an ac, .slice bo N.am bc]] w (SmallPost w) := by
 rcases hr with hr | hz
 ·refine (small4_any _ _ _ _ _ _ _ _ _ w (h.rtS hr) hr.low).mono ?_
  rintro e w' ⟨rfl, hb⟩
  exact ⟨_, _, small_bounds, rfl, hb⟩
 ·have h0 : N.am = 0 := by
   unfold zeroF at hz
   rw [Bool.and_eq_true, Bool.and_eq_true, decide_eq_true_eq] at hz
   exact of_decide_eq_true hz.2
  refine (small4_not _ _ _ _ _ _ _ w (by omega)).mono ?_
  rintro e w' ⟨rfl, hb⟩
  exact ⟨0, false, ⟨by decide, by decide⟩, rfl, hb⟩
end Go.Proofs.YtaepelipkkmeaaaGreat
