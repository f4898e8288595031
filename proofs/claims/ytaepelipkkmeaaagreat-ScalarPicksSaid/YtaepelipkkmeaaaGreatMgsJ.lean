/-
  scalar.twoCells, where Two tells what is made of what is in both; Two of any right arrays.
-/
import Derived.Test.YtaepelipkkmeaaaGreatMgsA
import Derived.Test.YtaepelipkkmeaaaGreatMgsB
import Derived.Test.YtaepelipkkmeaaaGreatMgsC
import Derived.Test.YtaepelipkkmeaaaGreatMgsD
import Derived.Test.YtaepelipkkmeaaaGreatMgsE
import Derived.Test.YtaepelipkkmeaaaGreatMgsF
import Derived.Test.YtaepelipkkmeaaaGreatMgsG
import Derived.Test.YtaepelipkkmeaaaGreatMgsH
import Derived.Test.YtaepelipkkmeaaaGreatMgsI
import Derived.Laws.CopyOwn
import Derived.WalkKit
import Derived.WalkSpells
import Derived.WalkLawsBesides
import Derived.Lib.Hide
import Derived.Laws.AppendOwn
import Derived.Laws.OwnMore
import Derived.BigQuiet
import Derived.Deep.CutRange
import Derived.Deep.RegionHeld3
import Derived.Deep.RegionLaw
import Derived.Deep.AppendLies
import Derived.Deep.RegionWith
import Derived.Lib.Small
import Derived.Lib.Walk
import Derived.Lib.BitFns
import Derived.Deep.QuietTactic
import Derived.Deep.LoopGhost
import Derived.OpenShut
import Derived.SizedLaws
import Derived.Lib.SliceRun
import Derived.Deep.DrawnRows
namespace Go.Proofs.YtaepelipkkmeaaaGreat

open Go.RowKit Num

attribute [local go_sem ↓] Go.wp_at_zero Go.wp_at_succ

theorem two_freeP {Q0 : Nat → Prop} {w w' : World} {b B4 : Nat} (h : Prov (fun b => (Q0 b ∧ b < w.heap.size) ∨ (w.heap.size + 3 ≤ b ∧ b ≠ B4)) w' b) (hb : Below w.heap.size w w') (s2 : Shut w' (w.heap.size + 2)) (s4 : Shut w' B4) (hB : w.heap.size + 3 ≤ B4) : (Prov Q0 w b ∧ b ≠ w.heap.size + 2) ∧ b ≠ B4 := by
  have h4 := s4.1
  rcases h with (h | h) | h | h
  · exact ⟨⟨.inl h.1, by have := h.2; omega⟩, by have := h.2; omega⟩
  · exact ⟨⟨.inr (.inl (by omega)), by omega⟩, h.2⟩
  · exact ⟨⟨.inr (.inl (by omega)), by omega⟩, by omega⟩
  · exact ⟨⟨Prov.limb h hb, s2.ne h⟩, s4.ne h⟩

theorem two_freeP3 {Q0 : Nat → Prop} {w w' : World} {b : Nat} (h : Prov (fun b => (Q0 b ∧ b < w.heap.size) ∨ w.heap.size + 3 ≤ b) w' b) (hb : Below w.heap.size w w') (s2 : Shut w' (w.heap.size + 2)) : Prov Q0 w b ∧ b ≠ w.heap.size + 2 := by
  have h3 := s2.1
  rcases h with (h | h) | h | h
  · exact ⟨.inl h.1, by have := h.2; omega⟩
  · exact ⟨.inr (.inl (by omega)), by omega⟩
  · exact ⟨.inr (.inl (by omega)), by omega⟩
  · exact ⟨Prov.limb h hb, s2.ne h⟩

set_option maxRecDepth 20000 in
set_option maxHeartbeats 2500000 in
theorem twoCellsP_of (f : Int) (d : Nat) (h : ∀ d', d' + 1 = d → TwoOfP f d') : TwoCellP f d := by
  intro x y Q0 e e' w hx hy ox oy
  replace hx : CellNQ w (fun b => Q0 b ∧ b < w.heap.size) x e := CellQ.keep hx (fun _ _ _ => rfl) (fun b hq hb => ⟨hq, hb⟩) fun _ _ _ _ hd => ArrQ.keep (fun _ _ _ => rfl) (fun b hq hb => ⟨hq, hb⟩) _ _ _ _ hd
  replace hy : CellNQ w (fun b => Q0 b ∧ b < w.heap.size) y e' := CellQ.keep hy (fun _ _ _ => rfl) (fun b hq hb => ⟨hq, hb⟩) fun _ _ _ _ hd => ArrQ.keep (fun _ _ _ => rfl) (fun b hq hb => ⟨hq, hb⟩) _ _ _ _ hd
  obtain ⟨xa, xb, xi, xac, xbc, xkc, xv, xL, xK, xN, xC, xk, _⟩ := hx.form
  obtain ⟨ya, yb, yi, yac, ybc, ykc, yv, yL, yK, yN, yC, yk, _⟩ := hy.form
  rw [← xv, ← yv]
  have xv' := Lib.hid xv; have yv' := Lib.hid yv; have hx' := Lib.hid hx; have hy' := Lib.hid hy
  have xL' := Lib.hid xL; have yL' := Lib.hid yL; have xN' := Lib.hid xN; have yN' := Lib.hid yN
  have ox' := Lib.hid ox; have oy' := Lib.hid oy; have h' := Lib.hid h
  have xk1 := xk.1; have xk2 := xk.2.1; have yk1 := yk.1; have yk2 := yk.2.1
  obtain ⟨EE, hEE⟩ : ∃ EE, EE = cellE f x y (twoE f d (innerT x) (innerT y)) := ⟨_, rfl⟩
  obtain ⟨DD, hDD⟩ : ∃ DD, DD = twoD f x y (twoT f d (innerT x) (innerT y)) := ⟨_, rfl⟩
  have hEE' := Lib.hid hEE; have hDD' := Lib.hid hDD
  rw [← hEE, ← hDD]
  have hor := Lib.hid (orL_is xL yL)
  have hbx := Lib.hid (fun u : World => isBox_any x.L x.K x.C x.N.neg xa xb xi x.N.an xac x.N.am xbc x.k xkc u xk1 xk2)
  have hby := Lib.hid (fun u : World => isBox_any y.L y.K y.C y.N.neg ya yb yi y.N.an yac y.N.am ybc y.k ykc u yk1 yk2)
  clear xv yv hx hy xL yL xN yN ox oy h xk yk xK yK xC yC hEE hDD
  go_enter Tryz.func86, Tryz.ntmps86
  go_upto_region 1 with fail
  refine told_wp (fun w' => Below w.heap.size w w' ∧ Box7 w' w.heap.size (.int .u64 x.L) (.int .i64 x.K) (.bool x.N.neg) (.slice xa x.N.an xac) (.slice xb x.N.am xbc) (.int .i64 x.C) (.slice xi x.k xkc) ∧ Box7 w' (w.heap.size + 1) (.int .u64 y.L) (.int .i64 y.K) (.bool y.N.neg) (.slice ya y.N.an yac) (.slice yb y.N.am ybc) (.int .i64 y.C) (.slice yi y.k ykc) ∧ Box7 w' (w.heap.size + 2) (.int .u64 0) (.int .i64 0) (.bool false) (.slice none 0 0) (.slice none 0 0) (.int .i64 0) (.slice none 0 0) ∧ Shut w' (w.heap.size + 2))
    ⟨(((Below.refl _ _).alloc (Nat.le_refl _) _).alloc (by simp) _).alloc (by simp; omega) _, ((Box7.new _ _ _ _ _ _ _ _ rfl).alloc _).alloc _, (Box7.new _ _ _ _ _ _ _ _ (by simp)).alloc _, Box7.new _ _ _ _ _ _ _ _ (by simp), by have := shut7 (w := (w.alloc (.cells #[.int .u64 x.L, .int .i64 x.K, .bool x.N.neg, .slice xa x.N.an xac, .slice xb x.N.am xbc, .int .i64 x.C, .slice xi x.k xkc] 65)).alloc (.cells #[.int .u64 y.L, .int .i64 y.K, .bool y.N.neg, .slice ya y.N.an yac, .slice yb y.N.am ybc, .int .i64 y.C, .slice yi y.k ykc] 65)) (a := 0) (k := 0) (c := 0) (b := false) (p := none) (q := none) (r := none) (n := 0) (nc := 0) (m := 0) (mc := 0) (l := 0) (lc := 0) (t := 65); simpa using this⟩ ?_
  rintro w1 ⟨bb, X, Y, Z, sz⟩
  have p0 := X.c0; have q0 := Y.c0
  have bb' := Lib.hid bb; have X' := Lib.hid X; have Y' := Lib.hid Y; have Z' := Lib.hid Z; have s2' := Lib.hid sz
  clear bb X Y Z sz
  go_wp2_with fail
  refine (join_any x.L y.L xL'.out yL'.out w1).mono ?_
  rintro e2 w1' ⟨rfl, rfl⟩
  clear p0 q0

  by_cases hx2 : x.K = 2
  · have hbox := Lib.hid (show x.K = 2 ∨ y.K = 2 from .inl hx2); have hdpos := Lib.hid (show 0 < d from (ox'.out.box hx2).2.2.1)
    have hib := Lib.hid (show isBoxB x.K x.k = true from decide_eq_true ⟨hx2, (ox'.out.box hx2).2.1⟩)
    clear hx2
    have p0 := X'.out.c0; have p1 := X'.out.c1; have p2 := X'.out.c2; have p3 := X'.out.c3; have p4 := X'.out.c4; have p5 := X'.out.c5; have p6 := X'.out.c6
    go_wp2_with fail
    refine ((hbx.out _).mono fun _ _ h => (show Tell (.bool true) _ _ _ from by rw [hib.out] at h; exact h)).mono ?_
    rintro e3 w2 ⟨rfl, hb⟩
    replace bb' := Lib.hid (below_then bb'.out (Nat.le_refl _) hb); replace X' := Lib.hid (X'.out.later hb); replace Y' := Lib.hid (Y'.out.later hb); replace Z' := Lib.hid (Z'.out.later hb); replace s2' := Lib.hid (s2'.out.later hb)
    clear hb
    clear p0 p1 p2 p3 p4 p5 p6

    have hd1 : 0 < d := hdpos.out
    obtain ⟨d', rfl⟩ : ∃ d', d = d' + 1 := ⟨d - 1, by omega⟩
    have ix := ox'.out.inner; have iy := oy'.out.inner
    have ixa := Lib.hid ix; have iya := Lib.hid iy
    have hix := Lib.hid (show ∀ (W : World) (Q : Nat → Prop), CellNQ W Q x e → Calls Tryz.prog 136 #[.agg #[.int .u64 x.L, .int .i64 x.K, .bool x.N.neg, .slice xa x.N.an xac, .slice xb x.N.am xbc, .int .i64 x.C, .slice xi x.k xkc]] W (TreeQN (innerT x) Q W) from fun W Q hW => by
      have := openedQ_any x Q e W hW (fun hK => (ox'.out.box hK).2.1)
      rw [← xv'.out] at this; exact this)
    have hiy := Lib.hid (show ∀ (W : World) (Q : Nat → Prop), CellNQ W Q y e' → Calls Tryz.prog 136 #[.agg #[.int .u64 y.L, .int .i64 y.K, .bool y.N.neg, .slice ya y.N.an yac, .slice yb y.N.am ybc, .int .i64 y.C, .slice yi y.k ykc]] W (TreeQN (innerT y) Q W) from fun W Q hW => by
      have := openedQ_any y Q e' W hW (fun hK => (oy'.out.box hK).2.1)
      rw [← yv'.out] at this; exact this)
    have hTwo := Lib.hid (h'.out d' rfl)
    have hEi := Lib.hid (show EE = twoE f (d' + 1) (innerT x) (innerT y) from by rw [hEE'.out]; exact if_pos hbox.out)
    have hxw := Lib.hid (show CellNQ w2 (fun b => Q0 b ∧ b < w.heap.size) x e from CellQ.keep hx'.out (fun b hq _ => bb'.out.block b hq.2) (fun _ hq _ => hq) fun _ _ _ _ hd => ArrQ.keep (fun b hq _ => bb'.out.block b hq.2) (fun _ hq _ => hq) _ _ _ _ hd)
    have hyw := Lib.hid (show CellNQ w2 (fun b => Q0 b ∧ b < w.heap.size) y e' from CellQ.keep hy'.out (fun b hq _ => bb'.out.block b hq.2) (fun _ hq _ => hq) fun _ _ _ _ hd => ArrQ.keep (fun b hq _ => bb'.out.block b hq.2) (fun _ hq _ => hq) _ _ _ _ hd)
    clear ix iy
    go_upto_region 3 with fail
    have bb := bb'.out; have X := X'.out; have Y := Y'.out; have Z := Z'.out; have s2 := s2'.out; have hxq := hxw.out; have hyq := hyw.out
    clear bb' X' Y' Z' s2' hxw hyw
    have hOl := Z.lt
    go_cut [9, 10] from 26 to 34 (fun s9 e10 wx => ∃ (E4 St nt nct mt mct : Nat) (aot cot : Option Addr), s9 = .pointer (some ⟨E4, 0, none⟩) ∧ e10 = .int .i64 EE ∧ Below w.heap.size w wx ∧ Box7 wx (w.heap.size + 2) (.int .u64 0) (.int .i64 0) (.bool false) (.slice none 0 0) (.slice none 0 0) (.int .i64 0) (.slice none 0 0) ∧ Box3 wx E4 (.int .u64 (St : Nat)) (.slice aot nt nct) (.slice cot mt mct) ∧ ArrQ wx (fun b => Prov Q0 w b ∧ b ≠ w.heap.size + 2) (resT EE (twoT f (d' + 1) (innerT x) (innerT y))) (.int .u64 (St : Nat)) (.slice aot nt nct) (.slice cot mt mct) ∧ w.heap.size + 3 ≤ E4)
    case first =>
      have sn0 := True.intro
      go_region_held3 (fun w' => w'.cell? ⟨w.heap.size, 0, none⟩ = some (.int .u64 x.L) ∧ w'.cell? ⟨w.heap.size, 1, none⟩ = some (.int .i64 x.K) ∧ w'.cell? ⟨w.heap.size, 2, none⟩ = some (.bool x.N.neg) ∧ w'.cell? ⟨w.heap.size, 3, none⟩ = some (.slice xa x.N.an xac) ∧ w'.cell? ⟨w.heap.size, 4, none⟩ = some (.slice xb x.N.am xbc) ∧ w'.cell? ⟨w.heap.size, 5, none⟩ = some (.int .i64 x.C) ∧ w'.cell? ⟨w.heap.size, 6, none⟩ = some (.slice xi x.k xkc) ∧ w'.cell? ⟨w.heap.size + 1, 0, none⟩ = some (.int .u64 y.L) ∧ w'.cell? ⟨w.heap.size + 1, 1, none⟩ = some (.int .i64 y.K) ∧ w'.cell? ⟨w.heap.size + 1, 2, none⟩ = some (.bool y.N.neg) ∧ w'.cell? ⟨w.heap.size + 1, 3, none⟩ = some (.slice ya y.N.an yac) ∧ w'.cell? ⟨w.heap.size + 1, 4, none⟩ = some (.slice yb y.N.am ybc) ∧ w'.cell? ⟨w.heap.size + 1, 5, none⟩ = some (.int .i64 y.C) ∧ w'.cell? ⟨w.heap.size + 1, 6, none⟩ = some (.slice yi y.k ykc))
        (first | with_reducible exact ⟨X.c0, X.c1, X.c2, X.c3, X.c4, X.c5, X.c6, Y.c0, Y.c1, Y.c2, Y.c3, Y.c4, Y.c5, Y.c6⟩ | with_reducible exact ⟨X.drew.c0, X.drew.c1, X.drew.c2, X.drew.c3, X.drew.c4, X.drew.c5, X.drew.c6, Y.drew.c0, Y.drew.c1, Y.drew.c2, Y.drew.c3, Y.drew.c4, Y.drew.c5, Y.drew.c6⟩ | with_reducible exact ⟨(X.alloc _).c0, (X.alloc _).c1, (X.alloc _).c2, (X.alloc _).c3, (X.alloc _).c4, (X.alloc _).c5, (X.alloc _).c6, (Y.alloc _).c0, (Y.alloc _).c1, (Y.alloc _).c2, (Y.alloc _).c3, (Y.alloc _).c4, (Y.alloc _).c5, (Y.alloc _).c6⟩ | with_reducible exact ⟨(X.alloc _).drew.c0, (X.alloc _).drew.c1, (X.alloc _).drew.c2, (X.alloc _).drew.c3, (X.alloc _).drew.c4, (X.alloc _).drew.c5, (X.alloc _).drew.c6, (Y.alloc _).drew.c0, (Y.alloc _).drew.c1, (Y.alloc _).drew.c2, (Y.alloc _).drew.c3, (Y.alloc _).drew.c4, (Y.alloc _).drew.c5, (Y.alloc _).drew.c6⟩ | with_reducible exact ⟨XS.c0, XS.c1, XS.c2, XS.c3, XS.c4, XS.c5, XS.c6, YS.c0, YS.c1, YS.c2, YS.c3, YS.c4, YS.c5, YS.c6⟩ | exact ⟨(X.alloc _).c0, (X.alloc _).c1, (X.alloc _).c2, (X.alloc _).c3, (X.alloc _).c4, (X.alloc _).c5, (X.alloc _).c6, (Y.alloc _).c0, (Y.alloc _).c1, (Y.alloc _).c2, (Y.alloc _).c3, (Y.alloc _).c4, (Y.alloc _).c5, (Y.alloc _).c6⟩ | go_keep)
        (first
      | (go_at_call 136; clear sn0; refine (hix.out _ (fun b => Q0 b ∧ b < w.heap.size) ?_).mono ?_; (with_reducible exact CellNQ.later hxq (Below.refl _ _).drew); rintro e3 u1 ⟨z0, z1, z2, rfl, hN, hb⟩; have hda := (Below.refl w2.heap.size w2).drew; have bb := below_then bb (Nat.le_refl _) hda; have X := X.later hda; have Y := Y.later hda; have Z := Z.later hda; have s2 := s2.later hda; have hyq := hyq.later hda; clear hda; have hsd1 : w2.drew.heap.size = w2.heap.size := rfl; have hsz1 := hb.size; obtain ⟨Sa, na, nca, ma, mca, aoa, coa, ea0, ea1, ea2⟩ := hN.form; subst ea0; subst ea1; subst ea2; have hA := ArrQ.keep (Q' := fun b => (Q0 b ∧ b < w.heap.size) ∨ w.heap.size + 3 ≤ b) (fun _ _ _ => rfl) (fun b hq _ => by have hol := Z.lt; rcases hq with h | h; exact .inl h; exact .inr (by first | omega | exact ⟨by omega, by omega⟩)) _ _ _ _ hN; clear hN; have bb := below_then bb (Nat.le_refl _) hb; have X := X.later hb; have Y := Y.later hb; have Z := Z.later hb; have s2 := s2.later hb; have hyq := hyq.later hb; clear hb hxq; have sn1 := True.intro)
      | (go_at_call 136; clear sn0; refine (hix.out _ (fun b => Q0 b ∧ b < w.heap.size) ?_).mono ?_; (with_reducible exact CellNQ.later hxq ((Below.refl _ _).alloc (Nat.le_refl _) (.cells #[.int .u64 0, .slice none 0 0, .slice none 0 0] 45)).drew); rintro e3 u1 ⟨z0, z1, z2, rfl, hN, hb⟩; have hox := Z.lt; have hda := ((Below.refl w2.heap.size w2).alloc (Nat.le_refl _) (.cells #[.int .u64 0, .slice none 0 0, .slice none 0 0] 45)).drew; have s4 := shut3 (w := w2) (a := 0) (p := none) (q := none) (n := 0) (nc := 0) (m := 0) (mc := 0) (t := 45); have I := Box3.new (w := w2) (B := w2.heap.size) (.int .u64 0) (.slice none 0 0) (.slice none 0 0) 45 rfl; have s4 := s4.later (Below.refl _ _).drew; have I := I.later (Below.refl _ _).drew; have bb := below_then bb (Nat.le_refl _) hda; have X := X.later hda; have Y := Y.later hda; have Z := Z.later hda; have s2 := s2.later hda; have hyq := hyq.later hda; clear hda; have hsd1 : ((w2.alloc (.cells #[.int .u64 0, .slice none 0 0, .slice none 0 0] 45)).drew).heap.size = w2.heap.size + 1 := (by simp); have hsz1 := hb.size; obtain ⟨Sa, na, nca, ma, mca, aoa, coa, ea0, ea1, ea2⟩ := hN.form; subst ea0; subst ea1; subst ea2; have hA := ArrQ.keep (Q' := fun b => (Q0 b ∧ b < w.heap.size) ∨ (w.heap.size + 3 ≤ b ∧ b ≠ w2.heap.size)) (fun _ _ _ => rfl) (fun b hq _ => by have hol := Z.lt; have h4 := s4.1; rcases hq with h | h; exact .inl h; exact .inr (by first | omega | exact ⟨by omega, by omega⟩)) _ _ _ _ hN; clear hN; have bb := below_then bb (Nat.le_refl _) hb; have X := X.later hb; have Y := Y.later hb; have Z := Z.later hb; have I := I.later hb; have s2 := s2.later hb; have s4 := s4.later hb; have hyq := hyq.later hb; clear hb hxq; have sp1w2 := True.intro)
      | (go_at_call 136; clear sn1; refine (hiy.out _ (fun b => Q0 b ∧ b < w.heap.size) ?_).mono ?_; (with_reducible exact hyq); rintro e3 u2 ⟨z0, z1, z2, rfl, hN, hb⟩; have hsz2 := hb.size; obtain ⟨Sb, nb, ncb, mb, mcb, aob, cob, eb0, eb1, eb2⟩ := hN.form; subst eb0; subst eb1; subst eb2; have hB := ArrQ.keep (Q' := fun b => (Q0 b ∧ b < w.heap.size) ∨ w.heap.size + 3 ≤ b) (fun _ _ _ => rfl) (fun b hq _ => by have hol := Z.lt; rcases hq with h | h; exact .inl h; exact .inr (by first | omega | exact ⟨by omega, by omega⟩)) _ _ _ _ hN; clear hN; have bb := below_then bb (Nat.le_refl _) hb; have X := X.later hb; have Y := Y.later hb; have Z := Z.later hb; have s2 := s2.later hb; have hA := ArrQ.laterQ hA hb; clear hb hyq; have sn2 := True.intro)
      | (go_at_call 136; clear sn1; have hA := ArrQ.keep (Q' := fun b => (Q0 b ∧ b < w.heap.size) ∨ (w.heap.size + 3 ≤ b ∧ b ≠ u1.heap.size)) (fun _ _ _ => rfl) (fun b hq hlt => by rcases hq with h | h; exact .inl h; exact .inr ⟨h, by omega⟩) _ _ _ _ hA; refine (hiy.out _ (fun b => Q0 b ∧ b < w.heap.size) ?_).mono ?_; (with_reducible exact CellNQ.later hyq ((Below.refl _ _).alloc (Nat.le_refl _) (.cells #[.int .u64 0, .slice none 0 0, .slice none 0 0] 45))); rintro e3 u2 ⟨z0, z1, z2, rfl, hN, hb⟩; have hox := Z.lt; have hda := ((Below.refl u1.heap.size u1).alloc (Nat.le_refl _) (.cells #[.int .u64 0, .slice none 0 0, .slice none 0 0] 45)); have s4 := shut3 (w := u1) (a := 0) (p := none) (q := none) (n := 0) (nc := 0) (m := 0) (mc := 0) (t := 45); have I := Box3.new (w := u1) (B := u1.heap.size) (.int .u64 0) (.slice none 0 0) (.slice none 0 0) 45 rfl; have bb := below_then bb (Nat.le_refl _) hda; have X := X.later hda; have Y := Y.later hda; have Z := Z.later hda; have s2 := s2.later hda; have hA := ArrQ.laterQ hA hda; clear hda; have hsd2 : ((u1.alloc (.cells #[.int .u64 0, .slice none 0 0, .slice none 0 0] 45))).heap.size = u1.heap.size + 1 := (by simp); have hsz2 := hb.size; obtain ⟨Sb, nb, ncb, mb, mcb, aob, cob, eb0, eb1, eb2⟩ := hN.form; subst eb0; subst eb1; subst eb2; have hB := ArrQ.keep (Q' := fun b => (Q0 b ∧ b < w.heap.size) ∨ (w.heap.size + 3 ≤ b ∧ b ≠ u1.heap.size)) (fun _ _ _ => rfl) (fun b hq _ => by have hol := Z.lt; have h4 := s4.1; rcases hq with h | h; exact .inl h; exact .inr (by first | omega | exact ⟨by omega, by omega⟩)) _ _ _ _ hN; clear hN; have bb := below_then bb (Nat.le_refl _) hb; have X := X.later hb; have Y := Y.later hb; have Z := Z.later hb; have I := I.later hb; have s2 := s2.later hb; have s4 := s4.later hb; have hA := ArrQ.laterQ hA hb; clear hb hyq; have sp2u1 := True.intro)
      | (go_at_call 136; clear sp1w2; refine (hiy.out _ (fun b => Q0 b ∧ b < w.heap.size) ?_).mono ?_; (with_reducible exact hyq); rintro e3 u2 ⟨z0, z1, z2, rfl, hN, hb⟩; have hsz2 := hb.size; obtain ⟨Sb, nb, ncb, mb, mcb, aob, cob, eb0, eb1, eb2⟩ := hN.form; subst eb0; subst eb1; subst eb2; have hB := ArrQ.keep (Q' := fun b => (Q0 b ∧ b < w.heap.size) ∨ (w.heap.size + 3 ≤ b ∧ b ≠ w2.heap.size)) (fun _ _ _ => rfl) (fun b hq _ => by have hol := Z.lt; have h4 := s4.1; rcases hq with h | h; exact .inl h; exact .inr (by first | omega | exact ⟨by omega, by omega⟩)) _ _ _ _ hN; clear hN; have bb := below_then bb (Nat.le_refl _) hb; have X := X.later hb; have Y := Y.later hb; have Z := Z.later hb; have I := I.later hb; have s2 := s2.later hb; have s4 := s4.later hb; have hA := ArrQ.laterQ hA hb; clear hb hyq; have sp2w2 := True.intro)
      | (go_at_call 29; clear sn2; refine (hTwo.out _ _ (fun b => (Q0 b ∧ b < w.heap.size) ∨ w.heap.size + 3 ≤ b) _ _ _ _ _ _ _ ?_ ?_ ixa.out.1 iya.out.1 ixa.out.2 iya.out.2).mono ?_; (with_reducible exact hA); (with_reducible exact hB); rintro e3 u3 ⟨⟨z0, z1, z2, rfl, hT⟩, hb⟩; have hsz3 := hb.size; obtain ⟨St, nt, nct, mt, mct, aot, cot, et0, et1, et2⟩ := hT.form; subst et0; subst et1; subst et2; have hT := ArrQ.keep (Q' := fun b => Prov Q0 w b ∧ b ≠ w.heap.size + 2) (fun _ _ _ => rfl) (fun b hq _ => two_freeP3 hq bb s2) _ _ _ _ hT; have bb := below_then bb (Nat.le_refl _) hb; have X := X.later hb; have Y := Y.later hb; have Z := Z.later hb; have hO := Z.lt; clear hb hA hB s2; have done3 := True.intro)
      | (go_at_call 29; clear sn2; have hA := ArrQ.keep (Q' := fun b => (Q0 b ∧ b < w.heap.size) ∨ (w.heap.size + 3 ≤ b ∧ b ≠ u2.heap.size)) (fun _ _ _ => rfl) (fun b hq hlt => by rcases hq with h | h; exact .inl h; exact .inr ⟨h, by omega⟩) _ _ _ _ hA; have hB := ArrQ.keep (Q' := fun b => (Q0 b ∧ b < w.heap.size) ∨ (w.heap.size + 3 ≤ b ∧ b ≠ u2.heap.size)) (fun _ _ _ => rfl) (fun b hq hlt => by rcases hq with h | h; exact .inl h; exact .inr ⟨h, by omega⟩) _ _ _ _ hB; refine (hTwo.out _ _ (fun b => (Q0 b ∧ b < w.heap.size) ∨ (w.heap.size + 3 ≤ b ∧ b ≠ u2.heap.size)) _ _ _ _ _ _ _ ?_ ?_ ixa.out.1 iya.out.1 ixa.out.2 iya.out.2).mono ?_; (with_reducible exact ArrQ.laterQ hA ((Below.refl _ _).alloc (Nat.le_refl _) (.cells #[.int .u64 0, .slice none 0 0, .slice none 0 0] 45))); (with_reducible exact ArrQ.laterQ hB ((Below.refl _ _).alloc (Nat.le_refl _) (.cells #[.int .u64 0, .slice none 0 0, .slice none 0 0] 45))); rintro e3 u3 ⟨⟨z0, z1, z2, rfl, hT⟩, hb⟩; have hox := Z.lt; have hda := ((Below.refl u2.heap.size u2).alloc (Nat.le_refl _) (.cells #[.int .u64 0, .slice none 0 0, .slice none 0 0] 45)); have s4 := shut3 (w := u2) (a := 0) (p := none) (q := none) (n := 0) (nc := 0) (m := 0) (mc := 0) (t := 45); have I := Box3.new (w := u2) (B := u2.heap.size) (.int .u64 0) (.slice none 0 0) (.slice none 0 0) 45 rfl; have bb := below_then bb (Nat.le_refl _) hda; have X := X.later hda; have Y := Y.later hda; have Z := Z.later hda; have s2 := s2.later hda; have hA := ArrQ.laterQ hA hda; have hB := ArrQ.laterQ hB hda; clear hda; have hsd3 : ((u2.alloc (.cells #[.int .u64 0, .slice none 0 0, .slice none 0 0] 45))).heap.size = u2.heap.size + 1 := (by simp); have hsz3 := hb.size; obtain ⟨St, nt, nct, mt, mct, aot, cot, et0, et1, et2⟩ := hT.form; subst et0; subst et1; subst et2; have hT := ArrQ.keep (Q' := fun b => (Prov Q0 w b ∧ b ≠ w.heap.size + 2) ∧ b ≠ u2.heap.size) (fun _ _ _ => rfl) (fun b hq _ => two_freeP hq bb s2 s4 (by omega)) _ _ _ _ hT; have bb := below_then bb (Nat.le_refl _) hb; have X := X.later hb; have Y := Y.later hb; have Z := Z.later hb; have I := I.later hb; have hO := Z.lt; have hI := I.lt; have XS := ((X.aside (D := u2.heap.size) (by omega) 0 (.int .u64 (St : Nat))).aside (D := u2.heap.size) (by omega) 1 (.slice aot nt nct)).aside (D := u2.heap.size) (by omega) 2 (.slice cot mt mct); have YS := ((Y.aside (D := u2.heap.size) (by omega) 0 (.int .u64 (St : Nat))).aside (D := u2.heap.size) (by omega) 1 (.slice aot nt nct)).aside (D := u2.heap.size) (by omega) 2 (.slice cot mt mct); have ZS := ((Z.aside (D := u2.heap.size) (by omega) 0 (.int .u64 (St : Nat))).aside (D := u2.heap.size) (by omega) 1 (.slice aot nt nct)).aside (D := u2.heap.size) (by omega) 2 (.slice cot mt mct); have i0 := I.c0; have i1 := I.c1; have i2 := I.c2; have j0 := I.fr 0; have j1 := I.fr 1; have j2 := I.fr 2; clear hb hA hB s2 s4; have done3 := True.intro)
      | (go_at_call 29; clear sp2u1; refine (hTwo.out _ _ (fun b => (Q0 b ∧ b < w.heap.size) ∨ (w.heap.size + 3 ≤ b ∧ b ≠ u1.heap.size)) _ _ _ _ _ _ _ ?_ ?_ ixa.out.1 iya.out.1 ixa.out.2 iya.out.2).mono ?_; (with_reducible exact hA); (with_reducible exact hB); rintro e3 u3 ⟨⟨z0, z1, z2, rfl, hT⟩, hb⟩; have hsz3 := hb.size; obtain ⟨St, nt, nct, mt, mct, aot, cot, et0, et1, et2⟩ := hT.form; subst et0; subst et1; subst et2; have hT := ArrQ.keep (Q' := fun b => (Prov Q0 w b ∧ b ≠ w.heap.size + 2) ∧ b ≠ u1.heap.size) (fun _ _ _ => rfl) (fun b hq _ => two_freeP hq bb s2 s4 (by omega)) _ _ _ _ hT; have bb := below_then bb (Nat.le_refl _) hb; have X := X.later hb; have Y := Y.later hb; have Z := Z.later hb; have I := I.later hb; have hO := Z.lt; have hI := I.lt; have XS := ((X.aside (D := u1.heap.size) (by omega) 0 (.int .u64 (St : Nat))).aside (D := u1.heap.size) (by omega) 1 (.slice aot nt nct)).aside (D := u1.heap.size) (by omega) 2 (.slice cot mt mct); have YS := ((Y.aside (D := u1.heap.size) (by omega) 0 (.int .u64 (St : Nat))).aside (D := u1.heap.size) (by omega) 1 (.slice aot nt nct)).aside (D := u1.heap.size) (by omega) 2 (.slice cot mt mct); have ZS := ((Z.aside (D := u1.heap.size) (by omega) 0 (.int .u64 (St : Nat))).aside (D := u1.heap.size) (by omega) 1 (.slice aot nt nct)).aside (D := u1.heap.size) (by omega) 2 (.slice cot mt mct); have i0 := I.c0; have i1 := I.c1; have i2 := I.c2; have j0 := I.fr 0; have j1 := I.fr 1; have j2 := I.fr 2; clear hb hA hB s2 s4; have done3 := True.intro)
      | (go_at_call 29; clear sp2w2; refine (hTwo.out _ _ (fun b => (Q0 b ∧ b < w.heap.size) ∨ (w.heap.size + 3 ≤ b ∧ b ≠ w2.heap.size)) _ _ _ _ _ _ _ ?_ ?_ ixa.out.1 iya.out.1 ixa.out.2 iya.out.2).mono ?_; (with_reducible exact hA); (with_reducible exact hB); rintro e3 u3 ⟨⟨z0, z1, z2, rfl, hT⟩, hb⟩; have hsz3 := hb.size; obtain ⟨St, nt, nct, mt, mct, aot, cot, et0, et1, et2⟩ := hT.form; subst et0; subst et1; subst et2; have hT := ArrQ.keep (Q' := fun b => (Prov Q0 w b ∧ b ≠ w.heap.size + 2) ∧ b ≠ w2.heap.size) (fun _ _ _ => rfl) (fun b hq _ => two_freeP hq bb s2 s4 (by omega)) _ _ _ _ hT; have bb := below_then bb (Nat.le_refl _) hb; have X := X.later hb; have Y := Y.later hb; have Z := Z.later hb; have I := I.later hb; have hO := Z.lt; have hI := I.lt; have XS := ((X.aside (D := w2.heap.size) (by omega) 0 (.int .u64 (St : Nat))).aside (D := w2.heap.size) (by omega) 1 (.slice aot nt nct)).aside (D := w2.heap.size) (by omega) 2 (.slice cot mt mct); have YS := ((Y.aside (D := w2.heap.size) (by omega) 0 (.int .u64 (St : Nat))).aside (D := w2.heap.size) (by omega) 1 (.slice aot nt nct)).aside (D := w2.heap.size) (by omega) 2 (.slice cot mt mct); have ZS := ((Z.aside (D := w2.heap.size) (by omega) 0 (.int .u64 (St : Nat))).aside (D := w2.heap.size) (by omega) 1 (.slice aot nt nct)).aside (D := w2.heap.size) (by omega) 2 (.slice cot mt mct); have i0 := I.c0; have i1 := I.c1; have i2 := I.c2; have j0 := I.fr 0; have j1 := I.fr 1; have j2 := I.fr 2; clear hb hA hB s2 s4; have done3 := True.intro))
      · clear done3
        rw [← hEi.out] at hT
        have hO' := Z.lt
        have bw := bb.alloc bb.size (.cells #[.int .u64 (St : Nat), .slice aot nt nct, .slice cot mt mct] 45)
        have Zw := Z.alloc (.cells #[.int .u64 (St : Nat), .slice aot nt nct, .slice cot mt mct] 45)
        have Iw := Box3.new (w := u3) (B := u3.heap.size) (.int .u64 (St : Nat)) (.slice aot nt nct) (.slice cot mt mct) 45 rfl
        have hTw := ArrQ.laterQ hT ((Below.refl _ _).alloc (Nat.le_refl _) (.cells #[.int .u64 (St : Nat), .slice aot nt nct, .slice cot mt mct] 45))
        go_wp2_with fail
        go_meet
        exact ⟨u3.heap.size, St, nt, nct, mt, mct, aot, cot, rfl, by rw [hEi.out], bw, Zw, Iw, hTw, by omega⟩
      · clear done3
        rw [← hEi.out] at hT
        have bw := below_set3 bb (B := u2.heap.size) (by omega) (.int .u64 (St : Nat)) (.slice aot nt nct) (.slice cot mt mct)
        have Iw := I.set (.int .u64 (St : Nat)) (.slice aot nt nct) (.slice cot mt mct)
        have hTw := ArrQ.keep (Q' := fun b => Prov Q0 w b ∧ b ≠ w.heap.size + 2) (fun b hq _ => heap_set012 (w := u3) hq.2 (.int .u64 (St : Nat)) (.slice aot nt nct) (.slice cot mt mct)) (fun b hq _ => hq.1) _ _ _ _ hT
        go_wp2_with fail
        go_meet
        exact ⟨u2.heap.size, St, nt, nct, mt, mct, aot, cot, rfl, by rw [hEi.out], bw, ZS, Iw, hTw, by omega⟩
      · clear done3
        rw [← hEi.out] at hT
        have bw := below_set3 bb (B := u1.heap.size) (by omega) (.int .u64 (St : Nat)) (.slice aot nt nct) (.slice cot mt mct)
        have Iw := I.set (.int .u64 (St : Nat)) (.slice aot nt nct) (.slice cot mt mct)
        have hTw := ArrQ.keep (Q' := fun b => Prov Q0 w b ∧ b ≠ w.heap.size + 2) (fun b hq _ => heap_set012 (w := u3) hq.2 (.int .u64 (St : Nat)) (.slice aot nt nct) (.slice cot mt mct)) (fun b hq _ => hq.1) _ _ _ _ hT
        go_wp2_with fail
        go_meet
        exact ⟨u1.heap.size, St, nt, nct, mt, mct, aot, cot, rfl, by rw [hEi.out], bw, ZS, Iw, hTw, by omega⟩
      · clear done3
        rw [← hEi.out] at hT
        have bw := below_set3 bb (B := w2.heap.size) (by omega) (.int .u64 (St : Nat)) (.slice aot nt nct) (.slice cot mt mct)
        have Iw := I.set (.int .u64 (St : Nat)) (.slice aot nt nct) (.slice cot mt mct)
        have hTw := ArrQ.keep (Q' := fun b => Prov Q0 w b ∧ b ≠ w.heap.size + 2) (fun b hq _ => heap_set012 (w := u3) hq.2 (.int .u64 (St : Nat)) (.slice aot nt nct) (.slice cot mt mct)) (fun b hq _ => hq.1) _ _ _ _ hT
        go_wp2_with fail
        go_meet
        exact ⟨w2.heap.size, St, nt, nct, mt, mct, aot, cot, rfl, by rw [hEi.out], bw, ZS, Iw, hTw, by omega⟩
    case rest =>
      obtain ⟨E4, St, nt, nct, mt, mct, aot, cot, rfl, rfl, bb, Z, I, hT, hE4⟩ := hcut
      have i0 := I.c0; have i1 := I.c1; have i2 := I.c2
      have hD2 := Lib.hid (show EE = 0 → twoD f x y (resT EE (twoT f (d' + 1) (innerT x) (innerT y))) = DD from fun h0 => by rw [hDD'.out]; unfold resT; rw [if_pos h0])
      obtain ⟨TT, hTT⟩ : ∃ TT, TT = resT EE (twoT f (d' + 1) (innerT x) (innerT y)) := ⟨_, rfl⟩
      rw [← hTT] at hT hD2
      have bb' := Lib.hid bb; have Z' := Lib.hid Z; have hT' := Lib.hid hT
      clear bb X Y Z I hT hTT s2 hxq hyq
      by_cases hE0 : EE = 0
      · have hDz := Lib.hid (hD2.out hE0)
        have hEz := Lib.hid hE0.symm
        subst hE0
        have hcall := Lib.hid (boxed_ok (orL x.L y.L) St nt nct mt mct aot cot wc)
        go_wp2_with fail
        refine hcall.out.mono ?_
        rintro e5 w5 ⟨B, rfl, hB, ⟨g0, g1, g2⟩, hb5⟩
        have hBs := Lib.hid (show w.heap.size + 2 < B from by have := Z'.out.lt; omega)
        have bz := below_then bb'.out (Nat.le_refl _) hb5; have Zz := Z'.out.later hb5
        have hT2 := Lib.hid (ArrQ.laterQ hT'.out hb5)
        have hg := Lib.hid (And.intro g0 (And.intro g1 g2))
        clear hcall hb5 i0 i1 i2 hT' g0 g1 g2 hB bb' Z' hEz
        have f0 := Zz.fr 0; have d0 := Zz.c0; have f1 := Zz.fr 1; have d1 := Zz.c1; have f2 := Zz.fr 2; have d2 := Zz.c2; have f3 := Zz.fr 3; have d3 := Zz.c3; have f4 := Zz.fr 4; have d4 := Zz.c4; have f5 := Zz.fr 5; have d5 := Zz.c5; have f6 := Zz.fr 6; have d6 := Zz.c6
        have z5 := Zz.setAll (.int .u64 (orL x.L y.L : Nat)) (.int .i64 2) (.bool false) (.slice none 0 0) (.slice none 0 0) (.int .i64 0) (.slice (some ⟨B, 0, none⟩) 1 1)
        have b5 := Lib.hid (below_setAll bz (B := w.heap.size + 2) (by omega) (.int .u64 (orL x.L y.L : Nat)) (.int .i64 2) (.bool false) (.slice none 0 0) (.slice none 0 0) (.int .i64 0) (.slice (some ⟨B, 0, none⟩) 1 1))
        have g0 := z5.c0; have g1 := z5.c1; have g2 := z5.c2; have g3 := z5.c3; have g4 := z5.c4; have g5 := z5.c5; have g6 := z5.c6
        clear z5 Zz bz 
        go_wp2_with fail
        refine bodyPost_ret (v := .tuple #[.agg #[.int .u64 (orL x.L y.L : Nat), .int .i64 2, .bool false, .slice none 0 0, .slice none 0 0, .int .i64 0, .slice (some ⟨B, 0, none⟩) 1 1], .int .i64 (0)]) (by simp [results, Tryz.results86, go_sem, g0, g1, g2, g3, g4, g5, g6]) rfl ?_
        rw [← hDz.out]
        refine ⟨⟨(fun q => [Value.int .u64 (orL x.L y.L : Nat), .int .i64 2, .bool false, .slice none 0 0, .slice none 0 0, .int .i64 0, .slice (some ⟨B, 0, none⟩) 1 1].getD q undef), _, rfl, CellNQ.made rfl hor.out (if_pos hbox.out) (by show IsZ (if _ then _ else _); rw [if_pos hbox.out]; exact ⟨by decide, by decide⟩) (by show NumQ _ _ (twoN f x y) _ _ _; unfold twoN; rw [if_pos hbox.out]; exact num_zero10 _ _) rfl isz_zero (if_pos hbox.out) (by show IsN (if _ then _ else _) _; rw [if_pos hbox.out]; exact isN1) (.inr ⟨B, 0, rfl, .inr (.inl (by have := hBs.out; omega)), fun j hj => ?_⟩), fun _ => rfl⟩, b5.out⟩
        have hj' : j < (if x.K = 2 ∨ y.K = 2 then 1 else 0) := hj
        rw [if_pos hbox.out] at hj'
        obtain rfl : j = 0 := by omega
        have far : ∀ q, (((((((w5.setCell ⟨w.heap.size + 2, 0, none⟩ (.int .u64 (orL x.L y.L : Nat))).setCell ⟨w.heap.size + 2, 1, none⟩ (.int .i64 2)).setCell ⟨w.heap.size + 2, 2, none⟩ (.bool false)).setCell ⟨w.heap.size + 2, 3, none⟩ (.slice none 0 0)).setCell ⟨w.heap.size + 2, 4, none⟩ (.slice none 0 0)).setCell ⟨w.heap.size + 2, 5, none⟩ (.int .i64 0)).setCell ⟨w.heap.size + 2, 6, none⟩ (.slice (some ⟨B, 0, none⟩) 1 1)).cell? ⟨B, q, none⟩ = w5.cell? ⟨B, q, none⟩ := fun q => World.cell?_of_block (a := ⟨B, q, none⟩) (heap_set7' (b := B) (B := w.heap.size + 2) (by have := hBs.out; omega) _ _ _ _ _ _ _)
        exact ⟨_, _, _, (far 0).trans hg.out.1, (far 1).trans hg.out.2.1, (far 2).trans hg.out.2.2, ArrQ.keep (fun b hq _ => heap_set7' hq.2 _ _ _ _ _ _ _) (fun b hq _ => hq.1) _ _ _ _ hT2.out⟩
      · have hcall := Lib.hid (boxed_no (orL x.L y.L) St nt nct mt mct aot cot EE hE0 wc)
        have hE0' := Lib.hid hE0
        clear hE0
        go_wp2_with fail
        refine hcall.out.mono ?_
        rintro e5 w5 ⟨rfl, hb5⟩
        have bz := below_then bb'.out (Nat.le_refl _) hb5; have Zz := Z'.out.later hb5
        clear hcall hb5 i0 i1 i2 hT' bb' Z'
        have f0 := Zz.fr 0; have d0 := Zz.c0; have f1 := Zz.fr 1; have d1 := Zz.c1; have f2 := Zz.fr 2; have d2 := Zz.c2; have f3 := Zz.fr 3; have d3 := Zz.c3; have f4 := Zz.fr 4; have d4 := Zz.c4; have f5 := Zz.fr 5; have d5 := Zz.c5; have f6 := Zz.fr 6; have d6 := Zz.c6
        have z5 := Zz.setAll (.int .u64 0) (.int .i64 0) (.bool false) (.slice none 0 0) (.slice none 0 0) (.int .i64 0) (.slice none 0 0)
        have b5 := Lib.hid (below_setAll bz (B := w.heap.size + 2) (by omega) (.int .u64 0) (.int .i64 0) (.bool false) (.slice none 0 0) (.slice none 0 0) (.int .i64 0) (.slice none 0 0))
        have g0 := z5.c0; have g1 := z5.c1; have g2 := z5.c2; have g3 := z5.c3; have g4 := z5.c4; have g5 := z5.c5; have g6 := z5.c6
        clear z5 Zz bz 
        go_wp2_with fail
        refine bodyPost_ret (v := .tuple #[.agg #[.int .u64 0, .int .i64 0, .bool false, .slice none 0 0, .slice none 0 0, .int .i64 0, .slice none 0 0], .int .i64 (EE)]) (by simp [results, Tryz.results86, go_sem, g0, g1, g2, g3, g4, g5, g6]) rfl ?_
        exact cell_err hE0'.out b5.out
  · have hibx := Lib.hid (isBoxB_not (k := x.k) hx2)
    by_cases hy2 : y.K = 2
    · have hbox := Lib.hid (show x.K = 2 ∨ y.K = 2 from .inr hy2); have hdpos := Lib.hid (show 0 < d from (oy'.out.box hy2).2.2.1)
      have hib := Lib.hid (show isBoxB y.K y.k = true from decide_eq_true ⟨hy2, (oy'.out.box hy2).2.1⟩)
      clear hx2 hy2
      have p0 := X'.out.c0; have p1 := X'.out.c1; have p2 := X'.out.c2; have p3 := X'.out.c3; have p4 := X'.out.c4; have p5 := X'.out.c5; have p6 := X'.out.c6
      go_wp2_with fail
      refine ((hbx.out _).mono fun _ _ h => (show Tell (.bool false) _ _ _ from by rw [hibx.out] at h; exact h)).mono ?_
      rintro e3 w2 ⟨rfl, hb⟩
      replace bb' := Lib.hid (below_then bb'.out (Nat.le_refl _) hb); replace X' := Lib.hid (X'.out.later hb); replace Y' := Lib.hid (Y'.out.later hb); replace Z' := Lib.hid (Z'.out.later hb); replace s2' := Lib.hid (s2'.out.later hb)
      clear hb
      clear p0 p1 p2 p3 p4 p5 p6
      have q0 := Y'.out.c0; have q1 := Y'.out.c1; have q2 := Y'.out.c2; have q3 := Y'.out.c3; have q4 := Y'.out.c4; have q5 := Y'.out.c5; have q6 := Y'.out.c6
      go_wp2_with fail
      refine ((hby.out _).mono fun _ _ h => (show Tell (.bool true) _ _ _ from by rw [hib.out] at h; exact h)).mono ?_
      rintro e4 w2 ⟨rfl, hb⟩
      replace bb' := Lib.hid (below_then bb'.out (Nat.le_refl _) hb); replace X' := Lib.hid (X'.out.later hb); replace Y' := Lib.hid (Y'.out.later hb); replace Z' := Lib.hid (Z'.out.later hb); replace s2' := Lib.hid (s2'.out.later hb)
      clear hb
      clear q0 q1 q2 q3 q4 q5 q6

      have hd1 : 0 < d := hdpos.out
      obtain ⟨d', rfl⟩ : ∃ d', d = d' + 1 := ⟨d - 1, by omega⟩
      have ix := ox'.out.inner; have iy := oy'.out.inner
      have ixa := Lib.hid ix; have iya := Lib.hid iy
      have hix := Lib.hid (show ∀ (W : World) (Q : Nat → Prop), CellNQ W Q x e → Calls Tryz.prog 136 #[.agg #[.int .u64 x.L, .int .i64 x.K, .bool x.N.neg, .slice xa x.N.an xac, .slice xb x.N.am xbc, .int .i64 x.C, .slice xi x.k xkc]] W (TreeQN (innerT x) Q W) from fun W Q hW => by
        have := openedQ_any x Q e W hW (fun hK => (ox'.out.box hK).2.1)
        rw [← xv'.out] at this; exact this)
      have hiy := Lib.hid (show ∀ (W : World) (Q : Nat → Prop), CellNQ W Q y e' → Calls Tryz.prog 136 #[.agg #[.int .u64 y.L, .int .i64 y.K, .bool y.N.neg, .slice ya y.N.an yac, .slice yb y.N.am ybc, .int .i64 y.C, .slice yi y.k ykc]] W (TreeQN (innerT y) Q W) from fun W Q hW => by
        have := openedQ_any y Q e' W hW (fun hK => (oy'.out.box hK).2.1)
        rw [← yv'.out] at this; exact this)
      have hTwo := Lib.hid (h'.out d' rfl)
      have hEi := Lib.hid (show EE = twoE f (d' + 1) (innerT x) (innerT y) from by rw [hEE'.out]; exact if_pos hbox.out)
      have hxw := Lib.hid (show CellNQ w2 (fun b => Q0 b ∧ b < w.heap.size) x e from CellQ.keep hx'.out (fun b hq _ => bb'.out.block b hq.2) (fun _ hq _ => hq) fun _ _ _ _ hd => ArrQ.keep (fun b hq _ => bb'.out.block b hq.2) (fun _ hq _ => hq) _ _ _ _ hd)
      have hyw := Lib.hid (show CellNQ w2 (fun b => Q0 b ∧ b < w.heap.size) y e' from CellQ.keep hy'.out (fun b hq _ => bb'.out.block b hq.2) (fun _ hq _ => hq) fun _ _ _ _ hd => ArrQ.keep (fun b hq _ => bb'.out.block b hq.2) (fun _ hq _ => hq) _ _ _ _ hd)
      clear ix iy
      go_upto_region 3 with fail
      have bb := bb'.out; have X := X'.out; have Y := Y'.out; have Z := Z'.out; have s2 := s2'.out; have hxq := hxw.out; have hyq := hyw.out
      clear bb' X' Y' Z' s2' hxw hyw
      have hOl := Z.lt
      go_cut [9, 10] from 26 to 34 (fun s9 e10 wx => ∃ (E4 St nt nct mt mct : Nat) (aot cot : Option Addr), s9 = .pointer (some ⟨E4, 0, none⟩) ∧ e10 = .int .i64 EE ∧ Below w.heap.size w wx ∧ Box7 wx (w.heap.size + 2) (.int .u64 0) (.int .i64 0) (.bool false) (.slice none 0 0) (.slice none 0 0) (.int .i64 0) (.slice none 0 0) ∧ Box3 wx E4 (.int .u64 (St : Nat)) (.slice aot nt nct) (.slice cot mt mct) ∧ ArrQ wx (fun b => Prov Q0 w b ∧ b ≠ w.heap.size + 2) (resT EE (twoT f (d' + 1) (innerT x) (innerT y))) (.int .u64 (St : Nat)) (.slice aot nt nct) (.slice cot mt mct) ∧ w.heap.size + 3 ≤ E4)
      case first =>
        have sn0 := True.intro
        go_region_held3 (fun w' => w'.cell? ⟨w.heap.size, 0, none⟩ = some (.int .u64 x.L) ∧ w'.cell? ⟨w.heap.size, 1, none⟩ = some (.int .i64 x.K) ∧ w'.cell? ⟨w.heap.size, 2, none⟩ = some (.bool x.N.neg) ∧ w'.cell? ⟨w.heap.size, 3, none⟩ = some (.slice xa x.N.an xac) ∧ w'.cell? ⟨w.heap.size, 4, none⟩ = some (.slice xb x.N.am xbc) ∧ w'.cell? ⟨w.heap.size, 5, none⟩ = some (.int .i64 x.C) ∧ w'.cell? ⟨w.heap.size, 6, none⟩ = some (.slice xi x.k xkc) ∧ w'.cell? ⟨w.heap.size + 1, 0, none⟩ = some (.int .u64 y.L) ∧ w'.cell? ⟨w.heap.size + 1, 1, none⟩ = some (.int .i64 y.K) ∧ w'.cell? ⟨w.heap.size + 1, 2, none⟩ = some (.bool y.N.neg) ∧ w'.cell? ⟨w.heap.size + 1, 3, none⟩ = some (.slice ya y.N.an yac) ∧ w'.cell? ⟨w.heap.size + 1, 4, none⟩ = some (.slice yb y.N.am ybc) ∧ w'.cell? ⟨w.heap.size + 1, 5, none⟩ = some (.int .i64 y.C) ∧ w'.cell? ⟨w.heap.size + 1, 6, none⟩ = some (.slice yi y.k ykc))
          (first | with_reducible exact ⟨X.c0, X.c1, X.c2, X.c3, X.c4, X.c5, X.c6, Y.c0, Y.c1, Y.c2, Y.c3, Y.c4, Y.c5, Y.c6⟩ | with_reducible exact ⟨X.drew.c0, X.drew.c1, X.drew.c2, X.drew.c3, X.drew.c4, X.drew.c5, X.drew.c6, Y.drew.c0, Y.drew.c1, Y.drew.c2, Y.drew.c3, Y.drew.c4, Y.drew.c5, Y.drew.c6⟩ | with_reducible exact ⟨(X.alloc _).c0, (X.alloc _).c1, (X.alloc _).c2, (X.alloc _).c3, (X.alloc _).c4, (X.alloc _).c5, (X.alloc _).c6, (Y.alloc _).c0, (Y.alloc _).c1, (Y.alloc _).c2, (Y.alloc _).c3, (Y.alloc _).c4, (Y.alloc _).c5, (Y.alloc _).c6⟩ | with_reducible exact ⟨(X.alloc _).drew.c0, (X.alloc _).drew.c1, (X.alloc _).drew.c2, (X.alloc _).drew.c3, (X.alloc _).drew.c4, (X.alloc _).drew.c5, (X.alloc _).drew.c6, (Y.alloc _).drew.c0, (Y.alloc _).drew.c1, (Y.alloc _).drew.c2, (Y.alloc _).drew.c3, (Y.alloc _).drew.c4, (Y.alloc _).drew.c5, (Y.alloc _).drew.c6⟩ | with_reducible exact ⟨XS.c0, XS.c1, XS.c2, XS.c3, XS.c4, XS.c5, XS.c6, YS.c0, YS.c1, YS.c2, YS.c3, YS.c4, YS.c5, YS.c6⟩ | exact ⟨(X.alloc _).c0, (X.alloc _).c1, (X.alloc _).c2, (X.alloc _).c3, (X.alloc _).c4, (X.alloc _).c5, (X.alloc _).c6, (Y.alloc _).c0, (Y.alloc _).c1, (Y.alloc _).c2, (Y.alloc _).c3, (Y.alloc _).c4, (Y.alloc _).c5, (Y.alloc _).c6⟩ | go_keep)
          (first
        | (go_at_call 136; clear sn0; refine (hix.out _ (fun b => Q0 b ∧ b < w.heap.size) ?_).mono ?_; (with_reducible exact CellNQ.later hxq (Below.refl _ _).drew); rintro e3 u1 ⟨z0, z1, z2, rfl, hN, hb⟩; have hda := (Below.refl w2.heap.size w2).drew; have bb := below_then bb (Nat.le_refl _) hda; have X := X.later hda; have Y := Y.later hda; have Z := Z.later hda; have s2 := s2.later hda; have hyq := hyq.later hda; clear hda; have hsd1 : w2.drew.heap.size = w2.heap.size := rfl; have hsz1 := hb.size; obtain ⟨Sa, na, nca, ma, mca, aoa, coa, ea0, ea1, ea2⟩ := hN.form; subst ea0; subst ea1; subst ea2; have hA := ArrQ.keep (Q' := fun b => (Q0 b ∧ b < w.heap.size) ∨ w.heap.size + 3 ≤ b) (fun _ _ _ => rfl) (fun b hq _ => by have hol := Z.lt; rcases hq with h | h; exact .inl h; exact .inr (by first | omega | exact ⟨by omega, by omega⟩)) _ _ _ _ hN; clear hN; have bb := below_then bb (Nat.le_refl _) hb; have X := X.later hb; have Y := Y.later hb; have Z := Z.later hb; have s2 := s2.later hb; have hyq := hyq.later hb; clear hb hxq; have sn1 := True.intro)
        | (go_at_call 136; clear sn0; refine (hix.out _ (fun b => Q0 b ∧ b < w.heap.size) ?_).mono ?_; (with_reducible exact CellNQ.later hxq ((Below.refl _ _).alloc (Nat.le_refl _) (.cells #[.int .u64 0, .slice none 0 0, .slice none 0 0] 45)).drew); rintro e3 u1 ⟨z0, z1, z2, rfl, hN, hb⟩; have hox := Z.lt; have hda := ((Below.refl w2.heap.size w2).alloc (Nat.le_refl _) (.cells #[.int .u64 0, .slice none 0 0, .slice none 0 0] 45)).drew; have s4 := shut3 (w := w2) (a := 0) (p := none) (q := none) (n := 0) (nc := 0) (m := 0) (mc := 0) (t := 45); have I := Box3.new (w := w2) (B := w2.heap.size) (.int .u64 0) (.slice none 0 0) (.slice none 0 0) 45 rfl; have s4 := s4.later (Below.refl _ _).drew; have I := I.later (Below.refl _ _).drew; have bb := below_then bb (Nat.le_refl _) hda; have X := X.later hda; have Y := Y.later hda; have Z := Z.later hda; have s2 := s2.later hda; have hyq := hyq.later hda; clear hda; have hsd1 : ((w2.alloc (.cells #[.int .u64 0, .slice none 0 0, .slice none 0 0] 45)).drew).heap.size = w2.heap.size + 1 := (by simp); have hsz1 := hb.size; obtain ⟨Sa, na, nca, ma, mca, aoa, coa, ea0, ea1, ea2⟩ := hN.form; subst ea0; subst ea1; subst ea2; have hA := ArrQ.keep (Q' := fun b => (Q0 b ∧ b < w.heap.size) ∨ (w.heap.size + 3 ≤ b ∧ b ≠ w2.heap.size)) (fun _ _ _ => rfl) (fun b hq _ => by have hol := Z.lt; have h4 := s4.1; rcases hq with h | h; exact .inl h; exact .inr (by first | omega | exact ⟨by omega, by omega⟩)) _ _ _ _ hN; clear hN; have bb := below_then bb (Nat.le_refl _) hb; have X := X.later hb; have Y := Y.later hb; have Z := Z.later hb; have I := I.later hb; have s2 := s2.later hb; have s4 := s4.later hb; have hyq := hyq.later hb; clear hb hxq; have sp1w2 := True.intro)
        | (go_at_call 136; clear sn1; refine (hiy.out _ (fun b => Q0 b ∧ b < w.heap.size) ?_).mono ?_; (with_reducible exact hyq); rintro e3 u2 ⟨z0, z1, z2, rfl, hN, hb⟩; have hsz2 := hb.size; obtain ⟨Sb, nb, ncb, mb, mcb, aob, cob, eb0, eb1, eb2⟩ := hN.form; subst eb0; subst eb1; subst eb2; have hB := ArrQ.keep (Q' := fun b => (Q0 b ∧ b < w.heap.size) ∨ w.heap.size + 3 ≤ b) (fun _ _ _ => rfl) (fun b hq _ => by have hol := Z.lt; rcases hq with h | h; exact .inl h; exact .inr (by first | omega | exact ⟨by omega, by omega⟩)) _ _ _ _ hN; clear hN; have bb := below_then bb (Nat.le_refl _) hb; have X := X.later hb; have Y := Y.later hb; have Z := Z.later hb; have s2 := s2.later hb; have hA := ArrQ.laterQ hA hb; clear hb hyq; have sn2 := True.intro)
        | (go_at_call 136; clear sn1; have hA := ArrQ.keep (Q' := fun b => (Q0 b ∧ b < w.heap.size) ∨ (w.heap.size + 3 ≤ b ∧ b ≠ u1.heap.size)) (fun _ _ _ => rfl) (fun b hq hlt => by rcases hq with h | h; exact .inl h; exact .inr ⟨h, by omega⟩) _ _ _ _ hA; refine (hiy.out _ (fun b => Q0 b ∧ b < w.heap.size) ?_).mono ?_; (with_reducible exact CellNQ.later hyq ((Below.refl _ _).alloc (Nat.le_refl _) (.cells #[.int .u64 0, .slice none 0 0, .slice none 0 0] 45))); rintro e3 u2 ⟨z0, z1, z2, rfl, hN, hb⟩; have hox := Z.lt; have hda := ((Below.refl u1.heap.size u1).alloc (Nat.le_refl _) (.cells #[.int .u64 0, .slice none 0 0, .slice none 0 0] 45)); have s4 := shut3 (w := u1) (a := 0) (p := none) (q := none) (n := 0) (nc := 0) (m := 0) (mc := 0) (t := 45); have I := Box3.new (w := u1) (B := u1.heap.size) (.int .u64 0) (.slice none 0 0) (.slice none 0 0) 45 rfl; have bb := below_then bb (Nat.le_refl _) hda; have X := X.later hda; have Y := Y.later hda; have Z := Z.later hda; have s2 := s2.later hda; have hA := ArrQ.laterQ hA hda; clear hda; have hsd2 : ((u1.alloc (.cells #[.int .u64 0, .slice none 0 0, .slice none 0 0] 45))).heap.size = u1.heap.size + 1 := (by simp); have hsz2 := hb.size; obtain ⟨Sb, nb, ncb, mb, mcb, aob, cob, eb0, eb1, eb2⟩ := hN.form; subst eb0; subst eb1; subst eb2; have hB := ArrQ.keep (Q' := fun b => (Q0 b ∧ b < w.heap.size) ∨ (w.heap.size + 3 ≤ b ∧ b ≠ u1.heap.size)) (fun _ _ _ => rfl) (fun b hq _ => by have hol := Z.lt; have h4 := s4.1; rcases hq with h | h; exact .inl h; exact .inr (by first | omega | exact ⟨by omega, by omega⟩)) _ _ _ _ hN; clear hN; have bb := below_then bb (Nat.le_refl _) hb; have X := X.later hb; have Y := Y.later hb; have Z := Z.later hb; have I := I.later hb; have s2 := s2.later hb; have s4 := s4.later hb; have hA := ArrQ.laterQ hA hb; clear hb hyq; have sp2u1 := True.intro)
        | (go_at_call 136; clear sp1w2; refine (hiy.out _ (fun b => Q0 b ∧ b < w.heap.size) ?_).mono ?_; (with_reducible exact hyq); rintro e3 u2 ⟨z0, z1, z2, rfl, hN, hb⟩; have hsz2 := hb.size; obtain ⟨Sb, nb, ncb, mb, mcb, aob, cob, eb0, eb1, eb2⟩ := hN.form; subst eb0; subst eb1; subst eb2; have hB := ArrQ.keep (Q' := fun b => (Q0 b ∧ b < w.heap.size) ∨ (w.heap.size + 3 ≤ b ∧ b ≠ w2.heap.size)) (fun _ _ _ => rfl) (fun b hq _ => by have hol := Z.lt; have h4 := s4.1; rcases hq with h | h; exact .inl h; exact .inr (by first | omega | exact ⟨by omega, by omega⟩)) _ _ _ _ hN; clear hN; have bb := below_then bb (Nat.le_refl _) hb; have X := X.later hb; have Y := Y.later hb; have Z := Z.later hb; have I := I.later hb; have s2 := s2.later hb; have s4 := s4.later hb; have hA := ArrQ.laterQ hA hb; clear hb hyq; have sp2w2 := True.intro)
        | (go_at_call 29; clear sn2; refine (hTwo.out _ _ (fun b => (Q0 b ∧ b < w.heap.size) ∨ w.heap.size + 3 ≤ b) _ _ _ _ _ _ _ ?_ ?_ ixa.out.1 iya.out.1 ixa.out.2 iya.out.2).mono ?_; (with_reducible exact hA); (with_reducible exact hB); rintro e3 u3 ⟨⟨z0, z1, z2, rfl, hT⟩, hb⟩; have hsz3 := hb.size; obtain ⟨St, nt, nct, mt, mct, aot, cot, et0, et1, et2⟩ := hT.form; subst et0; subst et1; subst et2; have hT := ArrQ.keep (Q' := fun b => Prov Q0 w b ∧ b ≠ w.heap.size + 2) (fun _ _ _ => rfl) (fun b hq _ => two_freeP3 hq bb s2) _ _ _ _ hT; have bb := below_then bb (Nat.le_refl _) hb; have X := X.later hb; have Y := Y.later hb; have Z := Z.later hb; have hO := Z.lt; clear hb hA hB s2; have done3 := True.intro)
        | (go_at_call 29; clear sn2; have hA := ArrQ.keep (Q' := fun b => (Q0 b ∧ b < w.heap.size) ∨ (w.heap.size + 3 ≤ b ∧ b ≠ u2.heap.size)) (fun _ _ _ => rfl) (fun b hq hlt => by rcases hq with h | h; exact .inl h; exact .inr ⟨h, by omega⟩) _ _ _ _ hA; have hB := ArrQ.keep (Q' := fun b => (Q0 b ∧ b < w.heap.size) ∨ (w.heap.size + 3 ≤ b ∧ b ≠ u2.heap.size)) (fun _ _ _ => rfl) (fun b hq hlt => by rcases hq with h | h; exact .inl h; exact .inr ⟨h, by omega⟩) _ _ _ _ hB; refine (hTwo.out _ _ (fun b => (Q0 b ∧ b < w.heap.size) ∨ (w.heap.size + 3 ≤ b ∧ b ≠ u2.heap.size)) _ _ _ _ _ _ _ ?_ ?_ ixa.out.1 iya.out.1 ixa.out.2 iya.out.2).mono ?_; (with_reducible exact ArrQ.laterQ hA ((Below.refl _ _).alloc (Nat.le_refl _) (.cells #[.int .u64 0, .slice none 0 0, .slice none 0 0] 45))); (with_reducible exact ArrQ.laterQ hB ((Below.refl _ _).alloc (Nat.le_refl _) (.cells #[.int .u64 0, .slice none 0 0, .slice none 0 0] 45))); rintro e3 u3 ⟨⟨z0, z1, z2, rfl, hT⟩, hb⟩; have hox := Z.lt; have hda := ((Below.refl u2.heap.size u2).alloc (Nat.le_refl _) (.cells #[.int .u64 0, .slice none 0 0, .slice none 0 0] 45)); have s4 := shut3 (w := u2) (a := 0) (p := none) (q := none) (n := 0) (nc := 0) (m := 0) (mc := 0) (t := 45); have I := Box3.new (w := u2) (B := u2.heap.size) (.int .u64 0) (.slice none 0 0) (.slice none 0 0) 45 rfl; have bb := below_then bb (Nat.le_refl _) hda; have X := X.later hda; have Y := Y.later hda; have Z := Z.later hda; have s2 := s2.later hda; have hA := ArrQ.laterQ hA hda; have hB := ArrQ.laterQ hB hda; clear hda; have hsd3 : ((u2.alloc (.cells #[.int .u64 0, .slice none 0 0, .slice none 0 0] 45))).heap.size = u2.heap.size + 1 := (by simp); have hsz3 := hb.size; obtain ⟨St, nt, nct, mt, mct, aot, cot, et0, et1, et2⟩ := hT.form; subst et0; subst et1; subst et2; have hT := ArrQ.keep (Q' := fun b => (Prov Q0 w b ∧ b ≠ w.heap.size + 2) ∧ b ≠ u2.heap.size) (fun _ _ _ => rfl) (fun b hq _ => two_freeP hq bb s2 s4 (by omega)) _ _ _ _ hT; have bb := below_then bb (Nat.le_refl _) hb; have X := X.later hb; have Y := Y.later hb; have Z := Z.later hb; have I := I.later hb; have hO := Z.lt; have hI := I.lt; have XS := ((X.aside (D := u2.heap.size) (by omega) 0 (.int .u64 (St : Nat))).aside (D := u2.heap.size) (by omega) 1 (.slice aot nt nct)).aside (D := u2.heap.size) (by omega) 2 (.slice cot mt mct); have YS := ((Y.aside (D := u2.heap.size) (by omega) 0 (.int .u64 (St : Nat))).aside (D := u2.heap.size) (by omega) 1 (.slice aot nt nct)).aside (D := u2.heap.size) (by omega) 2 (.slice cot mt mct); have ZS := ((Z.aside (D := u2.heap.size) (by omega) 0 (.int .u64 (St : Nat))).aside (D := u2.heap.size) (by omega) 1 (.slice aot nt nct)).aside (D := u2.heap.size) (by omega) 2 (.slice cot mt mct); have i0 := I.c0; have i1 := I.c1; have i2 := I.c2; have j0 := I.fr 0; have j1 := I.fr 1; have j2 := I.fr 2; clear hb hA hB s2 s4; have done3 := True.intro)
        | (go_at_call 29; clear sp2u1; refine (hTwo.out _ _ (fun b => (Q0 b ∧ b < w.heap.size) ∨ (w.heap.size + 3 ≤ b ∧ b ≠ u1.heap.size)) _ _ _ _ _ _ _ ?_ ?_ ixa.out.1 iya.out.1 ixa.out.2 iya.out.2).mono ?_; (with_reducible exact hA); (with_reducible exact hB); rintro e3 u3 ⟨⟨z0, z1, z2, rfl, hT⟩, hb⟩; have hsz3 := hb.size; obtain ⟨St, nt, nct, mt, mct, aot, cot, et0, et1, et2⟩ := hT.form; subst et0; subst et1; subst et2; have hT := ArrQ.keep (Q' := fun b => (Prov Q0 w b ∧ b ≠ w.heap.size + 2) ∧ b ≠ u1.heap.size) (fun _ _ _ => rfl) (fun b hq _ => two_freeP hq bb s2 s4 (by omega)) _ _ _ _ hT; have bb := below_then bb (Nat.le_refl _) hb; have X := X.later hb; have Y := Y.later hb; have Z := Z.later hb; have I := I.later hb; have hO := Z.lt; have hI := I.lt; have XS := ((X.aside (D := u1.heap.size) (by omega) 0 (.int .u64 (St : Nat))).aside (D := u1.heap.size) (by omega) 1 (.slice aot nt nct)).aside (D := u1.heap.size) (by omega) 2 (.slice cot mt mct); have YS := ((Y.aside (D := u1.heap.size) (by omega) 0 (.int .u64 (St : Nat))).aside (D := u1.heap.size) (by omega) 1 (.slice aot nt nct)).aside (D := u1.heap.size) (by omega) 2 (.slice cot mt mct); have ZS := ((Z.aside (D := u1.heap.size) (by omega) 0 (.int .u64 (St : Nat))).aside (D := u1.heap.size) (by omega) 1 (.slice aot nt nct)).aside (D := u1.heap.size) (by omega) 2 (.slice cot mt mct); have i0 := I.c0; have i1 := I.c1; have i2 := I.c2; have j0 := I.fr 0; have j1 := I.fr 1; have j2 := I.fr 2; clear hb hA hB s2 s4; have done3 := True.intro)
        | (go_at_call 29; clear sp2w2; refine (hTwo.out _ _ (fun b => (Q0 b ∧ b < w.heap.size) ∨ (w.heap.size + 3 ≤ b ∧ b ≠ w2.heap.size)) _ _ _ _ _ _ _ ?_ ?_ ixa.out.1 iya.out.1 ixa.out.2 iya.out.2).mono ?_; (with_reducible exact hA); (with_reducible exact hB); rintro e3 u3 ⟨⟨z0, z1, z2, rfl, hT⟩, hb⟩; have hsz3 := hb.size; obtain ⟨St, nt, nct, mt, mct, aot, cot, et0, et1, et2⟩ := hT.form; subst et0; subst et1; subst et2; have hT := ArrQ.keep (Q' := fun b => (Prov Q0 w b ∧ b ≠ w.heap.size + 2) ∧ b ≠ w2.heap.size) (fun _ _ _ => rfl) (fun b hq _ => two_freeP hq bb s2 s4 (by omega)) _ _ _ _ hT; have bb := below_then bb (Nat.le_refl _) hb; have X := X.later hb; have Y := Y.later hb; have Z := Z.later hb; have I := I.later hb; have hO := Z.lt; have hI := I.lt; have XS := ((X.aside (D := w2.heap.size) (by omega) 0 (.int .u64 (St : Nat))).aside (D := w2.heap.size) (by omega) 1 (.slice aot nt nct)).aside (D := w2.heap.size) (by omega) 2 (.slice cot mt mct); have YS := ((Y.aside (D := w2.heap.size) (by omega) 0 (.int .u64 (St : Nat))).aside (D := w2.heap.size) (by omega) 1 (.slice aot nt nct)).aside (D := w2.heap.size) (by omega) 2 (.slice cot mt mct); have ZS := ((Z.aside (D := w2.heap.size) (by omega) 0 (.int .u64 (St : Nat))).aside (D := w2.heap.size) (by omega) 1 (.slice aot nt nct)).aside (D := w2.heap.size) (by omega) 2 (.slice cot mt mct); have i0 := I.c0; have i1 := I.c1; have i2 := I.c2; have j0 := I.fr 0; have j1 := I.fr 1; have j2 := I.fr 2; clear hb hA hB s2 s4; have done3 := True.intro))
        · clear done3
          rw [← hEi.out] at hT
          have hO' := Z.lt
          have bw := bb.alloc bb.size (.cells #[.int .u64 (St : Nat), .slice aot nt nct, .slice cot mt mct] 45)
          have Zw := Z.alloc (.cells #[.int .u64 (St : Nat), .slice aot nt nct, .slice cot mt mct] 45)
          have Iw := Box3.new (w := u3) (B := u3.heap.size) (.int .u64 (St : Nat)) (.slice aot nt nct) (.slice cot mt mct) 45 rfl
          have hTw := ArrQ.laterQ hT ((Below.refl _ _).alloc (Nat.le_refl _) (.cells #[.int .u64 (St : Nat), .slice aot nt nct, .slice cot mt mct] 45))
          go_wp2_with fail
          go_meet
          exact ⟨u3.heap.size, St, nt, nct, mt, mct, aot, cot, rfl, by rw [hEi.out], bw, Zw, Iw, hTw, by omega⟩
        · clear done3
          rw [← hEi.out] at hT
          have bw := below_set3 bb (B := u2.heap.size) (by omega) (.int .u64 (St : Nat)) (.slice aot nt nct) (.slice cot mt mct)
          have Iw := I.set (.int .u64 (St : Nat)) (.slice aot nt nct) (.slice cot mt mct)
          have hTw := ArrQ.keep (Q' := fun b => Prov Q0 w b ∧ b ≠ w.heap.size + 2) (fun b hq _ => heap_set012 (w := u3) hq.2 (.int .u64 (St : Nat)) (.slice aot nt nct) (.slice cot mt mct)) (fun b hq _ => hq.1) _ _ _ _ hT
          go_wp2_with fail
          go_meet
          exact ⟨u2.heap.size, St, nt, nct, mt, mct, aot, cot, rfl, by rw [hEi.out], bw, ZS, Iw, hTw, by omega⟩
        · clear done3
          rw [← hEi.out] at hT
          have bw := below_set3 bb (B := u1.heap.size) (by omega) (.int .u64 (St : Nat)) (.slice aot nt nct) (.slice cot mt mct)
          have Iw := I.set (.int .u64 (St : Nat)) (.slice aot nt nct) (.slice cot mt mct)
          have hTw := ArrQ.keep (Q' := fun b => Prov Q0 w b ∧ b ≠ w.heap.size + 2) (fun b hq _ => heap_set012 (w := u3) hq.2 (.int .u64 (St : Nat)) (.slice aot nt nct) (.slice cot mt mct)) (fun b hq _ => hq.1) _ _ _ _ hT
          go_wp2_with fail
          go_meet
          exact ⟨u1.heap.size, St, nt, nct, mt, mct, aot, cot, rfl, by rw [hEi.out], bw, ZS, Iw, hTw, by omega⟩
        · clear done3
          rw [← hEi.out] at hT
          have bw := below_set3 bb (B := w2.heap.size) (by omega) (.int .u64 (St : Nat)) (.slice aot nt nct) (.slice cot mt mct)
          have Iw := I.set (.int .u64 (St : Nat)) (.slice aot nt nct) (.slice cot mt mct)
          have hTw := ArrQ.keep (Q' := fun b => Prov Q0 w b ∧ b ≠ w.heap.size + 2) (fun b hq _ => heap_set012 (w := u3) hq.2 (.int .u64 (St : Nat)) (.slice aot nt nct) (.slice cot mt mct)) (fun b hq _ => hq.1) _ _ _ _ hT
          go_wp2_with fail
          go_meet
          exact ⟨w2.heap.size, St, nt, nct, mt, mct, aot, cot, rfl, by rw [hEi.out], bw, ZS, Iw, hTw, by omega⟩
      case rest =>
        obtain ⟨E4, St, nt, nct, mt, mct, aot, cot, rfl, rfl, bb, Z, I, hT, hE4⟩ := hcut
        have i0 := I.c0; have i1 := I.c1; have i2 := I.c2
        have hD2 := Lib.hid (show EE = 0 → twoD f x y (resT EE (twoT f (d' + 1) (innerT x) (innerT y))) = DD from fun h0 => by rw [hDD'.out]; unfold resT; rw [if_pos h0])
        obtain ⟨TT, hTT⟩ : ∃ TT, TT = resT EE (twoT f (d' + 1) (innerT x) (innerT y)) := ⟨_, rfl⟩
        rw [← hTT] at hT hD2
        have bb' := Lib.hid bb; have Z' := Lib.hid Z; have hT' := Lib.hid hT
        clear bb X Y Z I hT hTT s2 hxq hyq
        by_cases hE0 : EE = 0
        · have hDz := Lib.hid (hD2.out hE0)
          have hEz := Lib.hid hE0.symm
          subst hE0
          have hcall := Lib.hid (boxed_ok (orL x.L y.L) St nt nct mt mct aot cot wc)
          go_wp2_with fail
          refine hcall.out.mono ?_
          rintro e5 w5 ⟨B, rfl, hB, ⟨g0, g1, g2⟩, hb5⟩
          have hBs := Lib.hid (show w.heap.size + 2 < B from by have := Z'.out.lt; omega)
          have bz := below_then bb'.out (Nat.le_refl _) hb5; have Zz := Z'.out.later hb5
          have hT2 := Lib.hid (ArrQ.laterQ hT'.out hb5)
          have hg := Lib.hid (And.intro g0 (And.intro g1 g2))
          clear hcall hb5 i0 i1 i2 hT' g0 g1 g2 hB bb' Z' hEz
          have f0 := Zz.fr 0; have d0 := Zz.c0; have f1 := Zz.fr 1; have d1 := Zz.c1; have f2 := Zz.fr 2; have d2 := Zz.c2; have f3 := Zz.fr 3; have d3 := Zz.c3; have f4 := Zz.fr 4; have d4 := Zz.c4; have f5 := Zz.fr 5; have d5 := Zz.c5; have f6 := Zz.fr 6; have d6 := Zz.c6
          have z5 := Zz.setAll (.int .u64 (orL x.L y.L : Nat)) (.int .i64 2) (.bool false) (.slice none 0 0) (.slice none 0 0) (.int .i64 0) (.slice (some ⟨B, 0, none⟩) 1 1)
          have b5 := Lib.hid (below_setAll bz (B := w.heap.size + 2) (by omega) (.int .u64 (orL x.L y.L : Nat)) (.int .i64 2) (.bool false) (.slice none 0 0) (.slice none 0 0) (.int .i64 0) (.slice (some ⟨B, 0, none⟩) 1 1))
          have g0 := z5.c0; have g1 := z5.c1; have g2 := z5.c2; have g3 := z5.c3; have g4 := z5.c4; have g5 := z5.c5; have g6 := z5.c6
          clear z5 Zz bz 
          go_wp2_with fail
          refine bodyPost_ret (v := .tuple #[.agg #[.int .u64 (orL x.L y.L : Nat), .int .i64 2, .bool false, .slice none 0 0, .slice none 0 0, .int .i64 0, .slice (some ⟨B, 0, none⟩) 1 1], .int .i64 (0)]) (by simp [results, Tryz.results86, go_sem, g0, g1, g2, g3, g4, g5, g6]) rfl ?_
          rw [← hDz.out]
          refine ⟨⟨(fun q => [Value.int .u64 (orL x.L y.L : Nat), .int .i64 2, .bool false, .slice none 0 0, .slice none 0 0, .int .i64 0, .slice (some ⟨B, 0, none⟩) 1 1].getD q undef), _, rfl, CellNQ.made rfl hor.out (if_pos hbox.out) (by show IsZ (if _ then _ else _); rw [if_pos hbox.out]; exact ⟨by decide, by decide⟩) (by show NumQ _ _ (twoN f x y) _ _ _; unfold twoN; rw [if_pos hbox.out]; exact num_zero10 _ _) rfl isz_zero (if_pos hbox.out) (by show IsN (if _ then _ else _) _; rw [if_pos hbox.out]; exact isN1) (.inr ⟨B, 0, rfl, .inr (.inl (by have := hBs.out; omega)), fun j hj => ?_⟩), fun _ => rfl⟩, b5.out⟩
          have hj' : j < (if x.K = 2 ∨ y.K = 2 then 1 else 0) := hj
          rw [if_pos hbox.out] at hj'
          obtain rfl : j = 0 := by omega
          have far : ∀ q, (((((((w5.setCell ⟨w.heap.size + 2, 0, none⟩ (.int .u64 (orL x.L y.L : Nat))).setCell ⟨w.heap.size + 2, 1, none⟩ (.int .i64 2)).setCell ⟨w.heap.size + 2, 2, none⟩ (.bool false)).setCell ⟨w.heap.size + 2, 3, none⟩ (.slice none 0 0)).setCell ⟨w.heap.size + 2, 4, none⟩ (.slice none 0 0)).setCell ⟨w.heap.size + 2, 5, none⟩ (.int .i64 0)).setCell ⟨w.heap.size + 2, 6, none⟩ (.slice (some ⟨B, 0, none⟩) 1 1)).cell? ⟨B, q, none⟩ = w5.cell? ⟨B, q, none⟩ := fun q => World.cell?_of_block (a := ⟨B, q, none⟩) (heap_set7' (b := B) (B := w.heap.size + 2) (by have := hBs.out; omega) _ _ _ _ _ _ _)
          exact ⟨_, _, _, (far 0).trans hg.out.1, (far 1).trans hg.out.2.1, (far 2).trans hg.out.2.2, ArrQ.keep (fun b hq _ => heap_set7' hq.2 _ _ _ _ _ _ _) (fun b hq _ => hq.1) _ _ _ _ hT2.out⟩
        · have hcall := Lib.hid (boxed_no (orL x.L y.L) St nt nct mt mct aot cot EE hE0 wc)
          have hE0' := Lib.hid hE0
          clear hE0
          go_wp2_with fail
          refine hcall.out.mono ?_
          rintro e5 w5 ⟨rfl, hb5⟩
          have bz := below_then bb'.out (Nat.le_refl _) hb5; have Zz := Z'.out.later hb5
          clear hcall hb5 i0 i1 i2 hT' bb' Z'
          have f0 := Zz.fr 0; have d0 := Zz.c0; have f1 := Zz.fr 1; have d1 := Zz.c1; have f2 := Zz.fr 2; have d2 := Zz.c2; have f3 := Zz.fr 3; have d3 := Zz.c3; have f4 := Zz.fr 4; have d4 := Zz.c4; have f5 := Zz.fr 5; have d5 := Zz.c5; have f6 := Zz.fr 6; have d6 := Zz.c6
          have z5 := Zz.setAll (.int .u64 0) (.int .i64 0) (.bool false) (.slice none 0 0) (.slice none 0 0) (.int .i64 0) (.slice none 0 0)
          have b5 := Lib.hid (below_setAll bz (B := w.heap.size + 2) (by omega) (.int .u64 0) (.int .i64 0) (.bool false) (.slice none 0 0) (.slice none 0 0) (.int .i64 0) (.slice none 0 0))
          have g0 := z5.c0; have g1 := z5.c1; have g2 := z5.c2; have g3 := z5.c3; have g4 := z5.c4; have g5 := z5.c5; have g6 := z5.c6
          clear z5 Zz bz 
          go_wp2_with fail
          refine bodyPost_ret (v := .tuple #[.agg #[.int .u64 0, .int .i64 0, .bool false, .slice none 0 0, .slice none 0 0, .int .i64 0, .slice none 0 0], .int .i64 (EE)]) (by simp [results, Tryz.results86, go_sem, g0, g1, g2, g3, g4, g5, g6]) rfl ?_
          exact cell_err hE0'.out b5.out
    · have hiby := Lib.hid (isBoxB_not (k := y.k) hy2)
      have p0 := X'.out.c0; have p1 := X'.out.c1; have p2 := X'.out.c2; have p3 := X'.out.c3; have p4 := X'.out.c4; have p5 := X'.out.c5; have p6 := X'.out.c6
      go_wp2_with fail
      refine ((hbx.out _).mono fun _ _ h => (show Tell (.bool false) _ _ _ from by rw [hibx.out] at h; exact h)).mono ?_
      rintro e3 w2 ⟨rfl, hb⟩
      replace bb' := Lib.hid (below_then bb'.out (Nat.le_refl _) hb); replace X' := Lib.hid (X'.out.later hb); replace Y' := Lib.hid (Y'.out.later hb); replace Z' := Lib.hid (Z'.out.later hb); replace s2' := Lib.hid (s2'.out.later hb)
      clear hb
      clear p0 p1 p2 p3 p4 p5 p6
      have q0 := Y'.out.c0; have q1 := Y'.out.c1; have q2 := Y'.out.c2; have q3 := Y'.out.c3; have q4 := Y'.out.c4; have q5 := Y'.out.c5; have q6 := Y'.out.c6
      go_wp2_with fail
      refine ((hby.out _).mono fun _ _ h => (show Tell (.bool false) _ _ _ from by rw [hiby.out] at h; exact h)).mono ?_
      rintro e4 w2 ⟨rfl, hb⟩
      replace bb' := Lib.hid (below_then bb'.out (Nat.le_refl _) hb); replace X' := Lib.hid (X'.out.later hb); replace Y' := Lib.hid (Y'.out.later hb); replace Z' := Lib.hid (Z'.out.later hb); replace s2' := Lib.hid (s2'.out.later hb)
      clear hb
      clear q0 q1 q2 q3 q4 q5 q6
      rcases ox'.out.plain hx2 with ⟨hx0, _, _, hRx⟩ | ⟨hxk, _⟩
      · rcases oy'.out.plain hy2 with ⟨hy0, _, _, hRy⟩ | ⟨hyk, _⟩
        · clear hx2 hy2
          have hnb : ¬ (x.K = 2 ∨ y.K = 2) := by omega
          have hx0h := Lib.hid hx0; have hy0h := Lib.hid hy0; have hnbh := Lib.hid hnb
          have p1 := X'.out.c1; have q1 := Y'.out.c1
          have p2 := X'.out.c2; have p3 := X'.out.c3; have p4 := X'.out.c4; have q2 := Y'.out.c2; have q3 := Y'.out.c3; have q4 := Y'.out.c4
          rw [hx0] at p1; rw [hy0] at q1
          have lx := hRx.low; have ly := hRy.low
          have Rx := (show NumP w2 x.N (.bool x.N.neg) (.slice xa x.N.an xac) (.slice xb x.N.am xbc) from (xN'.out.keep (Q' := fun _ => True) (fun b hq _ => bb'.out.block b hq.2) (fun _ _ _ => trivial)).plain').rtS hRx
          have Ry := (show NumP w2 y.N (.bool y.N.neg) (.slice ya y.N.an yac) (.slice yb y.N.am ybc) from (yN'.out.keep (Q' := fun _ => True) (fun b hq _ => bb'.out.block b hq.2) (fun _ _ _ => trivial)).plain').rtS hRy
          have hfit := Lib.hid (fit_two f lx ly)
          obtain ⟨r, hrr⟩ : ∃ r, r = num2R f (topF x.N) (botF x.N) (topF y.N) (botF y.N) := ⟨_, rfl⟩
          have hrr' := Lib.hid hrr
          have hcall := numbersP_any f x.N.neg xa xb x.N.an xac x.N.am xbc (topF x.N) (botF x.N) y.N.neg ya yb y.N.an yac y.N.am ybc (topF y.N) (botF y.N) w2 Rx lx Ry ly
          rw [← hrr] at hcall hfit
          replace hcall := Lib.hid hcall
          have hEr := Lib.hid (show EE = r.2.2 from by rw [hEE'.out]; unfold cellE; rw [if_neg hnbh.out, if_pos ⟨hx0h.out, hy0h.out⟩, hrr])
          clear Rx Ry lx ly hrr hx0 hy0 hnb hRx hRy
          go_wp2_with fail
          refine hcall.out.mono ?_
          rintro e3 w3 ⟨nb, po, pn, pc, qo, qn, qc, rfl, R2, hb3⟩
          obtain ⟨rT, rB, rE⟩ := r
          replace bb' := Lib.hid (below_then bb'.out (Nat.le_refl _) hb3); replace Z' := Lib.hid (Z'.out.later hb3); replace s2' := Lib.hid (s2'.out.later hb3)
          have hR2 := Lib.hid R2
          clear hcall hb3 R2 p1 p2 p3 p4 q1 q2 q3 q4 X' Y'
          go_upto_region 7 with fail
          refine told_wp (fun w' => Below w.heap.size w w' ∧ Box7 w' (w.heap.size + 2) (.int .u64 0) (.int .i64 0) (.bool false) (.slice none 0 0) (.slice none 0 0) (.int .i64 0) (.slice none 0 0) ∧ Shut w' (w.heap.size + 2) ∧ Box3 w' w3.heap.size (.bool nb) (.slice po pn pc) (.slice qo qn qc) ∧ Rt w' nb po pn pc qo qn qc rT rB)
            ⟨bb'.out.alloc bb'.out.size _, Z'.out.alloc _, s2'.out.later ((Below.refl _ _).alloc (Nat.le_refl _) _), Box3.new _ _ _ _ rfl, hR2.out.alloc _⟩ ?_
          clear bb' Z' s2' hR2
          rintro w4 ⟨bb, Z, sz, I, R2⟩
          have i0 := I.c0; have i1 := I.c1; have i2 := I.c2
          have bb' := Lib.hid bb; have Z' := Lib.hid Z; have s2' := Lib.hid sz; have hR2 := Lib.hid R2
          clear bb Z sz I R2
          by_cases hE0 : rE = 0
          · subst hE0
            have hlow : Hid (Low rT rB) := Lib.hid (by rcases hfit.out with ⟨_, hl⟩ | ⟨hn, _⟩; exact hl; exact absurd rfl hn)
            have hcall := Lib.hid (numbered_ok (orL x.L y.L) pn pc qn qc nb po qo w4)
            go_wp2_with fail
            refine hcall.out.mono ?_
            rintro e5 w5 ⟨rfl, hb5⟩
            have bz := below_then bb'.out (Nat.le_refl _) hb5; have Zz := Z'.out.later hb5
            replace bb' := Lib.hid bz; replace s2' := Lib.hid (s2'.out.later hb5)
            have hNP := Lib.hid ((hR2.out.below hb5).numP hlow.out.2.2.1 hlow.out.2.2.2).limbs
            have hD2 := Lib.hid (show (⟨orL x.L y.L, 0, numF rT rB, 0, 0, fun _ => twoT f d (innerT x) (innerT y)⟩ : CellD) = DD from by
              rw [hDD'.out]
              unfold twoD twoN
              rw [if_neg hnbh.out, if_neg hnbh.out, if_neg hnbh.out, if_pos ⟨hx0h.out, hy0h.out⟩, ← hrr'.out])
            clear hcall hb5 i0 i1 i2 hR2 Z'
            have f0 := Zz.fr 0; have d0 := Zz.c0; have f1 := Zz.fr 1; have d1 := Zz.c1; have f2 := Zz.fr 2; have d2 := Zz.c2; have f3 := Zz.fr 3; have d3 := Zz.c3; have f4 := Zz.fr 4; have d4 := Zz.c4; have f5 := Zz.fr 5; have d5 := Zz.c5; have f6 := Zz.fr 6; have d6 := Zz.c6
            have z5 := Zz.setAll (.int .u64 (orL x.L y.L : Nat)) (.int .i64 0) (.bool nb) (.slice po pn pc) (.slice qo qn qc) (.int .i64 0) (.slice none 0 0)
            have b5 := Lib.hid (below_setAll bz (B := w.heap.size + 2) (by omega) (.int .u64 (orL x.L y.L : Nat)) (.int .i64 0) (.bool nb) (.slice po pn pc) (.slice qo qn qc) (.int .i64 0) (.slice none 0 0))
            have g0 := z5.c0; have g1 := z5.c1; have g2 := z5.c2; have g3 := z5.c3; have g4 := z5.c4; have g5 := z5.c5; have g6 := z5.c6
            clear z5 Zz bz 
            go_wp2_with fail
            refine bodyPost_ret (v := .tuple #[.agg #[.int .u64 (orL x.L y.L : Nat), .int .i64 0, .bool nb, .slice po pn pc, .slice qo qn qc, .int .i64 0, .slice none 0 0], .int .i64 (0)]) (by simp [results, Tryz.results86, go_sem, g0, g1, g2, g3, g4, g5, g6]) rfl ?_
            have hE2 : EE = 0 := hEr.out
            rw [hE2, ← hD2.out]
            exact ⟨⟨(fun q => [Value.int .u64 (orL x.L y.L : Nat), .int .i64 0, .bool nb, .slice po pn pc, .slice qo qn qc, .int .i64 0, .slice none 0 0].getD q undef), _, rfl, CellNQ.made rfl hor.out rfl isz_zero (hNP.out.keep (fun b hq _ => heap_set7' (s2'.out.ne hq) _ _ _ _ _ _ _) (fun b hq _ => Prov.limb hq bb'.out)) rfl isz_zero rfl isn_zero (.inl rfl), fun _ => rfl⟩, b5.out⟩
          · have hcall := Lib.hid (numbered_no (orL x.L y.L) pn pc qn qc nb po qo rE hE0 w4)
            have hE0' := Lib.hid hE0
            clear hE0
            go_wp2_with fail
            refine hcall.out.mono ?_
            rintro e5 w5 ⟨rfl, hb5⟩
            have bz := below_then bb'.out (Nat.le_refl _) hb5; have Zz := Z'.out.later hb5
            clear hcall hb5 i0 i1 i2 hR2 bb' Z'
            have f0 := Zz.fr 0; have d0 := Zz.c0; have f1 := Zz.fr 1; have d1 := Zz.c1; have f2 := Zz.fr 2; have d2 := Zz.c2; have f3 := Zz.fr 3; have d3 := Zz.c3; have f4 := Zz.fr 4; have d4 := Zz.c4; have f5 := Zz.fr 5; have d5 := Zz.c5; have f6 := Zz.fr 6; have d6 := Zz.c6
            have z5 := Zz.setAll (.int .u64 0) (.int .i64 0) (.bool false) (.slice none 0 0) (.slice none 0 0) (.int .i64 0) (.slice none 0 0)
            have b5 := Lib.hid (below_setAll bz (B := w.heap.size + 2) (by omega) (.int .u64 0) (.int .i64 0) (.bool false) (.slice none 0 0) (.slice none 0 0) (.int .i64 0) (.slice none 0 0))
            have g0 := z5.c0; have g1 := z5.c1; have g2 := z5.c2; have g3 := z5.c3; have g4 := z5.c4; have g5 := z5.c5; have g6 := z5.c6
            clear z5 Zz bz 
            go_wp2_with fail
            refine bodyPost_ret (v := .tuple #[.agg #[.int .u64 0, .int .i64 0, .bool false, .slice none 0 0, .slice none 0 0, .int .i64 0, .slice none 0 0], .int .i64 (rE)]) (by simp [results, Tryz.results86, go_sem, g0, g1, g2, g3, g4, g5, g6]) rfl ?_
            have hE2 : EE = rE := hEr.out
            rw [hE2]
            exact cell_err hE0'.out b5.out
        · have hxk := hx0
          clear hx2 hy2 hRx hx0
          have hnbh := Lib.hid (show ¬ (x.K = 2 ∨ y.K = 2) by omega); have hn0h := Lib.hid (show ¬ (x.K = 0 ∧ y.K = 0) by omega)
          have p1 := X'.out.c1; have q1 := Y'.out.c1
          rw [hxk] at p1; rw [hyk] at q1
          have hsv0 := Lib.hid (show sameKC x y = false from decide_eq_false fun h => by have := h.1; omega)
          clear hxk hyk
          by_cases hf1 : f = 61
          · subst hf1
            have hsv := Lib.hid (show sameKC x y = false from hsv0.out)
            have hEr2 := Lib.hid (show EE = 0 from by rw [hEE'.out]; unfold cellE; rw [if_neg hnbh.out, if_neg hn0h.out, if_pos (.inl rfl)])
            have hD2 := Lib.hid (show (⟨orL x.L y.L, 0, numF (truthZ false) 1, 0, 0, fun _ => twoT 61 d (innerT x) (innerT y)⟩ : CellD) = DD from by
              rw [hDD'.out]
              unfold twoD twoN
              rw [if_neg hnbh.out, if_neg hnbh.out, if_neg hnbh.out, if_neg hn0h.out, if_pos rfl, show sameKC x y = false from hsv.out])
            go_wp2_with fail
            refine (truth_any false _).mono ?_
            rintro e3 w3 ⟨nb, po, pn, pc, qo, qn, qc, rfl, R2, hb3⟩
            replace bb' := Lib.hid (below_then bb'.out (Nat.le_refl _) hb3); replace Z' := Lib.hid (Z'.out.later hb3); replace s2' := Lib.hid (s2'.out.later hb3)
            have hR2 := Lib.hid R2
            have hcall := Lib.hid (numbered_ok (orL x.L y.L) pn pc qn qc nb po qo w3)
            clear hb3 R2 X' Y' p1 q1
            go_wp2_with fail
            refine hcall.out.mono ?_
            rintro e5 w5 ⟨rfl, hb5⟩
            have bz := below_then bb'.out (Nat.le_refl _) hb5; have Zz := Z'.out.later hb5
            replace bb' := Lib.hid bz; replace s2' := Lib.hid (s2'.out.later hb5)
            have hNP := Lib.hid ((hR2.out.below hb5).numP (truth_small false).1 (truth_small false).2).limbs
            clear hcall hb5 hR2 Z'
            have f0 := Zz.fr 0; have d0 := Zz.c0; have f1 := Zz.fr 1; have d1 := Zz.c1; have f2 := Zz.fr 2; have d2 := Zz.c2; have f3 := Zz.fr 3; have d3 := Zz.c3; have f4 := Zz.fr 4; have d4 := Zz.c4; have f5 := Zz.fr 5; have d5 := Zz.c5; have f6 := Zz.fr 6; have d6 := Zz.c6
            have z5 := Zz.setAll (.int .u64 (orL x.L y.L : Nat)) (.int .i64 0) (.bool nb) (.slice po pn pc) (.slice qo qn qc) (.int .i64 0) (.slice none 0 0)
            have b5 := Lib.hid (below_setAll bz (B := w.heap.size + 2) (by omega) (.int .u64 (orL x.L y.L : Nat)) (.int .i64 0) (.bool nb) (.slice po pn pc) (.slice qo qn qc) (.int .i64 0) (.slice none 0 0))
            have g0 := z5.c0; have g1 := z5.c1; have g2 := z5.c2; have g3 := z5.c3; have g4 := z5.c4; have g5 := z5.c5; have g6 := z5.c6
            clear z5 Zz bz 
            go_wp2_with fail
            refine bodyPost_ret (v := .tuple #[.agg #[.int .u64 (orL x.L y.L : Nat), .int .i64 0, .bool nb, .slice po pn pc, .slice qo qn qc, .int .i64 0, .slice none 0 0], .int .i64 (0)]) (by simp [results, Tryz.results86, go_sem, g0, g1, g2, g3, g4, g5, g6]) rfl ?_
            rw [hEr2.out, ← hD2.out]
            exact ⟨⟨(fun q => [Value.int .u64 (orL x.L y.L : Nat), .int .i64 0, .bool nb, .slice po pn pc, .slice qo qn qc, .int .i64 0, .slice none 0 0].getD q undef), _, rfl, CellNQ.made rfl hor.out rfl isz_zero (hNP.out.keep (fun b hq _ => heap_set7' (s2'.out.ne hq) _ _ _ _ _ _ _) (fun b hq _ => Prov.limb hq bb'.out)) rfl isz_zero rfl isn_zero (.inl rfl), fun _ => rfl⟩, b5.out⟩
          · have hf1b : (f == 61) = false := by rw [beq_eq_false_iff_ne]; exact hf1
            by_cases hf2 : f = 8800
            · subst hf2
              have hsv := Lib.hid (show (!sameKC x y) = true from by rw [hsv0.out]; rfl)
              clear hf1 hf1b
              have hEr2 := Lib.hid (show EE = 0 from by rw [hEE'.out]; unfold cellE; rw [if_neg hnbh.out, if_neg hn0h.out, if_pos (.inr rfl)])
              have hD2 := Lib.hid (show (⟨orL x.L y.L, 0, numF (truthZ true) 1, 0, 0, fun _ => twoT 8800 d (innerT x) (innerT y)⟩ : CellD) = DD from by
                rw [hDD'.out]
                unfold twoD twoN
                rw [if_neg hnbh.out, if_neg hnbh.out, if_neg hnbh.out, if_neg hn0h.out, if_neg (by decide), show (!sameKC x y) = true from hsv.out])
              go_wp2_with fail
              refine (truth_any true _).mono ?_
              rintro e3 w3 ⟨nb, po, pn, pc, qo, qn, qc, rfl, R2, hb3⟩
              replace bb' := Lib.hid (below_then bb'.out (Nat.le_refl _) hb3); replace Z' := Lib.hid (Z'.out.later hb3); replace s2' := Lib.hid (s2'.out.later hb3)
              have hR2 := Lib.hid R2
              have hcall := Lib.hid (numbered_ok (orL x.L y.L) pn pc qn qc nb po qo w3)
              clear hb3 R2 X' Y' p1 q1
              go_wp2_with fail
              refine hcall.out.mono ?_
              rintro e5 w5 ⟨rfl, hb5⟩
              have bz := below_then bb'.out (Nat.le_refl _) hb5; have Zz := Z'.out.later hb5
              replace bb' := Lib.hid bz; replace s2' := Lib.hid (s2'.out.later hb5)
              have hNP := Lib.hid ((hR2.out.below hb5).numP (truth_small true).1 (truth_small true).2).limbs
              clear hcall hb5 hR2 Z'
              have f0 := Zz.fr 0; have d0 := Zz.c0; have f1 := Zz.fr 1; have d1 := Zz.c1; have f2 := Zz.fr 2; have d2 := Zz.c2; have f3 := Zz.fr 3; have d3 := Zz.c3; have f4 := Zz.fr 4; have d4 := Zz.c4; have f5 := Zz.fr 5; have d5 := Zz.c5; have f6 := Zz.fr 6; have d6 := Zz.c6
              have z5 := Zz.setAll (.int .u64 (orL x.L y.L : Nat)) (.int .i64 0) (.bool nb) (.slice po pn pc) (.slice qo qn qc) (.int .i64 0) (.slice none 0 0)
              have b5 := Lib.hid (below_setAll bz (B := w.heap.size + 2) (by omega) (.int .u64 (orL x.L y.L : Nat)) (.int .i64 0) (.bool nb) (.slice po pn pc) (.slice qo qn qc) (.int .i64 0) (.slice none 0 0))
              have g0 := z5.c0; have g1 := z5.c1; have g2 := z5.c2; have g3 := z5.c3; have g4 := z5.c4; have g5 := z5.c5; have g6 := z5.c6
              clear z5 Zz bz 
              go_wp2_with fail
              refine bodyPost_ret (v := .tuple #[.agg #[.int .u64 (orL x.L y.L : Nat), .int .i64 0, .bool nb, .slice po pn pc, .slice qo qn qc, .int .i64 0, .slice none 0 0], .int .i64 (0)]) (by simp [results, Tryz.results86, go_sem, g0, g1, g2, g3, g4, g5, g6]) rfl ?_
              rw [hEr2.out, ← hD2.out]
              exact ⟨⟨(fun q => [Value.int .u64 (orL x.L y.L : Nat), .int .i64 0, .bool nb, .slice po pn pc, .slice qo qn qc, .int .i64 0, .slice none 0 0].getD q undef), _, rfl, CellNQ.made rfl hor.out rfl isz_zero (hNP.out.keep (fun b hq _ => heap_set7' (s2'.out.ne hq) _ _ _ _ _ _ _) (fun b hq _ => Prov.limb hq bb'.out)) rfl isz_zero rfl isn_zero (.inl rfl), fun _ => rfl⟩, b5.out⟩
            · have hf2b : (f == 8800) = false := by rw [beq_eq_false_iff_ne]; exact hf2
              have hEr2 := Lib.hid (show EE = 3 from by rw [hEE'.out]; unfold cellE; rw [if_neg hnbh.out, if_neg hn0h.out, if_neg (by omega)])
              have bz := bb'.out; have Zz := Z'.out
              clear X' Y' Z' s2' bb'
              have f0 := Zz.fr 0; have d0 := Zz.c0; have f1 := Zz.fr 1; have d1 := Zz.c1; have f2 := Zz.fr 2; have d2 := Zz.c2; have f3 := Zz.fr 3; have d3 := Zz.c3; have f4 := Zz.fr 4; have d4 := Zz.c4; have f5 := Zz.fr 5; have d5 := Zz.c5; have f6 := Zz.fr 6; have d6 := Zz.c6
              have z5 := Zz.setAll (.int .u64 0) (.int .i64 0) (.bool false) (.slice none 0 0) (.slice none 0 0) (.int .i64 0) (.slice none 0 0)
              have b5 := Lib.hid (below_setAll bz (B := w.heap.size + 2) (by omega) (.int .u64 0) (.int .i64 0) (.bool false) (.slice none 0 0) (.slice none 0 0) (.int .i64 0) (.slice none 0 0))
              have g0 := z5.c0; have g1 := z5.c1; have g2 := z5.c2; have g3 := z5.c3; have g4 := z5.c4; have g5 := z5.c5; have g6 := z5.c6
              clear z5 Zz bz 
              go_wp2_with fail
              refine bodyPost_ret (v := .tuple #[.agg #[.int .u64 0, .int .i64 0, .bool false, .slice none 0 0, .slice none 0 0, .int .i64 0, .slice none 0 0], .int .i64 (3)]) (by simp [results, Tryz.results86, go_sem, g0, g1, g2, g3, g4, g5, g6]) rfl ?_
              rw [hEr2.out]
              exact cell_err (by decide) b5.out
      · rcases oy'.out.plain hy2 with ⟨hyk, _, _, _⟩ | ⟨hyk, _⟩
        · clear hx2 hy2
          have hnbh := Lib.hid (show ¬ (x.K = 2 ∨ y.K = 2) by omega); have hn0h := Lib.hid (show ¬ (x.K = 0 ∧ y.K = 0) by omega)
          have p1 := X'.out.c1; have q1 := Y'.out.c1
          rw [hxk] at p1; rw [hyk] at q1
          have hsv0 := Lib.hid (show sameKC x y = false from decide_eq_false fun h => by have := h.1; omega)
          clear hxk hyk
          by_cases hf1 : f = 61
          · subst hf1
            have hsv := Lib.hid (show sameKC x y = false from hsv0.out)
            have hEr2 := Lib.hid (show EE = 0 from by rw [hEE'.out]; unfold cellE; rw [if_neg hnbh.out, if_neg hn0h.out, if_pos (.inl rfl)])
            have hD2 := Lib.hid (show (⟨orL x.L y.L, 0, numF (truthZ false) 1, 0, 0, fun _ => twoT 61 d (innerT x) (innerT y)⟩ : CellD) = DD from by
              rw [hDD'.out]
              unfold twoD twoN
              rw [if_neg hnbh.out, if_neg hnbh.out, if_neg hnbh.out, if_neg hn0h.out, if_pos rfl, show sameKC x y = false from hsv.out])
            go_wp2_with fail
            refine (truth_any false _).mono ?_
            rintro e3 w3 ⟨nb, po, pn, pc, qo, qn, qc, rfl, R2, hb3⟩
            replace bb' := Lib.hid (below_then bb'.out (Nat.le_refl _) hb3); replace Z' := Lib.hid (Z'.out.later hb3); replace s2' := Lib.hid (s2'.out.later hb3)
            have hR2 := Lib.hid R2
            have hcall := Lib.hid (numbered_ok (orL x.L y.L) pn pc qn qc nb po qo w3)
            clear hb3 R2 X' Y' p1 q1
            go_wp2_with fail
            refine hcall.out.mono ?_
            rintro e5 w5 ⟨rfl, hb5⟩
            have bz := below_then bb'.out (Nat.le_refl _) hb5; have Zz := Z'.out.later hb5
            replace bb' := Lib.hid bz; replace s2' := Lib.hid (s2'.out.later hb5)
            have hNP := Lib.hid ((hR2.out.below hb5).numP (truth_small false).1 (truth_small false).2).limbs
            clear hcall hb5 hR2 Z'
            have f0 := Zz.fr 0; have d0 := Zz.c0; have f1 := Zz.fr 1; have d1 := Zz.c1; have f2 := Zz.fr 2; have d2 := Zz.c2; have f3 := Zz.fr 3; have d3 := Zz.c3; have f4 := Zz.fr 4; have d4 := Zz.c4; have f5 := Zz.fr 5; have d5 := Zz.c5; have f6 := Zz.fr 6; have d6 := Zz.c6
            have z5 := Zz.setAll (.int .u64 (orL x.L y.L : Nat)) (.int .i64 0) (.bool nb) (.slice po pn pc) (.slice qo qn qc) (.int .i64 0) (.slice none 0 0)
            have b5 := Lib.hid (below_setAll bz (B := w.heap.size + 2) (by omega) (.int .u64 (orL x.L y.L : Nat)) (.int .i64 0) (.bool nb) (.slice po pn pc) (.slice qo qn qc) (.int .i64 0) (.slice none 0 0))
            have g0 := z5.c0; have g1 := z5.c1; have g2 := z5.c2; have g3 := z5.c3; have g4 := z5.c4; have g5 := z5.c5; have g6 := z5.c6
            clear z5 Zz bz 
            go_wp2_with fail
            refine bodyPost_ret (v := .tuple #[.agg #[.int .u64 (orL x.L y.L : Nat), .int .i64 0, .bool nb, .slice po pn pc, .slice qo qn qc, .int .i64 0, .slice none 0 0], .int .i64 (0)]) (by simp [results, Tryz.results86, go_sem, g0, g1, g2, g3, g4, g5, g6]) rfl ?_
            rw [hEr2.out, ← hD2.out]
            exact ⟨⟨(fun q => [Value.int .u64 (orL x.L y.L : Nat), .int .i64 0, .bool nb, .slice po pn pc, .slice qo qn qc, .int .i64 0, .slice none 0 0].getD q undef), _, rfl, CellNQ.made rfl hor.out rfl isz_zero (hNP.out.keep (fun b hq _ => heap_set7' (s2'.out.ne hq) _ _ _ _ _ _ _) (fun b hq _ => Prov.limb hq bb'.out)) rfl isz_zero rfl isn_zero (.inl rfl), fun _ => rfl⟩, b5.out⟩
          · have hf1b : (f == 61) = false := by rw [beq_eq_false_iff_ne]; exact hf1
            by_cases hf2 : f = 8800
            · subst hf2
              have hsv := Lib.hid (show (!sameKC x y) = true from by rw [hsv0.out]; rfl)
              clear hf1 hf1b
              have hEr2 := Lib.hid (show EE = 0 from by rw [hEE'.out]; unfold cellE; rw [if_neg hnbh.out, if_neg hn0h.out, if_pos (.inr rfl)])
              have hD2 := Lib.hid (show (⟨orL x.L y.L, 0, numF (truthZ true) 1, 0, 0, fun _ => twoT 8800 d (innerT x) (innerT y)⟩ : CellD) = DD from by
                rw [hDD'.out]
                unfold twoD twoN
                rw [if_neg hnbh.out, if_neg hnbh.out, if_neg hnbh.out, if_neg hn0h.out, if_neg (by decide), show (!sameKC x y) = true from hsv.out])
              go_wp2_with fail
              refine (truth_any true _).mono ?_
              rintro e3 w3 ⟨nb, po, pn, pc, qo, qn, qc, rfl, R2, hb3⟩
              replace bb' := Lib.hid (below_then bb'.out (Nat.le_refl _) hb3); replace Z' := Lib.hid (Z'.out.later hb3); replace s2' := Lib.hid (s2'.out.later hb3)
              have hR2 := Lib.hid R2
              have hcall := Lib.hid (numbered_ok (orL x.L y.L) pn pc qn qc nb po qo w3)
              clear hb3 R2 X' Y' p1 q1
              go_wp2_with fail
              refine hcall.out.mono ?_
              rintro e5 w5 ⟨rfl, hb5⟩
              have bz := below_then bb'.out (Nat.le_refl _) hb5; have Zz := Z'.out.later hb5
              replace bb' := Lib.hid bz; replace s2' := Lib.hid (s2'.out.later hb5)
              have hNP := Lib.hid ((hR2.out.below hb5).numP (truth_small true).1 (truth_small true).2).limbs
              clear hcall hb5 hR2 Z'
              have f0 := Zz.fr 0; have d0 := Zz.c0; have f1 := Zz.fr 1; have d1 := Zz.c1; have f2 := Zz.fr 2; have d2 := Zz.c2; have f3 := Zz.fr 3; have d3 := Zz.c3; have f4 := Zz.fr 4; have d4 := Zz.c4; have f5 := Zz.fr 5; have d5 := Zz.c5; have f6 := Zz.fr 6; have d6 := Zz.c6
              have z5 := Zz.setAll (.int .u64 (orL x.L y.L : Nat)) (.int .i64 0) (.bool nb) (.slice po pn pc) (.slice qo qn qc) (.int .i64 0) (.slice none 0 0)
              have b5 := Lib.hid (below_setAll bz (B := w.heap.size + 2) (by omega) (.int .u64 (orL x.L y.L : Nat)) (.int .i64 0) (.bool nb) (.slice po pn pc) (.slice qo qn qc) (.int .i64 0) (.slice none 0 0))
              have g0 := z5.c0; have g1 := z5.c1; have g2 := z5.c2; have g3 := z5.c3; have g4 := z5.c4; have g5 := z5.c5; have g6 := z5.c6
              clear z5 Zz bz 
              go_wp2_with fail
              refine bodyPost_ret (v := .tuple #[.agg #[.int .u64 (orL x.L y.L : Nat), .int .i64 0, .bool nb, .slice po pn pc, .slice qo qn qc, .int .i64 0, .slice none 0 0], .int .i64 (0)]) (by simp [results, Tryz.results86, go_sem, g0, g1, g2, g3, g4, g5, g6]) rfl ?_
              rw [hEr2.out, ← hD2.out]
              exact ⟨⟨(fun q => [Value.int .u64 (orL x.L y.L : Nat), .int .i64 0, .bool nb, .slice po pn pc, .slice qo qn qc, .int .i64 0, .slice none 0 0].getD q undef), _, rfl, CellNQ.made rfl hor.out rfl isz_zero (hNP.out.keep (fun b hq _ => heap_set7' (s2'.out.ne hq) _ _ _ _ _ _ _) (fun b hq _ => Prov.limb hq bb'.out)) rfl isz_zero rfl isn_zero (.inl rfl), fun _ => rfl⟩, b5.out⟩
            · have hf2b : (f == 8800) = false := by rw [beq_eq_false_iff_ne]; exact hf2
              have hEr2 := Lib.hid (show EE = 3 from by rw [hEE'.out]; unfold cellE; rw [if_neg hnbh.out, if_neg hn0h.out, if_neg (by omega)])
              have bz := bb'.out; have Zz := Z'.out
              clear X' Y' Z' s2' bb'
              have f0 := Zz.fr 0; have d0 := Zz.c0; have f1 := Zz.fr 1; have d1 := Zz.c1; have f2 := Zz.fr 2; have d2 := Zz.c2; have f3 := Zz.fr 3; have d3 := Zz.c3; have f4 := Zz.fr 4; have d4 := Zz.c4; have f5 := Zz.fr 5; have d5 := Zz.c5; have f6 := Zz.fr 6; have d6 := Zz.c6
              have z5 := Zz.setAll (.int .u64 0) (.int .i64 0) (.bool false) (.slice none 0 0) (.slice none 0 0) (.int .i64 0) (.slice none 0 0)
              have b5 := Lib.hid (below_setAll bz (B := w.heap.size + 2) (by omega) (.int .u64 0) (.int .i64 0) (.bool false) (.slice none 0 0) (.slice none 0 0) (.int .i64 0) (.slice none 0 0))
              have g0 := z5.c0; have g1 := z5.c1; have g2 := z5.c2; have g3 := z5.c3; have g4 := z5.c4; have g5 := z5.c5; have g6 := z5.c6
              clear z5 Zz bz 
              go_wp2_with fail
              refine bodyPost_ret (v := .tuple #[.agg #[.int .u64 0, .int .i64 0, .bool false, .slice none 0 0, .slice none 0 0, .int .i64 0, .slice none 0 0], .int .i64 (3)]) (by simp [results, Tryz.results86, go_sem, g0, g1, g2, g3, g4, g5, g6]) rfl ?_
              rw [hEr2.out]
              exact cell_err (by decide) b5.out
        · clear hx2 hy2
          by_cases hCC : x.C = y.C
          · skip
            have hnbh := Lib.hid (show ¬ (x.K = 2 ∨ y.K = 2) by omega); have hn0h := Lib.hid (show ¬ (x.K = 0 ∧ y.K = 0) by omega)
            have p1 := X'.out.c1; have q1 := Y'.out.c1
            rw [hxk] at p1; rw [hyk] at q1
            have p5 := X'.out.c5; have q5 := Y'.out.c5
            have hsv0 := Lib.hid (show sameKC x y = true from decide_eq_true ⟨by omega, hCC⟩)
            rw [hCC] at p5
            clear hCC
            clear hxk hyk
            by_cases hf1 : f = 61
            · subst hf1
              have hsv := Lib.hid (show sameKC x y = true from hsv0.out)
              have hEr2 := Lib.hid (show EE = 0 from by rw [hEE'.out]; unfold cellE; rw [if_neg hnbh.out, if_neg hn0h.out, if_pos (.inl rfl)])
              have hD2 := Lib.hid (show (⟨orL x.L y.L, 0, numF (truthZ true) 1, 0, 0, fun _ => twoT 61 d (innerT x) (innerT y)⟩ : CellD) = DD from by
                rw [hDD'.out]
                unfold twoD twoN
                rw [if_neg hnbh.out, if_neg hnbh.out, if_neg hnbh.out, if_neg hn0h.out, if_pos rfl, show sameKC x y = true from hsv.out])
              go_wp2_with fail
              refine (truth_any true _).mono ?_
              rintro e3 w3 ⟨nb, po, pn, pc, qo, qn, qc, rfl, R2, hb3⟩
              replace bb' := Lib.hid (below_then bb'.out (Nat.le_refl _) hb3); replace Z' := Lib.hid (Z'.out.later hb3); replace s2' := Lib.hid (s2'.out.later hb3)
              have hR2 := Lib.hid R2
              have hcall := Lib.hid (numbered_ok (orL x.L y.L) pn pc qn qc nb po qo w3)
              clear hb3 R2 X' Y' p1 q1 p5 q5
              go_wp2_with fail
              refine hcall.out.mono ?_
              rintro e5 w5 ⟨rfl, hb5⟩
              have bz := below_then bb'.out (Nat.le_refl _) hb5; have Zz := Z'.out.later hb5
              replace bb' := Lib.hid bz; replace s2' := Lib.hid (s2'.out.later hb5)
              have hNP := Lib.hid ((hR2.out.below hb5).numP (truth_small true).1 (truth_small true).2).limbs
              clear hcall hb5 hR2 Z'
              have f0 := Zz.fr 0; have d0 := Zz.c0; have f1 := Zz.fr 1; have d1 := Zz.c1; have f2 := Zz.fr 2; have d2 := Zz.c2; have f3 := Zz.fr 3; have d3 := Zz.c3; have f4 := Zz.fr 4; have d4 := Zz.c4; have f5 := Zz.fr 5; have d5 := Zz.c5; have f6 := Zz.fr 6; have d6 := Zz.c6
              have z5 := Zz.setAll (.int .u64 (orL x.L y.L : Nat)) (.int .i64 0) (.bool nb) (.slice po pn pc) (.slice qo qn qc) (.int .i64 0) (.slice none 0 0)
              have b5 := Lib.hid (below_setAll bz (B := w.heap.size + 2) (by omega) (.int .u64 (orL x.L y.L : Nat)) (.int .i64 0) (.bool nb) (.slice po pn pc) (.slice qo qn qc) (.int .i64 0) (.slice none 0 0))
              have g0 := z5.c0; have g1 := z5.c1; have g2 := z5.c2; have g3 := z5.c3; have g4 := z5.c4; have g5 := z5.c5; have g6 := z5.c6
              clear z5 Zz bz 
              go_wp2_with fail
              refine bodyPost_ret (v := .tuple #[.agg #[.int .u64 (orL x.L y.L : Nat), .int .i64 0, .bool nb, .slice po pn pc, .slice qo qn qc, .int .i64 0, .slice none 0 0], .int .i64 (0)]) (by simp [results, Tryz.results86, go_sem, g0, g1, g2, g3, g4, g5, g6]) rfl ?_
              rw [hEr2.out, ← hD2.out]
              exact ⟨⟨(fun q => [Value.int .u64 (orL x.L y.L : Nat), .int .i64 0, .bool nb, .slice po pn pc, .slice qo qn qc, .int .i64 0, .slice none 0 0].getD q undef), _, rfl, CellNQ.made rfl hor.out rfl isz_zero (hNP.out.keep (fun b hq _ => heap_set7' (s2'.out.ne hq) _ _ _ _ _ _ _) (fun b hq _ => Prov.limb hq bb'.out)) rfl isz_zero rfl isn_zero (.inl rfl), fun _ => rfl⟩, b5.out⟩
            · have hf1b : (f == 61) = false := by rw [beq_eq_false_iff_ne]; exact hf1
              by_cases hf2 : f = 8800
              · subst hf2
                have hsv := Lib.hid (show (!sameKC x y) = false from by rw [hsv0.out]; rfl)
                clear hf1 hf1b
                have hEr2 := Lib.hid (show EE = 0 from by rw [hEE'.out]; unfold cellE; rw [if_neg hnbh.out, if_neg hn0h.out, if_pos (.inr rfl)])
                have hD2 := Lib.hid (show (⟨orL x.L y.L, 0, numF (truthZ false) 1, 0, 0, fun _ => twoT 8800 d (innerT x) (innerT y)⟩ : CellD) = DD from by
                  rw [hDD'.out]
                  unfold twoD twoN
                  rw [if_neg hnbh.out, if_neg hnbh.out, if_neg hnbh.out, if_neg hn0h.out, if_neg (by decide), show (!sameKC x y) = false from hsv.out])
                go_wp2_with fail
                refine (truth_any false _).mono ?_
                rintro e3 w3 ⟨nb, po, pn, pc, qo, qn, qc, rfl, R2, hb3⟩
                replace bb' := Lib.hid (below_then bb'.out (Nat.le_refl _) hb3); replace Z' := Lib.hid (Z'.out.later hb3); replace s2' := Lib.hid (s2'.out.later hb3)
                have hR2 := Lib.hid R2
                have hcall := Lib.hid (numbered_ok (orL x.L y.L) pn pc qn qc nb po qo w3)
                clear hb3 R2 X' Y' p1 q1 p5 q5
                go_wp2_with fail
                refine hcall.out.mono ?_
                rintro e5 w5 ⟨rfl, hb5⟩
                have bz := below_then bb'.out (Nat.le_refl _) hb5; have Zz := Z'.out.later hb5
                replace bb' := Lib.hid bz; replace s2' := Lib.hid (s2'.out.later hb5)
                have hNP := Lib.hid ((hR2.out.below hb5).numP (truth_small false).1 (truth_small false).2).limbs
                clear hcall hb5 hR2 Z'
                have f0 := Zz.fr 0; have d0 := Zz.c0; have f1 := Zz.fr 1; have d1 := Zz.c1; have f2 := Zz.fr 2; have d2 := Zz.c2; have f3 := Zz.fr 3; have d3 := Zz.c3; have f4 := Zz.fr 4; have d4 := Zz.c4; have f5 := Zz.fr 5; have d5 := Zz.c5; have f6 := Zz.fr 6; have d6 := Zz.c6
                have z5 := Zz.setAll (.int .u64 (orL x.L y.L : Nat)) (.int .i64 0) (.bool nb) (.slice po pn pc) (.slice qo qn qc) (.int .i64 0) (.slice none 0 0)
                have b5 := Lib.hid (below_setAll bz (B := w.heap.size + 2) (by omega) (.int .u64 (orL x.L y.L : Nat)) (.int .i64 0) (.bool nb) (.slice po pn pc) (.slice qo qn qc) (.int .i64 0) (.slice none 0 0))
                have g0 := z5.c0; have g1 := z5.c1; have g2 := z5.c2; have g3 := z5.c3; have g4 := z5.c4; have g5 := z5.c5; have g6 := z5.c6
                clear z5 Zz bz 
                go_wp2_with fail
                refine bodyPost_ret (v := .tuple #[.agg #[.int .u64 (orL x.L y.L : Nat), .int .i64 0, .bool nb, .slice po pn pc, .slice qo qn qc, .int .i64 0, .slice none 0 0], .int .i64 (0)]) (by simp [results, Tryz.results86, go_sem, g0, g1, g2, g3, g4, g5, g6]) rfl ?_
                rw [hEr2.out, ← hD2.out]
                exact ⟨⟨(fun q => [Value.int .u64 (orL x.L y.L : Nat), .int .i64 0, .bool nb, .slice po pn pc, .slice qo qn qc, .int .i64 0, .slice none 0 0].getD q undef), _, rfl, CellNQ.made rfl hor.out rfl isz_zero (hNP.out.keep (fun b hq _ => heap_set7' (s2'.out.ne hq) _ _ _ _ _ _ _) (fun b hq _ => Prov.limb hq bb'.out)) rfl isz_zero rfl isn_zero (.inl rfl), fun _ => rfl⟩, b5.out⟩
              · have hf2b : (f == 8800) = false := by rw [beq_eq_false_iff_ne]; exact hf2
                have hEr2 := Lib.hid (show EE = 3 from by rw [hEE'.out]; unfold cellE; rw [if_neg hnbh.out, if_neg hn0h.out, if_neg (by omega)])
                have bz := bb'.out; have Zz := Z'.out
                clear X' Y' Z' s2' bb'
                have f0 := Zz.fr 0; have d0 := Zz.c0; have f1 := Zz.fr 1; have d1 := Zz.c1; have f2 := Zz.fr 2; have d2 := Zz.c2; have f3 := Zz.fr 3; have d3 := Zz.c3; have f4 := Zz.fr 4; have d4 := Zz.c4; have f5 := Zz.fr 5; have d5 := Zz.c5; have f6 := Zz.fr 6; have d6 := Zz.c6
                have z5 := Zz.setAll (.int .u64 0) (.int .i64 0) (.bool false) (.slice none 0 0) (.slice none 0 0) (.int .i64 0) (.slice none 0 0)
                have b5 := Lib.hid (below_setAll bz (B := w.heap.size + 2) (by omega) (.int .u64 0) (.int .i64 0) (.bool false) (.slice none 0 0) (.slice none 0 0) (.int .i64 0) (.slice none 0 0))
                have g0 := z5.c0; have g1 := z5.c1; have g2 := z5.c2; have g3 := z5.c3; have g4 := z5.c4; have g5 := z5.c5; have g6 := z5.c6
                clear z5 Zz bz 
                go_wp2_with fail
                refine bodyPost_ret (v := .tuple #[.agg #[.int .u64 0, .int .i64 0, .bool false, .slice none 0 0, .slice none 0 0, .int .i64 0, .slice none 0 0], .int .i64 (3)]) (by simp [results, Tryz.results86, go_sem, g0, g1, g2, g3, g4, g5, g6]) rfl ?_
                rw [hEr2.out]
                exact cell_err (by decide) b5.out
          · skip
            have hnbh := Lib.hid (show ¬ (x.K = 2 ∨ y.K = 2) by omega); have hn0h := Lib.hid (show ¬ (x.K = 0 ∧ y.K = 0) by omega)
            have p1 := X'.out.c1; have q1 := Y'.out.c1
            rw [hxk] at p1; rw [hyk] at q1
            have p5 := X'.out.c5; have q5 := Y'.out.c5
            have hsv0 := Lib.hid (show sameKC x y = false from decide_eq_false fun h => hCC h.2)
            have hCb : (x.C == y.C) = false := by rw [beq_eq_false_iff_ne]; exact hCC
            clear hCC
            clear hxk hyk
            by_cases hf1 : f = 61
            · subst hf1
              have hsv := Lib.hid (show sameKC x y = false from hsv0.out)
              have hEr2 := Lib.hid (show EE = 0 from by rw [hEE'.out]; unfold cellE; rw [if_neg hnbh.out, if_neg hn0h.out, if_pos (.inl rfl)])
              have hD2 := Lib.hid (show (⟨orL x.L y.L, 0, numF (truthZ false) 1, 0, 0, fun _ => twoT 61 d (innerT x) (innerT y)⟩ : CellD) = DD from by
                rw [hDD'.out]
                unfold twoD twoN
                rw [if_neg hnbh.out, if_neg hnbh.out, if_neg hnbh.out, if_neg hn0h.out, if_pos rfl, show sameKC x y = false from hsv.out])
              go_wp2_with fail
              refine (truth_any false _).mono ?_
              rintro e3 w3 ⟨nb, po, pn, pc, qo, qn, qc, rfl, R2, hb3⟩
              replace bb' := Lib.hid (below_then bb'.out (Nat.le_refl _) hb3); replace Z' := Lib.hid (Z'.out.later hb3); replace s2' := Lib.hid (s2'.out.later hb3)
              have hR2 := Lib.hid R2
              have hcall := Lib.hid (numbered_ok (orL x.L y.L) pn pc qn qc nb po qo w3)
              clear hb3 R2 X' Y' p1 q1 p5 q5
              go_wp2_with fail
              refine hcall.out.mono ?_
              rintro e5 w5 ⟨rfl, hb5⟩
              have bz := below_then bb'.out (Nat.le_refl _) hb5; have Zz := Z'.out.later hb5
              replace bb' := Lib.hid bz; replace s2' := Lib.hid (s2'.out.later hb5)
              have hNP := Lib.hid ((hR2.out.below hb5).numP (truth_small false).1 (truth_small false).2).limbs
              clear hcall hb5 hR2 Z'
              have f0 := Zz.fr 0; have d0 := Zz.c0; have f1 := Zz.fr 1; have d1 := Zz.c1; have f2 := Zz.fr 2; have d2 := Zz.c2; have f3 := Zz.fr 3; have d3 := Zz.c3; have f4 := Zz.fr 4; have d4 := Zz.c4; have f5 := Zz.fr 5; have d5 := Zz.c5; have f6 := Zz.fr 6; have d6 := Zz.c6
              have z5 := Zz.setAll (.int .u64 (orL x.L y.L : Nat)) (.int .i64 0) (.bool nb) (.slice po pn pc) (.slice qo qn qc) (.int .i64 0) (.slice none 0 0)
              have b5 := Lib.hid (below_setAll bz (B := w.heap.size + 2) (by omega) (.int .u64 (orL x.L y.L : Nat)) (.int .i64 0) (.bool nb) (.slice po pn pc) (.slice qo qn qc) (.int .i64 0) (.slice none 0 0))
              have g0 := z5.c0; have g1 := z5.c1; have g2 := z5.c2; have g3 := z5.c3; have g4 := z5.c4; have g5 := z5.c5; have g6 := z5.c6
              clear z5 Zz bz 
              go_wp2_with fail
              refine bodyPost_ret (v := .tuple #[.agg #[.int .u64 (orL x.L y.L : Nat), .int .i64 0, .bool nb, .slice po pn pc, .slice qo qn qc, .int .i64 0, .slice none 0 0], .int .i64 (0)]) (by simp [results, Tryz.results86, go_sem, g0, g1, g2, g3, g4, g5, g6]) rfl ?_
              rw [hEr2.out, ← hD2.out]
              exact ⟨⟨(fun q => [Value.int .u64 (orL x.L y.L : Nat), .int .i64 0, .bool nb, .slice po pn pc, .slice qo qn qc, .int .i64 0, .slice none 0 0].getD q undef), _, rfl, CellNQ.made rfl hor.out rfl isz_zero (hNP.out.keep (fun b hq _ => heap_set7' (s2'.out.ne hq) _ _ _ _ _ _ _) (fun b hq _ => Prov.limb hq bb'.out)) rfl isz_zero rfl isn_zero (.inl rfl), fun _ => rfl⟩, b5.out⟩
            · have hf1b : (f == 61) = false := by rw [beq_eq_false_iff_ne]; exact hf1
              by_cases hf2 : f = 8800
              · subst hf2
                have hsv := Lib.hid (show (!sameKC x y) = true from by rw [hsv0.out]; rfl)
                clear hf1 hf1b
                have hEr2 := Lib.hid (show EE = 0 from by rw [hEE'.out]; unfold cellE; rw [if_neg hnbh.out, if_neg hn0h.out, if_pos (.inr rfl)])
                have hD2 := Lib.hid (show (⟨orL x.L y.L, 0, numF (truthZ true) 1, 0, 0, fun _ => twoT 8800 d (innerT x) (innerT y)⟩ : CellD) = DD from by
                  rw [hDD'.out]
                  unfold twoD twoN
                  rw [if_neg hnbh.out, if_neg hnbh.out, if_neg hnbh.out, if_neg hn0h.out, if_neg (by decide), show (!sameKC x y) = true from hsv.out])
                go_wp2_with fail
                refine (truth_any true _).mono ?_
                rintro e3 w3 ⟨nb, po, pn, pc, qo, qn, qc, rfl, R2, hb3⟩
                replace bb' := Lib.hid (below_then bb'.out (Nat.le_refl _) hb3); replace Z' := Lib.hid (Z'.out.later hb3); replace s2' := Lib.hid (s2'.out.later hb3)
                have hR2 := Lib.hid R2
                have hcall := Lib.hid (numbered_ok (orL x.L y.L) pn pc qn qc nb po qo w3)
                clear hb3 R2 X' Y' p1 q1 p5 q5
                go_wp2_with fail
                refine hcall.out.mono ?_
                rintro e5 w5 ⟨rfl, hb5⟩
                have bz := below_then bb'.out (Nat.le_refl _) hb5; have Zz := Z'.out.later hb5
                replace bb' := Lib.hid bz; replace s2' := Lib.hid (s2'.out.later hb5)
                have hNP := Lib.hid ((hR2.out.below hb5).numP (truth_small true).1 (truth_small true).2).limbs
                clear hcall hb5 hR2 Z'
                have f0 := Zz.fr 0; have d0 := Zz.c0; have f1 := Zz.fr 1; have d1 := Zz.c1; have f2 := Zz.fr 2; have d2 := Zz.c2; have f3 := Zz.fr 3; have d3 := Zz.c3; have f4 := Zz.fr 4; have d4 := Zz.c4; have f5 := Zz.fr 5; have d5 := Zz.c5; have f6 := Zz.fr 6; have d6 := Zz.c6
                have z5 := Zz.setAll (.int .u64 (orL x.L y.L : Nat)) (.int .i64 0) (.bool nb) (.slice po pn pc) (.slice qo qn qc) (.int .i64 0) (.slice none 0 0)
                have b5 := Lib.hid (below_setAll bz (B := w.heap.size + 2) (by omega) (.int .u64 (orL x.L y.L : Nat)) (.int .i64 0) (.bool nb) (.slice po pn pc) (.slice qo qn qc) (.int .i64 0) (.slice none 0 0))
                have g0 := z5.c0; have g1 := z5.c1; have g2 := z5.c2; have g3 := z5.c3; have g4 := z5.c4; have g5 := z5.c5; have g6 := z5.c6
                clear z5 Zz bz 
                go_wp2_with fail
                refine bodyPost_ret (v := .tuple #[.agg #[.int .u64 (orL x.L y.L : Nat), .int .i64 0, .bool nb, .slice po pn pc, .slice qo qn qc, .int .i64 0, .slice none 0 0], .int .i64 (0)]) (by simp [results, Tryz.results86, go_sem, g0, g1, g2, g3, g4, g5, g6]) rfl ?_
                rw [hEr2.out, ← hD2.out]
                exact ⟨⟨(fun q => [Value.int .u64 (orL x.L y.L : Nat), .int .i64 0, .bool nb, .slice po pn pc, .slice qo qn qc, .int .i64 0, .slice none 0 0].getD q undef), _, rfl, CellNQ.made rfl hor.out rfl isz_zero (hNP.out.keep (fun b hq _ => heap_set7' (s2'.out.ne hq) _ _ _ _ _ _ _) (fun b hq _ => Prov.limb hq bb'.out)) rfl isz_zero rfl isn_zero (.inl rfl), fun _ => rfl⟩, b5.out⟩
              · have hf2b : (f == 8800) = false := by rw [beq_eq_false_iff_ne]; exact hf2
                have hEr2 := Lib.hid (show EE = 3 from by rw [hEE'.out]; unfold cellE; rw [if_neg hnbh.out, if_neg hn0h.out, if_neg (by omega)])
                have bz := bb'.out; have Zz := Z'.out
                clear X' Y' Z' s2' bb'
                have f0 := Zz.fr 0; have d0 := Zz.c0; have f1 := Zz.fr 1; have d1 := Zz.c1; have f2 := Zz.fr 2; have d2 := Zz.c2; have f3 := Zz.fr 3; have d3 := Zz.c3; have f4 := Zz.fr 4; have d4 := Zz.c4; have f5 := Zz.fr 5; have d5 := Zz.c5; have f6 := Zz.fr 6; have d6 := Zz.c6
                have z5 := Zz.setAll (.int .u64 0) (.int .i64 0) (.bool false) (.slice none 0 0) (.slice none 0 0) (.int .i64 0) (.slice none 0 0)
                have b5 := Lib.hid (below_setAll bz (B := w.heap.size + 2) (by omega) (.int .u64 0) (.int .i64 0) (.bool false) (.slice none 0 0) (.slice none 0 0) (.int .i64 0) (.slice none 0 0))
                have g0 := z5.c0; have g1 := z5.c1; have g2 := z5.c2; have g3 := z5.c3; have g4 := z5.c4; have g5 := z5.c5; have g6 := z5.c6
                clear z5 Zz bz 
                go_wp2_with fail
                refine bodyPost_ret (v := .tuple #[.agg #[.int .u64 0, .int .i64 0, .bool false, .slice none 0 0, .slice none 0 0, .int .i64 0, .slice none 0 0], .int .i64 (3)]) (by simp [results, Tryz.results86, go_sem, g0, g1, g2, g3, g4, g5, g6]) rfl ?_
                rw [hEr2.out]
                exact cell_err (by decide) b5.out

/-- Both, of any right arrays. -/
theorem twoP_all (f : Int) (hf : f ∈ twosZ) : ∀ d, TwoOfP f d
  | 0 => twoP_t f hf 0 (twoCellsP_of f 0 fun d' h => by omega)
  | d + 1 => twoP_t f hf (d + 1) (twoCellsP_of f (d + 1) fun d' h => by
      obtain rfl : d' = d := by omega
      exact twoP_all f hf d')

end Go.Proofs.YtaepelipkkmeaaaGreat
