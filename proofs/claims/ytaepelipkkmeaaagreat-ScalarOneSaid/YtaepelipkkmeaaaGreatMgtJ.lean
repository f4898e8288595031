/-
  scrimlaw10.awake, of the project's functions.
  What package scalar's functions tell, as the statements' walks ask it; scrimlaw10.awake.
-/
import Derived.Test.YtaepelipkkmeaaaGreatMgtA
import Derived.Test.YtaepelipkkmeaaaGreatMgtB
import Derived.Test.YtaepelipkkmeaaaGreatMgtC
import Derived.Test.YtaepelipkkmeaaaGreatMgtD
import Derived.Test.YtaepelipkkmeaaaGreatMgtE
import Derived.Test.YtaepelipkkmeaaaGreatMgtF
import Derived.Test.YtaepelipkkmeaaaGreatMgtG
import Derived.Test.YtaepelipkkmeaaaGreatMgtH
import Derived.Test.YtaepelipkkmeaaaGreatMgtI
import Derived.Deep.LoopGhost
import Derived.OpenShut
import Derived.SizedLaws
import Derived.WalkKit
import Derived.Lib.BitFns
import Derived.Laws.AppendOwn
import Derived.Deep.AppendLies
import Derived.Deep.RegionHeld3
import Derived.Deep.CutRange
import Derived.BigQuiet
import Derived.Deep.DrawnRows
import Derived.Laws.OwnMore
import Derived.Deep.RegionWith
import Derived.WalkSpells
import Derived.WalkLawsBesides
import Derived.Lib.Hide
import Derived.Laws.CopyOwn
import Derived.Lib.Small
import Derived.Lib.Walk
import Derived.Deep.QuietTactic
import Derived.Lib.SliceRun
import Derived.Deep.RegionLaw
set_option maxRecDepth 20000
set_option maxHeartbeats 16000000
namespace Go.Proofs.YtaepelipkkmeaaaGreat
open Go.RowKit Num
def cs2 (M N : NumF) (i : Nat) : CellD := if i = 0 then ⟨0, 0, M, 0, 0, fun _ => .leaf⟩ else ⟨0, 0, N, 0, 0, fun _ => .leaf⟩
theorem two_cells {P : Nat → Prop} (h0 : P 0) (h1 : P 1) : ∀ i, i < 2 → P i := fun i hi => by
 have : i = 0 ∨ i = 1 := by omega
 rcases this with rfl | rfl
 ·exact h0
 ·exact h1
def row14 (e0 e1 : Nat → Value) : Array Value := #[e0 0, e0 1, e0 2, e0 3, e0 4, e0 5, e0 6, e1 0, e1 1, e1 2, e1 3, e1 4, e1 5, e1 6]
theorem cells_new2 {w : World} {B : Nat} {M N : NumF} {e0 e1 : Nat → Value} (t : TypeId) (hB : B = w.heap.size) (h0 : CellR w ⟨0, 0, M, 0, 0, fun _ => .leaf⟩ e0) (h1 : CellR w ⟨0, 0, N, 0, 0, fun _ => .leaf⟩ e1) :
  CellsP (w.alloc (.cells (row14 e0 e1) t)) (some ⟨B, 0, none⟩) 2 (cs2 M N) := by
 subst hB
 have hb : Below w.heap.size w (w.alloc (.cells (row14 e0 e1) t)) := (Below.refl _ _).alloc (Nat.le_refl _) _
 have hc : ∀ j u, (row14 e0 e1)[j]? = some u → (w.alloc (.cells (row14 e0 e1) t)).cell? ⟨w.heap.size, j, none⟩ = some u := fun j u hj => by rw [World.cell?_alloc_new]; exact hj
 refine .inr ⟨_, 0, rfl, two_cells ⟨e0, fun t ht => ?_, h0.later hb⟩ ⟨e1, fun t ht => ?_, h1.later hb⟩⟩
 all_goals
  have : t = 0 ∨ t = 1 ∨ t = 2 ∨ t = 3 ∨ t = 4 ∨ t = 5 ∨ t = 6 := by omega
  rcases this with rfl | rfl | rfl | rfl | rfl | rfl | rfl <;> exact hc _ _ rfl
theorem vec2_shape : Shape (fun _ => ((2 : Nat) : Int)) 1 ((2 : Nat) : Int) := ⟨by decide, fun _ _ => by decide, fun _ _ => by decide, rfl, by decide⟩
theorem OfZ.right1 {N : NumF} {n : Int} (h : OfZ N n) (hz : n.natAbs < pw 1) : RightF N := ⟨n, 1, low_one (Nat.lt_of_lt_of_le hz (pw_le (by omega))), h.1, h.2.1, h.2.2⟩
theorem OfZ.top {N : NumF} {n : Int} (h : OfZ N n) : topF N = n ∧ botF N = 1 := ⟨topF_of h.1 h.2.1.val, h.2.2.val⟩
theorem vec2_few {M N : NumF} (hM : OfZ M 1) (hN : OfZ N 2) : FewT (vecT 2 (cs2 M N)) := by
 obtain ⟨a1, a2⟩ := hM.few (by decide)
 obtain ⟨b1, b2⟩ := hN.few (by decide)
 refine ⟨?_, two_cells (fun j hj => absurd hj (Nat.not_lt_zero _)) (fun j hj => absurd hj (Nat.not_lt_zero _))⟩
 show 1 + 1 + (0 + (1 + M.an + M.am + 0) + (1 + N.an + N.am + 0)) ≤ 4000
 omega
theorem vec2_parts {M N : NumF} (hM : OfZ M 1) (hN : OfZ N 2) : partsT (vecT 2 (cs2 M N)) ≤ 5000 := Nat.le_trans (vec2_few hM hN).1 (by decide)
theorem vec2_right {M N : NumF} (hM : OfZ M 1) (hN : OfZ N 2) : RightT (vecT 2 (cs2 M N)) 8 :=
 ⟨vec2_shape, two_cells (.inl ⟨rfl, rfl, rfl, hM.right1 (by decide)⟩) (.inl ⟨rfl, rfl, rfl, hN.right1 (by decide)⟩)⟩
theorem awake_num {P R : Int} (hP : P = 1 ∨ P = 2) (hR : R = 10) : num2R 43 P 1 R 1 = (P + 10, 1, 0) := by
 have hl : Low (P + 10) 1 := low_one (Nat.lt_of_lt_of_le (show (P + 10).natAbs < pw 1 from by rcases hP with rfl | rfl <;> decide) (pw_le (by omega)))
 obtain ⟨h1, h2, h3⟩ := mk_of_low (p := P * ((1 : Nat) : Int) + R * ((1 : Nat) : Int)) (q := ((1 : Nat) : Int) * ((1 : Nat) : Int)) hl (by decide) (by subst hR; omega)
 unfold num2R
 rw [if_pos rfl, h1, h2, h3]
theorem awake_two {M N K : NumF} (hM : OfZ M 1) (hN : OfZ N 2) (hK : OfZ K 10) :
  twoR 43 9 (vecT 2 (cs2 M N)) (scalarT ⟨4, 0, K, 0, 0, fun _ => .leaf⟩) = 0 ∧ ∃ (S : Nat) (sh : Nat → Int) (L : Nat → Nat) (KK CC : Nat → Int) (NN : Nat → NumF) (k : Nat → Nat) (sub : Nat → Nat → Tree),
   twoT 43 9 (vecT 2 (cs2 M N)) (scalarT ⟨4, 0, K, 0, 0, fun _ => .leaf⟩) = .arr S 1 sh 2 L KK CC NN k sub ∧ L 1 = 4 ∧ NN 1 = numF 12 1 ∧ KK 1 = 0 ∧ CC 1 = 0 ∧ (∀ i, i < 2 → k i = 0) := by
 have e1 : num2R 43 (topF M) (botF M) (topF K) (botF K) = (1 + 10, 1, 0) := by rw [hM.top.1, hM.top.2, hK.top.1, hK.top.2]; exact awake_num (.inl rfl) rfl
 have e2 : num2R 43 (topF N) (botF N) (topF K) (botF K) = (2 + 10, 1, 0) := by rw [hN.top.1, hN.top.2, hK.top.1, hK.top.2]; exact awake_num (.inr rfl) rfl
 have nb : ∀ x y : CellD, x.K = 0 → y.K = 0 → ¬ (x.K = 2 ∨ y.K = 2) := fun x y hx hy => by omega
 constructor
 ·unfold twoR
  rw [if_pos (by decide)]
  unfold twoE
  rw [if_pos (by rfl)]
  refine (firstE_zero _).2 (two_cells ?_ ?_)
  ·show cellE 43 ⟨0, 0, M, 0, 0, fun _ => .leaf⟩ ⟨4, 0, K, 0, 0, fun _ => .leaf⟩ _ = 0
   unfold cellE
   rw [if_neg (nb _ _ rfl rfl), if_pos ⟨rfl, rfl⟩, e1]
  ·show cellE 43 ⟨0, 0, N, 0, 0, fun _ => .leaf⟩ ⟨4, 0, K, 0, 0, fun _ => .leaf⟩ _ = 0
   unfold cellE
   rw [if_neg (nb _ _ rfl rfl), if_pos ⟨rfl, rfl⟩, e2]
 ·refine ⟨_, _, _, _, _, _, _, _, rfl, ?_, ?_, ?_, ?_, two_cells ?_ ?_⟩
  ·show orL 0 4 = 4
   decide
  ·show twoN 43 ⟨0, 0, N, 0, 0, fun _ => .leaf⟩ ⟨4, 0, K, 0, 0, fun _ => .leaf⟩ = numF 12 1
   unfold twoN
   rw [if_neg (nb _ _ rfl rfl), if_pos ⟨rfl, rfl⟩, e2]
   rfl
  ·rfl
  ·rfl
  ·rfl
  ·rfl
theorem awake10_any (hI : IntAC) (hV : VectorC) (hL : ScalarC) (hT : TwoSC) (w : World) : Calls Tryz.prog 16 #[] w (Tell (.bool true) w) := by
 replace hI := Lib.hid hI; replace hV := Lib.hid hV; replace hL := Lib.hid hL; replace hT := Lib.hid hT
 go_enter Tryz.func16, Tryz.ntmps16
 go_wp2_with fail
 refine (hI.out 10 w ⟨by decide, by decide⟩).mono ?_
 rintro e w1 ⟨K10, hK, hp⟩
 obtain ⟨bo, co, io, bc, cc, kc, rfl, hc, hb⟩ := hp.form
 replace hc := Lib.hid hc; replace hK := Lib.hid hK; replace hb := Lib.hid hb
 clear hp
 obtain ⟨tenD, htD⟩ : ∃ tenD : CellD, tenD = ⟨4, 0, K10, 0, 0, fun _ => .leaf⟩ := ⟨_, rfl⟩
 have ten_few := Lib.hid (show FewT (scalarT tenD) from by
  rw [htD]
  obtain ⟨a1, a2⟩ := hK.out.few (by decide)
  refine ⟨?_, fun i hi j hj => absurd hj (Nat.not_lt_zero _)⟩
  show 1 + 0 + (0 + (1 + K10.an + K10.am + 0)) ≤ 4000
  omega)
 have ten_parts := Lib.hid (Nat.le_trans ten_few.out.1 (by decide : 4000 ≤ 5000))
 have ten_right := Lib.hid (show RightT (scalarT tenD) 8 from by
  rw [htD]
  refine ⟨shape_nil, fun i hi => .inl ⟨rfl, rfl, rfl, hK.out.right1 (by decide)⟩⟩)
 have htD' := Lib.hid htD
 go_upto_region 3 with fail
 refine told_wp (fun w' => Below w.heap.size w w' ∧ Box7 w' w1.heap.size (.int .u64 4) (.int .i64 0) (.bool K10.neg) (.slice bo K10.an bc) (.slice co K10.am cc) (.int .i64 0) (.slice io 0 kc) ∧ CellR w' tenD (fun t => (#[.int .u64 4, .int .i64 0, .bool K10.neg, .slice bo K10.an bc, .slice co K10.am cc, .int .i64 0, .slice io 0 kc] : Array Value).getD t (.bool false))) ⟨hb.out.alloc hb.out.size _, Box7.new _ _ _ _ _ _ _ _ rfl, ?_⟩ ?_
 ·have h2 := hc.out.later ((Below.refl w1.heap.size w1).alloc (Nat.le_refl _) (.cells #[.int .u64 4, .int .i64 0, .bool K10.neg, .slice bo K10.an bc, .slice co K10.am cc, .int .i64 0, .slice io 0 kc] 65))
  obtain ⟨_, _, h2⟩ := h2
  rw [htD]
  exact ⟨rfl, by show (4 : Nat) < 18446744073709551616; decide, h2⟩
 clear hc hb htD
 rintro u0 ⟨bb, x, cT⟩
 go_cut [2, 3] from 6 to 15 (fun s2 e3 wx => ∃ (B : Nat) (M N : NumF) (S n nc m mc : Nat) (ao co' : Option Addr), s2 = .pointer (some ⟨B, 0, none⟩) ∧ e3 = .int .i64 0 ∧ OfZ M 1 ∧ OfZ N 2 ∧ Box3 wx B (.int .u64 S) (.slice ao n nc) (.slice co' m mc) ∧ ArrP wx (twoT 43 9 (vecT 2 (cs2 M N)) (scalarT tenD)) (.int .u64 S) (.slice ao n nc) (.slice co' m mc) ∧ Below w.heap.size w wx)
 case first =>
  have bs := bb.size; have lx := x.lt
  have sa0 := True.intro
  go_region_held3 (fun w' => w'.cell? ⟨w1.heap.size, 0, none⟩ = some (.int .u64 4) ∧ w'.cell? ⟨w1.heap.size, 1, none⟩ = some (.int .i64 0) ∧ w'.cell? ⟨w1.heap.size, 2, none⟩ = some (.bool K10.neg) ∧ w'.cell? ⟨w1.heap.size, 3, none⟩ = some (.slice bo K10.an bc) ∧ w'.cell? ⟨w1.heap.size, 4, none⟩ = some (.slice co K10.am cc) ∧ w'.cell? ⟨w1.heap.size, 5, none⟩ = some (.int .i64 0) ∧ w'.cell? ⟨w1.heap.size, 6, none⟩ = some (.slice io 0 kc))
   (first | with_reducible exact ⟨x.c0, x.c1, x.c2, x.c3, x.c4, x.c5, x.c6⟩ | with_reducible exact ⟨x.drew.c0, x.drew.c1, x.drew.c2, x.drew.c3, x.drew.c4, x.drew.c5, x.drew.c6⟩ | with_reducible exact ⟨(x.alloc _).c0, (x.alloc _).c1, (x.alloc _).c2, (x.alloc _).c3, (x.alloc _).c4, (x.alloc _).c5, (x.alloc _).c6⟩ | with_reducible exact ⟨(x.alloc _).drew.c0, (x.alloc _).drew.c1, (x.alloc _).drew.c2, (x.alloc _).drew.c3, (x.alloc _).drew.c4, (x.alloc _).drew.c5, (x.alloc _).drew.c6⟩ | with_reducible exact ⟨((x.alloc _).alloc _).c0, ((x.alloc _).alloc _).c1, ((x.alloc _).alloc _).c2, ((x.alloc _).alloc _).c3, ((x.alloc _).alloc _).c4, ((x.alloc _).alloc _).c5, ((x.alloc _).alloc _).c6⟩ | with_reducible exact ⟨(((x.aside (by omega) 0 _).aside (by omega) 1 _).aside (by omega) 2 _).c0, (((x.aside (by omega) 0 _).aside (by omega) 1 _).aside (by omega) 2 _).c1, (((x.aside (by omega) 0 _).aside (by omega) 1 _).aside (by omega) 2 _).c2, (((x.aside (by omega) 0 _).aside (by omega) 1 _).aside (by omega) 2 _).c3, (((x.aside (by omega) 0 _).aside (by omega) 1 _).aside (by omega) 2 _).c4, (((x.aside (by omega) 0 _).aside (by omega) 1 _).aside (by omega) 2 _).c5, (((x.aside (by omega) 0 _).aside (by omega) 1 _).aside (by omega) 2 _).c6⟩ | go_keep)
   (first
   | (go_at_call 44; clear sa0; refine (hI.out 1 _ ⟨by decide, by decide⟩).mono ?_; rintro e u1 ⟨M, hM, hp⟩; obtain ⟨bo0, co0, io0, bc0, cc0, kc0, rfl, c0, hb⟩ := hp.form; have hc : Below u0.heap.size u0 u1 := (by first | exact (Below.refl _ _).drew.trans hb | exact ((Below.refl _ _).alloc (by first | exact Nat.le_refl _ | (simp; done) | (simp; omega)) _).drew.trans (hb.mono (by simp <;> omega))); have x := x.later hc; have lx1 := x.lt; have cT := cT.later hc; have bb := below_then bb (Nat.le_refl _) hc; have bs1 := bb.size; (try (with_reducible have m1 := made13' hb)); (try have l11 := m1.lt); clear hb hc hp; have sa1 := True.intro)
   | (go_at_call 44; clear sa1; refine (hI.out 2 _ ⟨by decide, by decide⟩).mono ?_; rintro e u2 ⟨N, hN, hp⟩; obtain ⟨bo2, co2, io2, bc2, cc2, kc2, rfl, c2, hb⟩ := hp.form; have hc : Below u1.heap.size u1 u2 := (by first | with_reducible exact hb | exact ((Below.refl _ _).alloc (by first | exact Nat.le_refl _ | (simp; done) | (simp; omega)) _).trans (hb.mono (by simp <;> omega))); have x := x.later hc; have lx2 := x.lt; have cT := cT.later hc; have c0 := c0.later hc; have bb := below_then bb (Nat.le_refl _) hc; have bs2 := bb.size; (try have m1 := m1.later hc); (try (with_reducible have m2 := made13 hb)); (try have l21 := m1.lt); (try have l22 := m2.lt); clear hb hc hp; have sa2 := True.intro)
   | (go_at_call 45; clear sa2; refine (hV.out (cs2 M N) _ 2 2 _ ⟨by decide, by decide, by decide⟩ ?_ (vec2_parts hM hN)).mono ?_; (first | exact cells_new2 _ rfl c0 c2 | exact cells_new2 _ (by simp) (c0.later ((Below.refl _ _).alloc (Nat.le_refl _) _)) (c2.later ((Below.refl _ _).alloc (Nat.le_refl _) _)) | exact (cells_new2 _ rfl c0 c2).later ((Below.refl _ _).alloc (Nat.le_refl _) _)); rintro e u3 hp; obtain ⟨Sv, nv, ncv, mv, mcv, aov, cov, rfl, hVv, hb⟩ := hp.form; have hc : Below u2.heap.size u2 u3 := (by first | exact ((Below.refl _ _).alloc (by first | exact Nat.le_refl _ | (simp; done) | (simp; omega)) _).trans (hb.mono (by simp <;> omega)) | exact (((Below.refl _ _).alloc (by first | exact Nat.le_refl _ | (simp; done) | (simp; omega)) _).alloc (by first | exact Nat.le_refl _ | (simp; done) | (simp; omega)) _).trans (hb.mono (by simp <;> omega))); have x := x.later hc; have lx3 := x.lt; have cT := cT.later hc; have bb := below_then bb (Nat.le_refl _) hc; have bs3 := bb.size; (try have m1 := m1.later hc); (try have m2 := m2.later hc); (first | (have m3 : Box3 u3 (u2.heap.size + 1) (.int .u64 0) (.slice none 0 0) (.slice none 0 0) := (Box3.new _ _ _ _ (by first | (simp; done) | rfl)).later hb) | (have m3 : Box3 u3 u2.heap.size (.int .u64 0) (.slice none 0 0) (.slice none 0 0) := ((Box3.new _ _ _ _ rfl).alloc _).later hb) | skip); (try have l31 := m1.lt); (try have l32 := m2.lt); (try have l33 := m3.lt); clear hb hc hp c0 c2; have sa3 := True.intro)
   | (go_at_call 46; clear sa3; refine (hL.out tenD (fun t => (#[.int .u64 4, .int .i64 0, .bool K10.neg, .slice bo K10.an bc, .slice co K10.am cc, .int .i64 0, .slice io 0 kc] : Array Value).getD t (.bool false)) _ ?_ ten_parts.out).mono ?_; (first | with_reducible exact cT | exact cT.later ((Below.refl _ _).alloc (Nat.le_refl _) _)); rintro e u4 hp; obtain ⟨Ss, ns, ncs, ms, mcs, aos, cos, rfl, hSs, hb⟩ := hp.form; have hc : Below u3.heap.size u3 u4 := (by first | with_reducible exact hb | exact ((Below.refl _ _).alloc (by first | exact Nat.le_refl _ | (simp; done) | (simp; omega)) _).trans (hb.mono (by simp <;> omega))); have x := x.later hc; have lx4 := x.lt; have cT := cT.later hc; have hVv := hVv.later hc; have bb := below_then bb (Nat.le_refl _) hc; have bs4 := bb.size; (try have m1 := m1.later hc); (try have m2 := m2.later hc); (try have m3 := m3.later hc); (try (with_reducible have m4 := made13 hb)); (try have l41 := m1.lt); (try have l42 := m2.lt); (try have l43 := m3.lt); (try have l44 := m4.lt); clear hb hc hp; have sa4 := True.intro)
   | (go_at_call 29; clear sa4; refine (hT.out 43 (vecT 2 (cs2 M N)) (scalarT tenD) _ _ _ _ _ _ _ ⟨by decide, by decide⟩ ?_ ?_ (vec2_few hM hN) ten_few.out (vec2_right hM hN) ten_right.out).mono ?_; (first | with_reducible exact hVv | exact hVv.later ((Below.refl _ _).alloc (Nat.le_refl _) _)); (first | with_reducible exact hSs | exact hSs.later ((Below.refl _ _).alloc (Nat.le_refl _) _)); intro e u5 hp; obtain ⟨Sr, nr, ncr, mr, mcr, aor, cor, rfl, hRr, hb⟩ := hp.form; have hc : Below u4.heap.size u4 u5 := (by first | with_reducible exact hb | exact ((Below.refl _ _).alloc (by first | exact Nat.le_refl _ | (simp; done) | (simp; omega)) _).trans (hb.mono (by simp <;> omega))); have x := x.later hc; have lx5 := x.lt; have bb := below_then bb (Nat.le_refl _) hc; have bs5 := bb.size; (try have m1 := m1.later hc); (try have m2 := m2.later hc); (try have m3 := m3.later hc); (try have m4 := m4.later hc); (try (with_reducible have m5 := made13 hb)); (try have l51 := m1.lt); (try have l52 := m2.lt); (try have l53 := m3.lt); (try have l54 := m4.lt); (try have l55 := m5.lt); (try (have fm10 := m1.c0; have fm11 := m1.c1; have fm12 := m1.c2; have fm13 := m1.fr 0; have fm14 := m1.fr 1; have fm15 := m1.fr 2)); (try (have fm20 := m2.c0; have fm21 := m2.c1; have fm22 := m2.c2; have fm23 := m2.fr 0; have fm24 := m2.fr 1; have fm25 := m2.fr 2)); (try (have fm30 := m3.c0; have fm31 := m3.c1; have fm32 := m3.c2; have fm33 := m3.fr 0; have fm34 := m3.fr 1; have fm35 := m3.fr 2)); (try (have fm40 := m4.c0; have fm41 := m4.c1; have fm42 := m4.c2; have fm43 := m4.fr 0; have fm44 := m4.fr 1; have fm45 := m4.fr 2)); (try (have fm50 := m5.c0; have fm51 := m5.c1; have fm52 := m5.c2; have fm53 := m5.fr 0; have fm54 := m5.fr 1; have fm55 := m5.fr 2)); clear hb hc hp hVv hSs; have sa5 := True.intro))
  all_goals
   clear sa5
   have hE := (awake_two hM hN hK.out).1
   rw [← htD'.out] at hE
   rw [hE] at hRr ⊢
   rw [show resT 0 (twoT 43 9 (vecT 2 (cs2 M N)) (scalarT tenD)) = twoT 43 9 (vecT 2 (cs2 M N)) (scalarT tenD) from if_pos rfl] at hRr
   obtain ⟨_, S', sh', L', K', C', N', k', sub', hTe, _, _, _, _, hk0⟩ := awake_two hM hN hK.out
   rw [← htD'.out] at hTe
  ·go_wp2_with fail
   go_meet
   exact ⟨_, M, N, Sr, nr, ncr, mr, mcr, aor, cor, rfl, rfl, hM, hN, Box3.new _ _ _ _ rfl, hRr.later ((Below.refl _ _).alloc (Nat.le_refl _) _), bb.alloc bb.size _⟩
  ·go_wp2_with fail
   go_meet
   exact ⟨_, M, N, Sr, nr, ncr, mr, mcr, aor, cor, rfl, rfl, hM, hN, m5.set _ _ _, (by rw [hTe] at hRr ⊢; exact hRr.aside_flat hk0 m5 (aside_three m5 _ _ _)), below_set3 bb (by omega) _ _ _⟩
  ·go_wp2_with fail
   go_meet
   exact ⟨_, M, N, Sr, nr, ncr, mr, mcr, aor, cor, rfl, rfl, hM, hN, m4.set _ _ _, (by rw [hTe] at hRr ⊢; exact hRr.aside_flat hk0 m4 (aside_three m4 _ _ _)), below_set3 bb (by omega) _ _ _⟩
  ·go_wp2_with fail
   go_meet
   exact ⟨_, M, N, Sr, nr, ncr, mr, mcr, aor, cor, rfl, rfl, hM, hN, m3.set _ _ _, (by rw [hTe] at hRr ⊢; exact hRr.aside_flat hk0 m3 (aside_three m3 _ _ _)), below_set3 bb (by omega) _ _ _⟩
  ·go_wp2_with fail
   go_meet
   exact ⟨_, M, N, Sr, nr, ncr, mr, mcr, aor, cor, rfl, rfl, hM, hN, m3.set _ _ _, (by rw [hTe] at hRr ⊢; exact hRr.aside_flat hk0 m3 (aside_three m3 _ _ _)), below_set3 bb (by omega) _ _ _⟩
  ·go_wp2_with fail
   go_meet
   exact ⟨_, M, N, Sr, nr, ncr, mr, mcr, aor, cor, rfl, rfl, hM, hN, m2.set _ _ _, (by rw [hTe] at hRr ⊢; exact hRr.aside_flat hk0 m2 (aside_three m2 _ _ _)), below_set3 bb (by omega) _ _ _⟩
  ·go_wp2_with fail
   go_meet
   exact ⟨_, M, N, Sr, nr, ncr, mr, mcr, aor, cor, rfl, rfl, hM, hN, m1.set _ _ _, (by rw [hTe] at hRr ⊢; exact hRr.aside_flat hk0 m1 (aside_three m1 _ _ _)), below_set3 bb (by omega) _ _ _⟩
 case rest =>
  obtain ⟨B, M, N, S, n, nc, m, mc, ao, co', rfl, rfl, hM, hN, y, hA, hb⟩ := hcut
  clear cT x bb
  obtain ⟨_, S', sh', L', KK, CC, NN, k', sub', hTe, hL1, hN1, _, _, hk0⟩ := awake_two hM hN hK.out
  rw [← htD'.out] at hTe
  rw [hTe] at hA
  obtain ⟨g0, _, ⟨ao2, nc2, g1, hn, _, _⟩, co2, mc2, g2, hm, hcs⟩ := hA
  injection g0 with _ g0
  injection g1 with ga gb gc
  injection g2 with gd ge gf
  subst ga; subst gb; subst gc; subst gd; subst ge; subst gf
  rcases hcs with h0 | ⟨b, o, rfl, hcells⟩
  ·exact absurd h0 (by decide)
  obtain ⟨ec, he, p0, pL, p1, pK, hNum, p5, pC, io2, kc2, p6, hkk, _⟩ := hcells 1 (by decide)
  rw [hL1] at p0
  rw [hN1] at hNum
  have hNum' := hNum
  obtain ⟨p2, ⟨a3, c3, p3, ha3, _⟩, ⟨a4, c4, p4, ha4, _⟩⟩ := hNum
  have l12 : Low 12 1 := low_one (Nat.lt_of_lt_of_le (by decide : (12 : Int).natAbs < pw 1) (pw_le (by omega)))
  rw [p2, p3, p4] at hNum'
  have R0 := hNum'.rtS (numF_right l12)
  rw [show topF (numF 12 1) = 12 from topF_of rfl (canonN _).val, show botF (numF 12 1) = 1 from (canonN _).val] at R0
  have m0 := he 0 (by decide); have m2 := he 2 (by decide); have m3 := he 3 (by decide); have m4 := he 4 (by decide)
  rw [p0] at m0; rw [p2] at m2; rw [p3] at m3; rw [p4] at m4
  have e7 : o + 1 * 7 = o + 7 := by omega
  rw [e7] at m0 m2 m3 m4
  rw [Nat.add_zero] at m0
  obtain ⟨N12, hN12⟩ : ∃ N12, N12 = numF 12 1 := ⟨_, rfl⟩
  rw [← hN12] at R0 m2 m3 m4 ha3 ha4
  have q1 := hm.1; have q2 := hm.2.1
  have q3 := ha3.1; have q4 := ha3.2.1; have q5 := ha4.1; have q6 := ha4.2.1
  clear hcells he p0 p1 p2 p3 p4 p5 p6 pL pK pC hNum' hkk hTe hk0 ha3 ha4
  obtain ⟨bN, hbN⟩ : ∃ bN, bN = N12.neg := ⟨_, rfl⟩
  rw [← hbN] at R0 m2
  clear hN12 hbN hL1 hN1 l12 e7
  go_upto_region 4 with fail
  have hdr : Below wc.heap.size wc wc.drew := (Below.refl _ _).drew
  have md0 := cell_below m0 hdr; have md2 := cell_below m2 hdr; have md3 := cell_below m3 hdr; have md4 := cell_below m4 hdr
  have sb0 := True.intro
  go_region_held3 (fun w' => w'.cell? ⟨B, 0, none⟩ = some (.int .u64 S) ∧ w'.cell? ⟨B, 1, none⟩ = some (.slice ao 1 nc) ∧ w'.cell? ⟨B, 2, none⟩ = some (.slice (some ⟨b, o, none⟩) 2 mc) ∧ w'.cell? ⟨b, o + 7, none⟩ = some (.int .u64 (4 : Nat)) ∧ w'.cell? ⟨b, o + 7 + 2, none⟩ = some (.bool bN) ∧ w'.cell? ⟨b, o + 7 + 3, none⟩ = some (.slice a3 N12.an c3) ∧ w'.cell? ⟨b, o + 7 + 4, none⟩ = some (.slice a4 N12.am c4))
   (first | with_reducible exact ⟨y.drew.c0, y.drew.c1, y.drew.c2, md0, md2, md3, md4⟩ | with_reducible exact ⟨y.c0, y.c1, y.c2, m0, m2, m3, m4⟩ | go_keep)
   (first
   | (go_at_call 47; clear sb0; have hd := (Below.refl wc.heap.size wc).drew; have hb := hb.trans (hd.mono hb.size); have y := y.drew; have R0 := R0.below hd; have m0 := cell_below m0 hd; have m2 := cell_below m2 hd; have m3 := cell_below m3 hd; have m4 := cell_below m4 hd; clear hd; refine (of4_any 12 _ (by decide) (by decide)).mono ?_; rintro e v1 ⟨nb, po, pn, pc, qo, qn, qc, rfl, R2, hb2⟩; have hb := below_then hb (Nat.le_refl _) hb2; have y := y.later hb2; have R0 := R0.below hb2; have m0 := cell_below m0 hb2; have m2 := cell_below m2 hb2; have m3 := cell_below m3 hb2; have m4 := cell_below m4 hb2; clear hb2; have sb1 := True.intro)
   | (go_at_call 21; clear sb1; refine (same4_iff _ _ _ _ _ _ _ 12 1 _ _ _ _ _ _ _ 12 1 _ R0 R2 true (decide_eq_true ⟨rfl, rfl⟩).symm).mono ?_; rintro e v2 ⟨rfl, hb2⟩; have hb := below_then hb (Nat.le_refl _) hb2; have y := y.later hb2; have m0 := cell_below m0 hb2; have m2 := cell_below m2 hb2; have m3 := cell_below m3 hb2; have m4 := cell_below m4 hb2; clear hb2 R0 R2; have sb2 := True.intro))
  have hbw := Lib.hid hb
  clear hb y m0 m2 m3 m4
  go_wp2_with fail
  go_ret
  exact ⟨rfl, hbw.out⟩
end Go.Proofs.YtaepelipkkmeaaaGreat
namespace Go.Proofs.YtaepelipkkmeaaaGreat
open Go.RowKit Num
theorem twoP_none (f : Int) (hf : f ∉ twosZ) (A B T : Tree) (c0 c1 c2 d0 d1 d2 : Value) (w : World) (h : ArrP w A c0 c1 c2) (h' : ArrP w B d0 d1 d2) : Calls Tryz.prog 29 #[.int .i64 f, .agg #[c0, c1, c2], .agg #[d0, d1, d2]] w (ResP 8 T w) := by
 obtain ⟨S, n, nc, m, mc, ao, co, rfl, rfl, rfl⟩ := (ArrP.within _ _ _ _ h).form
 obtain ⟨S', n', nc', m', mc', ao', co', rfl, rfl, rfl⟩ := (ArrP.within _ _ _ _ h').form
 have hf' := Lib.hid hf
 clear h h' hf
 go_enter Tryz.func29, Tryz.ntmps29
 go_upto_region 1 with fail
 refine told_wp (fun w' => Below w.heap.size w w' ∧ Box3 w' (w.heap.size + 2) (.int .u64 0) (.slice none 0 0) (.slice none 0 0))
  ⟨(((Below.refl _ _).alloc (Nat.le_refl _) _).alloc (by simp) _).alloc (by simp; omega) _, Box3.new _ _ _ _ (by simp)⟩ ?_
 rintro w1 ⟨bb1, z1⟩
 have hbb := Lib.hid bb1; have hz := Lib.hid z1
 clear bb1 z1
 go_wp2_with fail
 refine ((isTwo_any f w1).mono fun _ _ h => (show Tell (.bool false) _ _ _ from by rw [decide_eq_false hf'.out] at h; exact h)).mono ?_
 rintro e w2 ⟨rfl, hb2⟩
 replace hbb := Lib.hid (below_then hbb.out (Nat.le_refl _) hb2); replace hz := Lib.hid (hz.out.later hb2)
 clear hb2
 have z0 := hz.out.c0; have z1 := hz.out.c1; have z2 := hz.out.c2
 have f0 := hz.out.fr 0; have f1 := hz.out.fr 1; have f2 := hz.out.fr 2
 have zz := hz.out.set (.int .u64 0) (.slice none 0 0) (.slice none 0 0)
 have e0 := zz.c0; have e1 := zz.c1; have e2 := zz.c2
 have hbw := Lib.hid (below_set3 hbb.out (B := w.heap.size + 2) (by omega) (.int .u64 0) (.slice none 0 0) (.slice none 0 0))
 clear zz
 go_wp2_with fail
 refine bodyPost_ret (v := .tuple #[.agg #[.int .u64 0, .slice none 0 0, .slice none 0 0], .int .i64 8]) (by simp [results, Tryz.results29, go_sem, e0, e1, e2]) rfl ?_
 exact ⟨_, _, _, rfl, ArrQ.plain _ _ _ _ (zero_arr _ (fun _ => True)), hbw.out⟩
theorem twoSC : TwoSC := by
 intro f A B c0 c1 c2 d0 d1 d2 w _ h h' hf hf' hr hr'
 unfold twoR
 by_cases hm : f ∈ twosZ
 ·rw [if_pos hm]
  exact (twoP_all f hm 8 A B (· < w.heap.size) c0 c1 c2 d0 d1 d2 w (ArrP.within _ _ _ _ h) (ArrP.within _ _ _ _ h') hr hr' hf.1 hf'.1).mono fun _ _ => ResQ.plain
 ·rw [if_neg hm]
  exact twoP_none f hm A B _ c0 c1 c2 d0 d1 d2 w h h'
theorem awake10C : Awake10C := fun w => awake10_any intAC vectorC scalarC twoSC w
end Go.Proofs.YtaepelipkkmeaaaGreat
