/-
  scrimlaw04.part, alike, awake.
-/
import Derived.Test.YtnnipciifjpooaaQh
import Derived.Test.YtnnipciifjpooaaQi
namespace Go.Proofs.Ytnnipciifjpooaa
open Go.RowKit Num

attribute [local go_sem ↓] Go.wp_at_zero Go.wp_at_succ

theorem canon_lit {v : Nat} (h0 : v ≠ 0) (h : v < 4294967296) : Canon v 1 (fun _ => v) := ⟨fun _ _ => h, .inr h0, by simp [val, pw]⟩
theorem rt_one {W : World} {x y : Nat} (hx0 : x ≠ 0) (hx : x < 4294967296) (hy0 : y ≠ 0) (hy : y < 4294967296) {b d : Nat} (h : Sl W (some ⟨b, 0, none⟩) 1 (fun _ => x)) (k : Sl W (some ⟨d, 0, none⟩) 1 (fun _ => y)) :
    Rt W false (some ⟨b, 0, none⟩) 1 1 (some ⟨d, 0, none⟩) 1 1 x y :=
  ⟨⟨fun _ => x, Nat.le_refl _, by omega, h, canon_lit hx0 hx, by simp⟩, ⟨fun _ => y, Nat.le_refl _, by omega, k, canon_lit hy0 hy, by simp⟩⟩

set_option maxHeartbeats 1000000 in
theorem part_any (n : Nat) (w : World) (h0 : n ≠ 0) (h : n < 4294967296) :
    Calls Try.prog 41 #[.int .u32 n] w (RatPost 1 n w) := by
  have k0 := Lib.hid h0; have k1 := Lib.hid h
  clear h0 h
  go_enter Try.func41, Try.ntmps41
  go_wp2_with fail
  refine bodyPost_ret (v := .agg #[.bool false, .slice (some ⟨w.heap.size + 1, 0, none⟩) 1 1, .slice (some ⟨w.heap.size + 1 + 1, 0, none⟩) 1 1]) (by simp [results, Try.results41, go_sem]) rfl ?_
  exact ⟨_, _, _, _, _, _, _, rfl, rt_one (x := 1) (by decide) (by decide) k0.out k1.out ((sl_one _ (by simp) rfl).below ((Below.refl _ _).alloc (Nat.le_refl _) _)) (sl_one _ (by simp) rfl), (((Below.refl _ w).alloc (Nat.le_refl _) _).alloc (by simp) _).alloc (by simp; omega) _⟩

set_option maxHeartbeats 1000000 in
theorem alike_any (ab : Bool) (ap aq : Option Addr) (an ac am ae : Nat) (P : Int) (Q : Nat) (cb : Bool) (cp cq : Option Addr) (cn cc cm ce : Nat) (E : Int) (w : World) (A : Rt w ab ap an ac aq am ae P Q) (B : Rt w cb cp cn cc cq cm ce P Q) :
    Calls Try.prog 18 #[.agg #[.bool ab, .slice ap an ac, .slice aq am ae], .int .i64 E, .agg #[.bool cb, .slice cp cn cc, .slice cq cm ce], .int .i64 E] w (Says (.bool true) w) := by
  have A' := Lib.hid A; have B' := Lib.hid B
  clear A B
  go_enter Try.func18, Try.ntmps18
  go_wp2_with fail
  refine gen_calls (fun w' => Below w.heap.size w w' ∧ Box3 w' w.heap.size (.bool ab) (.slice ap an ac) (.slice aq am ae) ∧ Box3 w' (w.heap.size + 1) (.bool cb) (.slice cp cn cc) (.slice cq cm ce))
    ⟨(((Below.refl _ _).alloc (Nat.le_refl _) _).alloc (by first | (simp; done) | (simp; omega)) _), ((Box3.new _ _ _ _ rfl).alloc _), (Box3.new _ _ _ _ (by first | (simp; done) | (simp; omega)))⟩ ?_
  rintro w0 ⟨hb0, x0, x1⟩
  refine (same4_any ab ap aq an ac am ae P Q cb cp cq cn cc cm ce _ (A'.out.below hb0) (B'.out.below hb0)).mono ?_
  rintro e w1 ⟨rfl, hb⟩
  have bb := Lib.hid (below_then hb0 (Nat.le_refl _) hb)
  clear hb hb0 x0 x1
  go_wp2_with fail
  go_ret
  exact ⟨rfl, bb.out⟩

theorem low_part {n : Nat} (h0 : n ≠ 0) (h : n < 4294967296) : Low 1 n := ⟨h0, Nat.gcd_one_left _, Nat.lt_of_lt_of_le (by decide : 1 < pw 1) (pw_le (by omega)), Nat.lt_of_lt_of_le (m := pw 1) (by simpa [pw] using h) (pw_le (by omega))⟩
theorem make_lit {p q : Int} {T : Int} {B : Nat} {E : Int} {w w' : World} {e : Ending} (h : (mkT p q, mkB p q, mkE p q) = (T, B, E)) (k : MakePost p q w e w') : ResPost T B E w e w' := by
  injection h with h1 h2; injection h2 with h2 h3
  subst h1 h2 h3; exact k
theorem mod_lit {P R : Int} {Q S : Nat} {T : Int} {B : Nat} {E : Int} {w w' : World} {e : Ending} (h : modRes P Q R S = (T, B, E)) (k : ModPost P Q R S w e w') : ResPost T B E w e w' := by
  unfold ModPost at k
  rw [h] at k; exact k

theorem rt_new1 (W : World) (t t' : TypeId) : Rt ((W.alloc (.cells #[.int .u32 5] t)).alloc (.cells #[.int .u32 6] t')).drew false (some ⟨W.heap.size, 0, none⟩) 1 1 (some ⟨W.heap.size + 1, 0, none⟩) 1 1 5 6 :=
  rt_one (x := 5) (y := 6) (by decide) (by decide) (by decide) (by decide) (((sl_one (x := 5) _ rfl rfl).below ((Below.refl _ _).alloc (Nat.le_refl _) _)).below (Below.refl _ _).drew) ((sl_one (x := 6) _ (by simp) rfl).below (Below.refl _ _).drew)
theorem rt_new2 (W : World) (t t' : TypeId) : Rt ((W.alloc (.cells #[.int .u32 6] t)).alloc (.cells #[.int .u32 5] t')).drew false (some ⟨W.heap.size + 1, 0, none⟩) 1 1 (some ⟨W.heap.size, 0, none⟩) 1 1 5 6 :=
  rt_one (x := 5) (y := 6) (by decide) (by decide) (by decide) (by decide) ((sl_one (x := 5) _ (by simp) rfl).below (Below.refl _ _).drew) (((sl_one (x := 6) _ rfl rfl).below ((Below.refl _ _).alloc (Nat.le_refl _) _)).below (Below.refl _ _).drew)
theorem lit_sum : (mkT ((1 : Int) * ((3 : Nat) : Int) + (1 : Int) * ((2 : Nat) : Int)) (((2 : Nat) : Int) * ((3 : Nat) : Int)), mkB ((1 : Int) * ((3 : Nat) : Int) + (1 : Int) * ((2 : Nat) : Int)) (((2 : Nat) : Int) * ((3 : Nat) : Int)), mkE ((1 : Int) * ((3 : Nat) : Int) + (1 : Int) * ((2 : Nat) : Int)) (((2 : Nat) : Int) * ((3 : Nat) : Int))) = ((5 : Int), (6 : Nat), (0 : Int)) := by decide +kernel
theorem lit_mod : modRes 3 1 (-7) 1 = (2, 1, 0) := by decide +kernel

set_option maxRecDepth 20000 in
set_option maxHeartbeats 4000000 in
theorem awake4_any (w : World) : Calls Try.prog 9 #[] w (Says (.bool true) w) := by
  go_enter Try.func9, Try.ntmps9
  have bb := Lib.hid (Below.refl w.heap.size w)
  go_wp2_with fail
  refine (part_any 2 _ (by decide) (by decide)).mono ?_
  rintro e w1 ⟨ab, ap, an, ac, aq, am, ae, rfl, A, hb⟩
  have bb := Lib.hid (below_then bb.out (Nat.le_refl _) hb)
  have A' := Lib.hid A
  clear hb A
  go_wp2_with fail
  refine (part_any 3 _ (by decide) (by decide)).mono ?_
  rintro e w2 ⟨cb, cp, cn, cc, cq, cm, ce, rfl, B, hb⟩
  have bb := Lib.hid (below_then bb.out (Nat.le_refl _) hb)
  have A' := Lib.hid (A'.out.below hb); have B' := Lib.hid B
  clear hb B
  go_wp2_with fail
  refine ((add4_any ab ap aq an ac am ae 1 2 cb cp cq cn cc cm ce 1 3 _ A'.out (low_part (by decide) (by decide)) B'.out (low_part (by decide) (by decide))).mono fun _ _ => make_lit lit_sum).mono ?_
  rintro e w3 ⟨db, dp, dn, dc, dq, dm, de, rfl, D, hb⟩
  have bb := Lib.hid (below_then bb.out (Nat.le_refl _) hb)
  have D' := Lib.hid D
  clear hb D A' B'
  go_wp2_with fail
  refine gen_calls (fun w' => Below w.heap.size w w' ∧ Box3 w' w3.heap.size (.bool db) (.slice dp dn dc) (.slice dq dm de) ∧ Rt w' db dp dn dc dq dm de 5 6) ⟨bb.out.alloc bb.out.size _, Box3.new _ _ _ _ rfl, D'.out.alloc _⟩ ?_
  clear bb D'
  rintro w4 ⟨bb, x, D⟩
  replace bb := Lib.hid bb; replace x := Lib.hid x; replace D := Lib.hid D
  refine (of_any 3 _ (by decide) (by decide)).mono ?_
  rintro e w5 ⟨ab, ap, an, ac, aq, am, ae, rfl, A, hb⟩
  have bb := Lib.hid (below_then bb.out (Nat.le_refl _) hb)
  have x := Lib.hid (x.out.later hb); have D := Lib.hid (D.out.below hb); replace A := Lib.hid A
  clear hb
  go_wp2_with fail
  refine (of_any (-7) _ (by decide) (by decide)).mono ?_
  rintro e w6 ⟨cb, cp, cn, cc, cq, cm, ce, rfl, B, hb⟩
  have bb := Lib.hid (below_then bb.out (Nat.le_refl _) hb)
  have x := Lib.hid (x.out.later hb); have D := Lib.hid (D.out.below hb); have A := Lib.hid (A.out.below hb); replace B := Lib.hid B
  clear hb
  go_wp2_with fail
  refine ((mod4_any ab ap aq an ac am ae 3 1 cb cp cq cn cc cm ce (-7) 1 _ A.out (low_one (int_32 (by decide) (by decide))) B.out (low_one (int_32 (by decide) (by decide)))).mono fun _ _ => mod_lit lit_mod).mono ?_
  rintro e w7 ⟨fb, fp, fn, fc, fq, fm, fe, rfl, F, hb⟩
  have bb := Lib.hid (below_then bb.out (Nat.le_refl _) hb)
  have x := Lib.hid (x.out.later hb); have D := Lib.hid (D.out.below hb); replace F := Lib.hid F
  clear hb A B
  go_wp2_with fail
  refine gen_wp (fun w' => Below w.heap.size w w' ∧ Box3 w' w3.heap.size (.bool db) (.slice dp dn dc) (.slice dq dm de) ∧ Box3 w' w7.heap.size (.bool fb) (.slice fp fn fc) (.slice fq fm fe) ∧ Rt w' db dp dn dc dq dm de 5 6 ∧ Rt w' fb fp fn fc fq fm fe 2 1) ⟨bb.out.alloc bb.out.size _, x.out.alloc _, Box3.new _ _ _ _ rfl, D.out.alloc _, F.out.alloc _⟩ ?_
  clear bb x D F
  rintro u0 ⟨bb, x, y, D, F⟩
  have lx := x.lt; have ly := y.lt
  have sa0 := True.intro
  go_region_held3 (fun w' => w'.cell? ⟨w3.heap.size, 0, none⟩ = some (.bool db) ∧ w'.cell? ⟨w3.heap.size, 1, none⟩ = some (.slice dp dn dc) ∧ w'.cell? ⟨w3.heap.size, 2, none⟩ = some (.slice dq dm de) ∧ w'.cell? ⟨w7.heap.size, 0, none⟩ = some (.bool fb) ∧ w'.cell? ⟨w7.heap.size, 1, none⟩ = some (.slice fp fn fc) ∧ w'.cell? ⟨w7.heap.size, 2, none⟩ = some (.slice fq fm fe))
    (first | with_reducible exact ⟨x.drew.c0, x.drew.c1, x.drew.c2, y.drew.c0, y.drew.c1, y.drew.c2⟩ | with_reducible exact ⟨(x.alloc _).drew.c0, (x.alloc _).drew.c1, (x.alloc _).drew.c2, (y.alloc _).drew.c0, (y.alloc _).drew.c1, (y.alloc _).drew.c2⟩ | with_reducible exact ⟨((x.alloc _).alloc _).drew.c0, ((x.alloc _).alloc _).drew.c1, ((x.alloc _).alloc _).drew.c2, ((y.alloc _).alloc _).drew.c0, ((y.alloc _).alloc _).drew.c1, ((y.alloc _).alloc _).drew.c2⟩ | with_reducible exact ⟨x.c0, x.c1, x.c2, y.c0, y.c1, y.c2⟩ | go_keep)
    (first
    | (go_at_call 25; clear sa0;
        refine (same4_any db dp dq dn dc dm de 5 6 false _ _ 1 1 1 1 _ ?_ ?_).mono ?_; (with_reducible exact ((D.alloc _).alloc _).drew); (first | with_reducible exact rt_new1 _ _ _ | with_reducible exact rt_new2 _ _ _);
        rintro e u1 ⟨rfl, hb⟩; have hc : Below u0.heap.size u0 u1 := ((((Below.refl _ _).alloc (Nat.le_refl _) _).alloc (by simp) _).drew).trans (hb.mono (by simp; omega)); clear hb; have bb := below_then bb (Nat.le_refl _) hc; have x := x.later hc; have y := y.later hc; have F := F.below hc; clear hc; have sa1 := True.intro)
    | (go_at_call 22; clear sa1; refine (of4_any 2 _ (by decide) (by decide)).mono ?_; rintro e u2 ⟨gb, gp, gn, gc, gq, gm, ge, rfl, G, hb⟩; have bb := below_then bb (Nat.le_refl _) hb; have x := x.later hb; have y := y.later hb; have F := F.below hb; clear hb; have sa2 := True.intro)
    | (go_at_call 25; clear sa2; refine (same4_any fb fp fq fn fc fm fe 2 1 gb gp gq gn gc gm ge _ F G).mono ?_; rintro e u3 ⟨rfl, hb⟩; have bb := below_then bb (Nat.le_refl _) hb; have x := x.later hb; have y := y.later hb; clear hb; have sa3 := True.intro))
  all_goals
    go_wp2_with fail
    go_ret
    exact ⟨rfl, bb⟩

end Go.Proofs.Ytnnipciifjpooaa
