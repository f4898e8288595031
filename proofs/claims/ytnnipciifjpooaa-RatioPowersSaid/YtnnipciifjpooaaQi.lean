/-
  scrimref04.Whole, Of, Neg, Mul, Div, Add, Sub, Cmp.
-/
import Derived.Test.YtnnipciifjpooaaQf
import Derived.Test.YtnnipciifjpooaaQe
import Derived.Test.YtnnipciifjpooaaRc
namespace Go.Proofs.Ytnnipciifjpooaa
open Go.RowKit Num

attribute [local go_sem ↓] Go.wp_at_zero Go.wp_at_succ

set_option maxHeartbeats 1000000 in
theorem rWhole_any (b : Bool) (ao : Option Addr) (n nc : Nat) (x : Int) (w : World) (A : Whole w b ao n nc x) :
    Calls Try.prog 54 #[.agg #[.bool b, .slice ao n nc]] w (RatPost x 1 w) := by
  have A' := Lib.hid A
  clear A
  go_enter Try.func54, Try.ntmps54
  go_wp2_with fail
  refine gen_calls (fun w' => Below w.heap.size w w' ∧ Box w' w.heap.size (.bool b) (.slice ao n nc) ∧ Box3 w' (w.heap.size + 1) (.bool false) (.slice none 0 0) (.slice none 0 0))
    ⟨(((Below.refl _ _).alloc (Nat.le_refl _) _).alloc (by first | (simp; done) | (simp; omega)) _), ((Box.new _ _ _ rfl).alloc _), (Box3.new _ _ _ _ (by first | (simp; done) | (simp; omega)))⟩ ?_
  rintro w0 ⟨hb0, x0, x1⟩
  refine (rNorm_any b ao n nc x _ (A'.out.below hb0)).mono ?_
  rintro e w1 ⟨eb, eo, en, ec, rfl, h1, hb⟩
  have x1 := x1.later hb
  have bb := Lib.hid (below_then hb0 (Nat.le_refl _) hb)
  have h1' := Lib.hid h1; have x1' := Lib.hid x1
  clear x0 x1 h1 hb hb0
  go_upto_region 2 with fail
  refine gen_wp (fun w' => Below w.heap.size w w' ∧ Box3 w' (w.heap.size + 1) (.bool false) (.slice none 0 0) (.slice none 0 0) ∧ Box w' w1.heap.size (.bool eb) (.slice eo en ec) ∧ Right w' eb eo en ec x) ⟨bb.out.alloc bb.out.size _, x1'.out.alloc _, Box.new _ _ _ rfl, h1'.out.alloc _⟩ ?_
  clear bb x1' h1'
  rintro w2 ⟨bb, x1, y, h1⟩
  have p0 := y.c0; have p1 := y.c1; have lx := x1.lt
  have q0 := x1.c0; have q1 := x1.c1; have q2 := x1.c2; have q3 := x1.fr 0; have q4 := x1.fr 1; have q5 := x1.fr 2
  have e0 : ∀ o, ((((w2.setCell ⟨w.heap.size + 1, 0, none⟩ (.bool eb)).setCell ⟨w.heap.size + 1, 1, none⟩ (.slice eo en ec)).setCell ⟨w.heap.size + 1, 2, none⟩ (.slice (some ⟨w2.heap.size, 0, none⟩) 1 1)).alloc o).cell? ⟨w.heap.size + 1, 0, none⟩ = some (.bool eb) := fun o => ((x1.set _ _ _).alloc o).c0
  have e1 : ∀ o, ((((w2.setCell ⟨w.heap.size + 1, 0, none⟩ (.bool eb)).setCell ⟨w.heap.size + 1, 1, none⟩ (.slice eo en ec)).setCell ⟨w.heap.size + 1, 2, none⟩ (.slice (some ⟨w2.heap.size, 0, none⟩) 1 1)).alloc o).cell? ⟨w.heap.size + 1, 1, none⟩ = some (.slice eo en ec) := fun o => ((x1.set _ _ _).alloc o).c1
  have e2 : ∀ o, ((((w2.setCell ⟨w.heap.size + 1, 0, none⟩ (.bool eb)).setCell ⟨w.heap.size + 1, 1, none⟩ (.slice eo en ec)).setCell ⟨w.heap.size + 1, 2, none⟩ (.slice (some ⟨w2.heap.size, 0, none⟩) 1 1)).alloc o).cell? ⟨w.heap.size + 1, 2, none⟩ = some (.slice (some ⟨w2.heap.size, 0, none⟩) 1 1) := fun o => ((x1.set _ _ _).alloc o).c2
  have bb' := Lib.hid bb; have x1' := Lib.hid x1; have h1' := Lib.hid h1
  clear bb x1 h1 y
  go_wp2_with fail
  refine bodyPost_ret (v := .agg #[.bool eb, .slice eo en ec, .slice (some ⟨w2.heap.size, 0, none⟩) 1 1]) (by simp [results, Try.results54, go_sem, e0, e1, e2]) rfl ?_
  exact ⟨_, _, _, _, _, _, _, rfl, ⟨(h1'.out.box3 x1'.out _ _ _).alloc _, ⟨fun _ => 1, Nat.le_refl _, by omega, sl_one _ (by simp) rfl, ⟨fun _ _ => (by decide : 1 < 4294967296), .inr (by decide), rfl⟩, rfl⟩⟩, (below_set3 bb'.out (by omega) _ _ _).alloc (by have := bb'.out.size; simp; omega) _⟩

set_option maxHeartbeats 1000000 in
theorem of4_any (x : Int) (w : World) (h0 : -9223372036854775808 ≤ x) (h1 : x ≤ 9223372036854775807) :
    Calls Try.prog 22 #[.int .i64 x] w (RatPost x 1 w) := by
  have hx := Lib.hid (int_32 h0 h1)
  have k0 := Lib.hid h0; have k1 := Lib.hid h1
  clear h0 h1
  go_enter Try.func22, Try.ntmps22
  go_wp2_with fail
  refine gen_calls (fun w' => Below w.heap.size w w' ∧ Box3 w' w.heap.size (.bool false) (.slice none 0 0) (.slice none 0 0))
    ⟨((Below.refl _ _).alloc (Nat.le_refl _) _), (Box3.new _ _ _ _ rfl)⟩ ?_
  rintro w0 ⟨hb0, x0⟩
  refine (rOf_any x _ k0.out k1.out).mono ?_
  rintro e w1 ⟨eb, eo, en, ec, rfl, h1, hb⟩
  have x0 := x0.later hb; have bb := below_then hb0 (Nat.le_refl _) hb
  clear hb0 hb
  go_wp2_with fail
  refine (rWhole_any eb eo en ec x _ (h1.whole32 hx.out)).mono ?_
  rintro e w2 ⟨gb, gp, gn, gc, gq, gm, ge, rfl, hR, hb⟩
  have bb := Lib.hid (below_then bb (Nat.le_refl _) hb)
  have x0 := x0.later hb
  have x0' := Lib.hid x0; have hR' := Lib.hid hR
  have q0 := x0.c0; have q1 := x0.c1; have q2 := x0.c2; have q3 := x0.fr 0; have q4 := x0.fr 1; have q5 := x0.fr 2
  have z := x0.set (.bool gb) (.slice gp gn gc) (.slice gq gm ge)
  have e0 := z.c0; have e1 := z.c1; have e2 := z.c2
  clear x0 hb z hR
  go_wp2_with fail
  refine bodyPost_ret (v := .agg #[.bool gb, .slice gp gn gc, .slice gq gm ge]) (by simp [results, Try.results22, go_sem, e0, e1, e2]) rfl ?_
  exact RatPost.stored hR'.out x0'.out bb.out (by omega)

theorem Right.flip {w : World} {b : Bool} {ao : Option Addr} {n nc : Nat} {x : Int} (h : Right w b ao n nc x) (hx : x ≠ 0) : Right w (!b) ao n nc (-x) := by
  obtain ⟨f, h1, h2, h3, h4, rfl⟩ := h.ex
  refine ⟨f, h1, h2, h3, by rw [Int.natAbs_neg]; exact h4, ?_⟩
  rw [← decide_not, decide_eq_decide]
  omega
theorem Right.len_zero {w : World} {b : Bool} {ao : Option Addr} {n nc : Nat} {x : Int} (h : Right w b ao n nc x) : n = 0 ↔ x = 0 := by
  obtain ⟨f, _, _, _, h4, _⟩ := h.ex
  rw [h4.ne_zero]; omega

set_option maxHeartbeats 1000000 in
theorem neg4_any (ab : Bool) (ap aq : Option Addr) (an ac am ae : Nat) (P : Int) (Q : Nat) (w : World) (A : Rt w ab ap an ac aq am ae P Q) (lA : Low P Q) :
    Calls Try.prog 29 #[.agg #[.bool ab, .slice ap an ac, .slice aq am ae]] w (RatPost (-P) Q w) := by
  have l0 := A.top.len_zero
  by_cases h0 : an = 0
  · obtain rfl := l0.1 h0
    obtain rfl := low_zero lA
    subst h0
    clear lA A l0
    go_enter Try.func29, Try.ntmps29
    go_wp2_with fail
    refine gen_calls (fun w' => Below w.heap.size w w' ∧ Box3 w' w.heap.size (.bool ab) (.slice ap 0 ac) (.slice aq am ae) ∧ Box3 w' (w.heap.size + 1) (.bool false) (.slice none 0 0) (.slice none 0 0))
      ⟨(((Below.refl _ _).alloc (Nat.le_refl _) _).alloc (by first | (simp; done) | (simp; omega)) _), ((Box3.new _ _ _ _ rfl).alloc _), (Box3.new _ _ _ _ (by first | (simp; done) | (simp; omega)))⟩ ?_
    rintro w0 ⟨hb0, x0, x1⟩
    refine (of4_any 0 _ (by decide) (by decide)).mono ?_
    rintro e w2 ⟨gb, gp, gn, gc, gq, gm, ge, rfl, hR, hb⟩
    have bb := hb0
    clear x0 hb0
    have bb := Lib.hid (below_then bb (Nat.le_refl _) hb)
    have x1 := x1.later hb
    have x1' := Lib.hid x1; have hR' := Lib.hid hR
    have q0 := x1.c0; have q1 := x1.c1; have q2 := x1.c2; have q3 := x1.fr 0; have q4 := x1.fr 1; have q5 := x1.fr 2
    have z := x1.set (.bool gb) (.slice gp gn gc) (.slice gq gm ge)
    have e0 := z.c0; have e1 := z.c1; have e2 := z.c2
    clear x1 hb z hR
    go_wp2_with fail
    refine bodyPost_ret (v := .agg #[.bool gb, .slice gp gn gc, .slice gq gm ge]) (by simp [results, Try.results29, go_sem, e0, e1, e2]) rfl ?_
    exact RatPost.stored hR'.out x1'.out bb.out (by omega)
  · have hP : Hid (P ≠ 0) := Lib.hid (fun e => h0 (l0.2 e))
    have A' := Lib.hid A
    clear l0 lA A
    have hd : ((an : Int) == 0) = false := by rw [beq_eq_false_iff_ne]; omega
    go_enter Try.func29, Try.ntmps29
    go_upto_region 1 with fail
    refine gen_wp (fun w' => Below w.heap.size w w' ∧ Box3 w' w.heap.size (.bool ab) (.slice ap an ac) (.slice aq am ae) ∧ Box3 w' (w.heap.size + 1) (.bool false) (.slice none 0 0) (.slice none 0 0))
      ⟨(((Below.refl _ _).alloc (Nat.le_refl _) _).alloc (by first | (simp; done) | (simp; omega)) _), ((Box3.new _ _ _ _ rfl).alloc _), (Box3.new _ _ _ _ (by first | (simp; done) | (simp; omega)))⟩ ?_
    rintro w0 ⟨bb, x0, x1⟩
    have p0 := x0.c0; have p1 := x0.c1; have p2 := x0.c2
    have x1' := Lib.hid x1; have bb' := Lib.hid bb
    have q0 := x1.c0; have q1 := x1.c1; have q2 := x1.c2; have q3 := x1.fr 0; have q4 := x1.fr 1; have q5 := x1.fr 2
    have z := x1.set (.bool (!ab)) (.slice ap an ac) (.slice aq am ae)
    have e0 := z.c0; have e1 := z.c1; have e2 := z.c2
    clear x0 x1 bb z
    go_wp2_with fail
    refine bodyPost_ret (v := .agg #[.bool (!ab), .slice ap an ac, .slice aq am ae]) (by simp [results, Try.results29, go_sem, e0, e1, e2]) rfl ?_
    exact RatPost.stored (T := -P) (Q := Q) ⟨(A'.out.top.below bb'.out).flip hP.out, A'.out.bot.below bb'.out⟩ x1'.out bb'.out (by omega)

set_option maxHeartbeats 4000000 in
theorem rMul4_any (ab : Bool) (ap aq : Option Addr) (an ac am ae : Nat) (P : Int) (Q : Nat) (cb : Bool) (cp cq : Option Addr) (cn cc cm ce : Nat) (R : Int) (S : Nat) (w : World) (A : Rt w ab ap an ac aq am ae P Q) (lA : Low P Q) (B : Rt w cb cp cn cc cq cm ce R S) (lB : Low R S) :
    Calls Try.prog 16 #[.agg #[.bool ab, .slice ap an ac, .slice aq am ae], .agg #[.bool cb, .slice cp cn cc, .slice cq cm ce]] w (MakePost (P * R) ((Q : Int) * S) w) := by
  have lA' := Lib.hid lA; have lB' := Lib.hid lB
  have A' := Lib.hid A; have B' := Lib.hid B
  clear lA A lB B
  go_enter Try.func16, Try.ntmps16
  go_wp2_with fail
  refine gen_wp (fun w' => Below w.heap.size w w' ∧ Box3 w' w.heap.size (.bool ab) (.slice ap an ac) (.slice aq am ae) ∧ Box3 w' (w.heap.size + 1) (.bool cb) (.slice cp cn cc) (.slice cq cm ce) ∧ Box3 w' (w.heap.size + 2) (.bool false) (.slice none 0 0) (.slice none 0 0))
    ⟨((((Below.refl _ _).alloc (Nat.le_refl _) _).alloc (by first | (simp; done) | (simp; omega)) _).alloc (by first | (simp; done) | (simp; omega)) _), (((Box3.new _ _ _ _ rfl).alloc _).alloc _), ((Box3.new _ _ _ _ (by first | (simp; done) | (simp; omega))).alloc _), (Box3.new _ _ _ _ (by first | (simp; done) | (simp; omega)))⟩ ?_
  rintro w0 ⟨bb, x0, x1, x2⟩
  have bb := bb.drew; have x0 := x0.drew; have x1 := x1.drew; have x2 := x2.drew
  have A := A'.out.below bb; have B := B'.out.below bb
  clear A' B'
  have sa0 := True.intro
  go_region_held3 (fun w' => w'.cell? ⟨w.heap.size, 0, none⟩ = some (.bool ab) ∧ w'.cell? ⟨w.heap.size, 1, none⟩ = some (.slice ap an ac) ∧ w'.cell? ⟨w.heap.size, 2, none⟩ = some (.slice aq am ae) ∧ w'.cell? ⟨(w.heap.size + 1), 0, none⟩ = some (.bool cb) ∧ w'.cell? ⟨(w.heap.size + 1), 1, none⟩ = some (.slice cp cn cc) ∧ w'.cell? ⟨(w.heap.size + 1), 2, none⟩ = some (.slice cq cm ce))
    (first | with_reducible exact ⟨x0.c0, x0.c1, x0.c2, x1.c0, x1.c1, x1.c2⟩ | with_reducible exact ⟨(x0.other3 (by omega) _ _ _).c0, (x0.other3 (by omega) _ _ _).c1, (x0.other3 (by omega) _ _ _).c2, (x1.other3 (by omega) _ _ _).c0, (x1.other3 (by omega) _ _ _).c1, (x1.other3 (by omega) _ _ _).c2⟩ | go_keep)
    (first
    | (go_at_call 39; clear sa0; refine (rTop_any ab ap aq an ac am ae P _ (A.upper lA'.out)).mono ?_; rintro e w' ⟨nb, no, nn, nc, rfl, n1, hb⟩; have bb := below_then bb (Nat.le_refl _) hb; have x0 := x0.later hb; have x1 := x1.later hb; have x2 := x2.later hb; have A := A.below hb; have B := B.below hb; clear hb; have sa1 := True.intro)
    | (go_at_call 39; clear sa1; refine (rTop_any cb cp cq cn cc cm ce R _ (B.upper lB'.out)).mono ?_; rintro e w' ⟨fb, fo, fn, fc, rfl, f1, hb⟩; have bb := below_then bb (Nat.le_refl _) hb; have x0 := x0.later hb; have x1 := x1.later hb; have x2 := x2.later hb; have A := A.below hb; have B := B.below hb; have n1 := n1.below hb; clear hb; have sa2 := True.intro)
    | (go_at_call 49; clear sa2; refine (rMul_any nb fb no fo nn nc fn fc P R _ (n1.whole32 lA'.out.abs_lt) (f1.whole32 lB'.out.abs_lt) 32 (by omega) lA'.out.abs_lt lB'.out.abs_lt).mono ?_; rintro e w' ⟨mb, mo, mn, mc, rfl, m1, hb⟩; have bb := below_then bb (Nat.le_refl _) hb; have x0 := x0.later hb; have x1 := x1.later hb; have x2 := x2.later hb; have A := A.below hb; have B := B.below hb; have n1 := n1.below hb; have f1 := f1.below hb; clear hb; have sa3 := True.intro)
    | (go_at_call 40; clear sa3; refine (rBot_any ab ap aq an ac am ae Q _ (A.lower lA'.out)).mono ?_; rintro e w' ⟨vb, vo, vn, vc, rfl, v1, hb⟩; have bb := below_then bb (Nat.le_refl _) hb; have x0 := x0.later hb; have x1 := x1.later hb; have x2 := x2.later hb; have A := A.below hb; have B := B.below hb; have n1 := n1.below hb; have f1 := f1.below hb; have m1 := m1.below hb; clear hb; have sa4 := True.intro)
    | (go_at_call 40; clear sa4; refine (rBot_any cb cp cq cn cc cm ce S _ (B.lower lB'.out)).mono ?_; rintro e w' ⟨jb, jo, jn, jc, rfl, j1, hb⟩; have bb := below_then bb (Nat.le_refl _) hb; have x0 := x0.later hb; have x1 := x1.later hb; have x2 := x2.later hb; have A := A.below hb; have B := B.below hb; have n1 := n1.below hb; have f1 := f1.below hb; have m1 := m1.below hb; have v1 := v1.below hb; clear hb; have sa5 := True.intro)
    | (go_at_call 49; clear sa5; refine (rMul_any vb jb vo jo vn vc jn jc Q S _ (v1.whole32 lA'.out.bot_lt) (j1.whole32 lB'.out.bot_lt) 32 (by omega) lA'.out.bot_lt lB'.out.bot_lt).mono ?_; rintro e w' ⟨kb, ko, kn, kc, rfl, k1, hb⟩; have bb := below_then bb (Nat.le_refl _) hb; have x0 := x0.later hb; have x1 := x1.later hb; have x2 := x2.later hb; have A := A.below hb; have B := B.below hb; have n1 := n1.below hb; have f1 := f1.below hb; have m1 := m1.below hb; have v1 := v1.below hb; have j1 := j1.below hb; clear hb; have sa6 := True.intro)
    | (go_at_call 38; clear sa6; refine (rMake_any mb kb mo ko mn mc kn kc (P * R) ((Q : Int) * S) _ (m1.whole (mul_32 lA'.out.abs_lt lB'.out.abs_lt) (by omega)) (k1.whole (mul_32 lA'.out.bot_lt lB'.out.bot_lt) (by omega)) 64 (by omega) (mul_32 lA'.out.abs_lt lB'.out.abs_lt) (mul_32 lA'.out.bot_lt lB'.out.bot_lt)).mono ?_; rintro e w' ⟨gb, gp, gn, gc, gq, gm, ge, rfl, hR, hb⟩; have bb := below_then bb (Nat.le_refl _) hb; have x0 := x0.later hb; have x1 := x1.later hb; have x2 := x2.later hb; have A := A.below hb; have B := B.below hb; have n1 := n1.below hb; have f1 := f1.below hb; have m1 := m1.below hb; have v1 := v1.below hb; have j1 := j1.below hb; have k1 := k1.below hb; clear hb; have q0 := x2.c0; have q1 := x2.c1; have q2 := x2.c2; have q3 := x2.fr 0; have q4 := x2.fr 1; have q5 := x2.fr 2; have sa7 := True.intro))
  have z := x2.set (.bool gb) (.slice gp gn gc) (.slice gq gm ge)
  have e0 := z.c0; have e1 := z.c1; have e2 := z.c2
  have x2' := Lib.hid x2; have bb' := Lib.hid bb; have hR' := Lib.hid hR
  clear z x2 bb x0 x1 A B hR f1 j1 k1 m1 n1 v1
  go_wp2_with fail
  refine bodyPost_ret (v := .tuple #[.agg #[.bool gb, .slice gp gn gc, .slice gq gm ge], .int .i64 (mkE (P * R) ((Q : Int) * S))]) (by simp [results, Try.results16, go_sem, e0, e1, e2]) rfl ?_
  exact ResPost.stored hR'.out x2'.out bb'.out (by omega)

set_option maxHeartbeats 4000000 in
theorem rDiv4_any (ab : Bool) (ap aq : Option Addr) (an ac am ae : Nat) (P : Int) (Q : Nat) (cb : Bool) (cp cq : Option Addr) (cn cc cm ce : Nat) (R : Int) (S : Nat) (w : World) (A : Rt w ab ap an ac aq am ae P Q) (lA : Low P Q) (B : Rt w cb cp cn cc cq cm ce R S) (lB : Low R S) :
    Calls Try.prog 17 #[.agg #[.bool ab, .slice ap an ac, .slice aq am ae], .agg #[.bool cb, .slice cp cn cc, .slice cq cm ce]] w (MakePost (P * S) ((Q : Int) * R) w) := by
  have lA' := Lib.hid lA; have lB' := Lib.hid lB
  have A' := Lib.hid A; have B' := Lib.hid B
  clear lA A lB B
  go_enter Try.func17, Try.ntmps17
  go_wp2_with fail
  refine gen_wp (fun w' => Below w.heap.size w w' ∧ Box3 w' w.heap.size (.bool ab) (.slice ap an ac) (.slice aq am ae) ∧ Box3 w' (w.heap.size + 1) (.bool cb) (.slice cp cn cc) (.slice cq cm ce) ∧ Box3 w' (w.heap.size + 2) (.bool false) (.slice none 0 0) (.slice none 0 0))
    ⟨((((Below.refl _ _).alloc (Nat.le_refl _) _).alloc (by first | (simp; done) | (simp; omega)) _).alloc (by first | (simp; done) | (simp; omega)) _), (((Box3.new _ _ _ _ rfl).alloc _).alloc _), ((Box3.new _ _ _ _ (by first | (simp; done) | (simp; omega))).alloc _), (Box3.new _ _ _ _ (by first | (simp; done) | (simp; omega)))⟩ ?_
  rintro w0 ⟨bb, x0, x1, x2⟩
  have bb := bb.drew; have x0 := x0.drew; have x1 := x1.drew; have x2 := x2.drew
  have A := A'.out.below bb; have B := B'.out.below bb
  clear A' B'
  have sb0 := True.intro
  go_region_held3 (fun w' => w'.cell? ⟨w.heap.size, 0, none⟩ = some (.bool ab) ∧ w'.cell? ⟨w.heap.size, 1, none⟩ = some (.slice ap an ac) ∧ w'.cell? ⟨w.heap.size, 2, none⟩ = some (.slice aq am ae) ∧ w'.cell? ⟨(w.heap.size + 1), 0, none⟩ = some (.bool cb) ∧ w'.cell? ⟨(w.heap.size + 1), 1, none⟩ = some (.slice cp cn cc) ∧ w'.cell? ⟨(w.heap.size + 1), 2, none⟩ = some (.slice cq cm ce))
    (first | with_reducible exact ⟨x0.c0, x0.c1, x0.c2, x1.c0, x1.c1, x1.c2⟩ | with_reducible exact ⟨(x0.other3 (by omega) _ _ _).c0, (x0.other3 (by omega) _ _ _).c1, (x0.other3 (by omega) _ _ _).c2, (x1.other3 (by omega) _ _ _).c0, (x1.other3 (by omega) _ _ _).c1, (x1.other3 (by omega) _ _ _).c2⟩ | go_keep)
    (first
    | (go_at_call 39; clear sb0; refine (rTop_any ab ap aq an ac am ae P _ (A.upper lA'.out)).mono ?_; rintro e w' ⟨nb, no, nn, nc, rfl, n1, hb⟩; have bb := below_then bb (Nat.le_refl _) hb; have x0 := x0.later hb; have x1 := x1.later hb; have x2 := x2.later hb; have A := A.below hb; have B := B.below hb; clear hb; have sb1 := True.intro)
    | (go_at_call 40; clear sb1; refine (rBot_any cb cp cq cn cc cm ce S _ (B.lower lB'.out)).mono ?_; rintro e w' ⟨fb, fo, fn, fc, rfl, f1, hb⟩; have bb := below_then bb (Nat.le_refl _) hb; have x0 := x0.later hb; have x1 := x1.later hb; have x2 := x2.later hb; have A := A.below hb; have B := B.below hb; have n1 := n1.below hb; clear hb; have sb2 := True.intro)
    | (go_at_call 49; clear sb2; refine (rMul_any nb fb no fo nn nc fn fc P S _ (n1.whole32 lA'.out.abs_lt) (f1.whole32 lB'.out.bot_lt) 32 (by omega) lA'.out.abs_lt lB'.out.bot_lt).mono ?_; rintro e w' ⟨mb, mo, mn, mc, rfl, m1, hb⟩; have bb := below_then bb (Nat.le_refl _) hb; have x0 := x0.later hb; have x1 := x1.later hb; have x2 := x2.later hb; have A := A.below hb; have B := B.below hb; have n1 := n1.below hb; have f1 := f1.below hb; clear hb; have sb3 := True.intro)
    | (go_at_call 40; clear sb3; refine (rBot_any ab ap aq an ac am ae Q _ (A.lower lA'.out)).mono ?_; rintro e w' ⟨vb, vo, vn, vc, rfl, v1, hb⟩; have bb := below_then bb (Nat.le_refl _) hb; have x0 := x0.later hb; have x1 := x1.later hb; have x2 := x2.later hb; have A := A.below hb; have B := B.below hb; have n1 := n1.below hb; have f1 := f1.below hb; have m1 := m1.below hb; clear hb; have sb4 := True.intro)
    | (go_at_call 39; clear sb4; refine (rTop_any cb cp cq cn cc cm ce R _ (B.upper lB'.out)).mono ?_; rintro e w' ⟨jb, jo, jn, jc, rfl, j1, hb⟩; have bb := below_then bb (Nat.le_refl _) hb; have x0 := x0.later hb; have x1 := x1.later hb; have x2 := x2.later hb; have A := A.below hb; have B := B.below hb; have n1 := n1.below hb; have f1 := f1.below hb; have m1 := m1.below hb; have v1 := v1.below hb; clear hb; have sb5 := True.intro)
    | (go_at_call 49; clear sb5; refine (rMul_any vb jb vo jo vn vc jn jc Q R _ (v1.whole32 lA'.out.bot_lt) (j1.whole32 lB'.out.abs_lt) 32 (by omega) lA'.out.bot_lt lB'.out.abs_lt).mono ?_; rintro e w' ⟨kb, ko, kn, kc, rfl, k1, hb⟩; have bb := below_then bb (Nat.le_refl _) hb; have x0 := x0.later hb; have x1 := x1.later hb; have x2 := x2.later hb; have A := A.below hb; have B := B.below hb; have n1 := n1.below hb; have f1 := f1.below hb; have m1 := m1.below hb; have v1 := v1.below hb; have j1 := j1.below hb; clear hb; have sb6 := True.intro)
    | (go_at_call 38; clear sb6; refine (rMake_any mb kb mo ko mn mc kn kc (P * S) ((Q : Int) * R) _ (m1.whole (mul_32 lA'.out.abs_lt lB'.out.bot_lt) (by omega)) (k1.whole (mul_32 lA'.out.bot_lt lB'.out.abs_lt) (by omega)) 64 (by omega) (mul_32 lA'.out.abs_lt lB'.out.bot_lt) (mul_32 lA'.out.bot_lt lB'.out.abs_lt)).mono ?_; rintro e w' ⟨gb, gp, gn, gc, gq, gm, ge, rfl, hR, hb⟩; have bb := below_then bb (Nat.le_refl _) hb; have x0 := x0.later hb; have x1 := x1.later hb; have x2 := x2.later hb; have A := A.below hb; have B := B.below hb; have n1 := n1.below hb; have f1 := f1.below hb; have m1 := m1.below hb; have v1 := v1.below hb; have j1 := j1.below hb; have k1 := k1.below hb; clear hb; have q0 := x2.c0; have q1 := x2.c1; have q2 := x2.c2; have q3 := x2.fr 0; have q4 := x2.fr 1; have q5 := x2.fr 2; have sb7 := True.intro))
  have z := x2.set (.bool gb) (.slice gp gn gc) (.slice gq gm ge)
  have e0 := z.c0; have e1 := z.c1; have e2 := z.c2
  have x2' := Lib.hid x2; have bb' := Lib.hid bb; have hR' := Lib.hid hR
  clear z x2 bb x0 x1 A B hR f1 j1 k1 m1 n1 v1
  go_wp2_with fail
  refine bodyPost_ret (v := .tuple #[.agg #[.bool gb, .slice gp gn gc, .slice gq gm ge], .int .i64 (mkE (P * S) ((Q : Int) * R))]) (by simp [results, Try.results17, go_sem, e0, e1, e2]) rfl ?_
  exact ResPost.stored hR'.out x2'.out bb'.out (by omega)

theorem grow_65 {x : Int} (h : x.natAbs < pw 64) : x.natAbs < pw 65 := Nat.lt_of_lt_of_le h (pw_le (by omega))
set_option maxHeartbeats 4000000 in
theorem rAdd4_any (ab : Bool) (ap aq : Option Addr) (an ac am ae : Nat) (P : Int) (Q : Nat) (cb : Bool) (cp cq : Option Addr) (cn cc cm ce : Nat) (R : Int) (S : Nat) (w : World) (A : Rt w ab ap an ac aq am ae P Q) (lA : Low P Q) (B : Rt w cb cp cn cc cq cm ce R S) (lB : Low R S) :
    Calls Try.prog 14 #[.agg #[.bool ab, .slice ap an ac, .slice aq am ae], .agg #[.bool cb, .slice cp cn cc, .slice cq cm ce]] w (MakePost (P * S + R * Q) ((Q : Int) * S) w) := by
  have lA' := Lib.hid lA; have lB' := Lib.hid lB
  have A' := Lib.hid A; have B' := Lib.hid B
  clear lA A lB B
  go_enter Try.func14, Try.ntmps14
  go_wp2_with fail
  refine gen_wp (fun w' => Below w.heap.size w w' ∧ Box3 w' w.heap.size (.bool ab) (.slice ap an ac) (.slice aq am ae) ∧ Box3 w' (w.heap.size + 1) (.bool cb) (.slice cp cn cc) (.slice cq cm ce) ∧ Box3 w' (w.heap.size + 2) (.bool false) (.slice none 0 0) (.slice none 0 0))
    ⟨((((Below.refl _ _).alloc (Nat.le_refl _) _).alloc (by first | (simp; done) | (simp; omega)) _).alloc (by first | (simp; done) | (simp; omega)) _), (((Box3.new _ _ _ _ rfl).alloc _).alloc _), ((Box3.new _ _ _ _ (by first | (simp; done) | (simp; omega))).alloc _), (Box3.new _ _ _ _ (by first | (simp; done) | (simp; omega)))⟩ ?_
  rintro w0 ⟨bb, x0, x1, x2⟩
  have bb := bb.drew; have x0 := x0.drew; have x1 := x1.drew; have x2 := x2.drew
  have A := A'.out.below bb; have B := B'.out.below bb
  clear A' B'
  have sc0 := True.intro
  go_region_held3 (fun w' => w'.cell? ⟨w.heap.size, 0, none⟩ = some (.bool ab) ∧ w'.cell? ⟨w.heap.size, 1, none⟩ = some (.slice ap an ac) ∧ w'.cell? ⟨w.heap.size, 2, none⟩ = some (.slice aq am ae) ∧ w'.cell? ⟨(w.heap.size + 1), 0, none⟩ = some (.bool cb) ∧ w'.cell? ⟨(w.heap.size + 1), 1, none⟩ = some (.slice cp cn cc) ∧ w'.cell? ⟨(w.heap.size + 1), 2, none⟩ = some (.slice cq cm ce))
    (first | with_reducible exact ⟨x0.c0, x0.c1, x0.c2, x1.c0, x1.c1, x1.c2⟩ | with_reducible exact ⟨(x0.other3 (by omega) _ _ _).c0, (x0.other3 (by omega) _ _ _).c1, (x0.other3 (by omega) _ _ _).c2, (x1.other3 (by omega) _ _ _).c0, (x1.other3 (by omega) _ _ _).c1, (x1.other3 (by omega) _ _ _).c2⟩ | go_keep)
    (first
    | (go_at_call 39; clear sc0; refine (rTop_any ab ap aq an ac am ae P _ (A.upper lA'.out)).mono ?_; rintro e w' ⟨nb, no, nn, nc, rfl, n1, hb⟩; have bb := below_then bb (Nat.le_refl _) hb; have x0 := x0.later hb; have x1 := x1.later hb; have x2 := x2.later hb; have A := A.below hb; have B := B.below hb; clear hb; have sc1 := True.intro)
    | (go_at_call 40; clear sc1; refine (rBot_any cb cp cq cn cc cm ce S _ (B.lower lB'.out)).mono ?_; rintro e w' ⟨fb, fo, fn, fc, rfl, f1, hb⟩; have bb := below_then bb (Nat.le_refl _) hb; have x0 := x0.later hb; have x1 := x1.later hb; have x2 := x2.later hb; have A := A.below hb; have B := B.below hb; have n1 := n1.below hb; clear hb; have sc2 := True.intro)
    | (go_at_call 49; clear sc2; refine (rMul_any nb fb no fo nn nc fn fc P S _ (n1.whole32 lA'.out.abs_lt) (f1.whole32 lB'.out.bot_lt) 32 (by omega) lA'.out.abs_lt lB'.out.bot_lt).mono ?_; rintro e w' ⟨mb, mo, mn, mc, rfl, m1, hb⟩; have bb := below_then bb (Nat.le_refl _) hb; have x0 := x0.later hb; have x1 := x1.later hb; have x2 := x2.later hb; have A := A.below hb; have B := B.below hb; have n1 := n1.below hb; have f1 := f1.below hb; clear hb; have sc3 := True.intro)
    | (go_at_call 39; clear sc3; refine (rTop_any cb cp cq cn cc cm ce R _ (B.upper lB'.out)).mono ?_; rintro e w' ⟨vb, vo, vn, vc, rfl, v1, hb⟩; have bb := below_then bb (Nat.le_refl _) hb; have x0 := x0.later hb; have x1 := x1.later hb; have x2 := x2.later hb; have A := A.below hb; have B := B.below hb; have n1 := n1.below hb; have f1 := f1.below hb; have m1 := m1.below hb; clear hb; have sc4 := True.intro)
    | (go_at_call 40; clear sc4; refine (rBot_any ab ap aq an ac am ae Q _ (A.lower lA'.out)).mono ?_; rintro e w' ⟨jb, jo, jn, jc, rfl, j1, hb⟩; have bb := below_then bb (Nat.le_refl _) hb; have x0 := x0.later hb; have x1 := x1.later hb; have x2 := x2.later hb; have A := A.below hb; have B := B.below hb; have n1 := n1.below hb; have f1 := f1.below hb; have m1 := m1.below hb; have v1 := v1.below hb; clear hb; have sc5 := True.intro)
    | (go_at_call 49; clear sc5; refine (rMul_any vb jb vo jo vn vc jn jc R Q _ (v1.whole32 lB'.out.abs_lt) (j1.whole32 lA'.out.bot_lt) 32 (by omega) lB'.out.abs_lt lA'.out.bot_lt).mono ?_; rintro e w' ⟨kb, ko, kn, kc, rfl, k1, hb⟩; have bb := below_then bb (Nat.le_refl _) hb; have x0 := x0.later hb; have x1 := x1.later hb; have x2 := x2.later hb; have A := A.below hb; have B := B.below hb; have n1 := n1.below hb; have f1 := f1.below hb; have m1 := m1.below hb; have v1 := v1.below hb; have j1 := j1.below hb; clear hb; have sc6 := True.intro)
    | (go_at_call 48; clear sc6; refine (rAdd_any mb kb mo ko mn mc kn kc (P * S) (R * Q) _ (m1.whole (mul_32 lA'.out.abs_lt lB'.out.bot_lt) (by omega)) (k1.whole (mul_32 lB'.out.abs_lt lA'.out.bot_lt) (by omega)) 64 (by omega) (mul_32 lA'.out.abs_lt lB'.out.bot_lt) (mul_32 lB'.out.abs_lt lA'.out.bot_lt)).mono ?_; rintro e w' ⟨lb, lo, ln, lc, rfl, l1, hb⟩; have bb := below_then bb (Nat.le_refl _) hb; have x0 := x0.later hb; have x1 := x1.later hb; have x2 := x2.later hb; have A := A.below hb; have B := B.below hb; have n1 := n1.below hb; have f1 := f1.below hb; have m1 := m1.below hb; have v1 := v1.below hb; have j1 := j1.below hb; have k1 := k1.below hb; clear hb; have sc7 := True.intro)
    | (go_at_call 40; clear sc7; refine (rBot_any ab ap aq an ac am ae Q _ (A.lower lA'.out)).mono ?_; rintro e w' ⟨rb, ro, rn, rc, rfl, r1, hb⟩; have bb := below_then bb (Nat.le_refl _) hb; have x0 := x0.later hb; have x1 := x1.later hb; have x2 := x2.later hb; have A := A.below hb; have B := B.below hb; have n1 := n1.below hb; have f1 := f1.below hb; have m1 := m1.below hb; have v1 := v1.below hb; have j1 := j1.below hb; have k1 := k1.below hb; have l1 := l1.below hb; clear hb; have sc8 := True.intro)
    | (go_at_call 40; clear sc8; refine (rBot_any cb cp cq cn cc cm ce S _ (B.lower lB'.out)).mono ?_; rintro e w' ⟨sb, so, sn, sc, rfl, s1, hb⟩; have bb := below_then bb (Nat.le_refl _) hb; have x0 := x0.later hb; have x1 := x1.later hb; have x2 := x2.later hb; have A := A.below hb; have B := B.below hb; have n1 := n1.below hb; have f1 := f1.below hb; have m1 := m1.below hb; have v1 := v1.below hb; have j1 := j1.below hb; have k1 := k1.below hb; have l1 := l1.below hb; have r1 := r1.below hb; clear hb; have sc9 := True.intro)
    | (go_at_call 49; clear sc9; refine (rMul_any rb sb ro so rn rc sn sc Q S _ (r1.whole32 lA'.out.bot_lt) (s1.whole32 lB'.out.bot_lt) 32 (by omega) lA'.out.bot_lt lB'.out.bot_lt).mono ?_; rintro e w' ⟨tb, to_, tn, tc, rfl, t1, hb⟩; have bb := below_then bb (Nat.le_refl _) hb; have x0 := x0.later hb; have x1 := x1.later hb; have x2 := x2.later hb; have A := A.below hb; have B := B.below hb; have n1 := n1.below hb; have f1 := f1.below hb; have m1 := m1.below hb; have v1 := v1.below hb; have j1 := j1.below hb; have k1 := k1.below hb; have l1 := l1.below hb; have r1 := r1.below hb; have s1 := s1.below hb; clear hb; have sc10 := True.intro)
    | (go_at_call 38; clear sc10; refine (rMake_any lb tb lo to_ ln lc tn tc (P * S + R * Q) ((Q : Int) * S) _ (l1.whole (sum_64 (mul_32 lA'.out.abs_lt lB'.out.bot_lt) (mul_32 lB'.out.abs_lt lA'.out.bot_lt)) (by omega)) (t1.whole (mul_32 lA'.out.bot_lt lB'.out.bot_lt) (by omega)) 65 (by omega) (sum_64 (mul_32 lA'.out.abs_lt lB'.out.bot_lt) (mul_32 lB'.out.abs_lt lA'.out.bot_lt)) (grow_65 (mul_32 lA'.out.bot_lt lB'.out.bot_lt))).mono ?_; rintro e w' ⟨gb, gp, gn, gc, gq, gm, ge, rfl, hR, hb⟩; have bb := below_then bb (Nat.le_refl _) hb; have x0 := x0.later hb; have x1 := x1.later hb; have x2 := x2.later hb; have A := A.below hb; have B := B.below hb; have n1 := n1.below hb; have f1 := f1.below hb; have m1 := m1.below hb; have v1 := v1.below hb; have j1 := j1.below hb; have k1 := k1.below hb; have l1 := l1.below hb; have r1 := r1.below hb; have s1 := s1.below hb; have t1 := t1.below hb; clear hb; have q0 := x2.c0; have q1 := x2.c1; have q2 := x2.c2; have q3 := x2.fr 0; have q4 := x2.fr 1; have q5 := x2.fr 2; have sc11 := True.intro))
  have z := x2.set (.bool gb) (.slice gp gn gc) (.slice gq gm ge)
  have e0 := z.c0; have e1 := z.c1; have e2 := z.c2
  have x2' := Lib.hid x2; have bb' := Lib.hid bb; have hR' := Lib.hid hR
  clear z x2 bb x0 x1 A B hR f1 j1 k1 l1 m1 n1 r1 s1 t1 v1
  go_wp2_with fail
  refine bodyPost_ret (v := .tuple #[.agg #[.bool gb, .slice gp gn gc, .slice gq gm ge], .int .i64 (mkE (P * S + R * Q) ((Q : Int) * S))]) (by simp [results, Try.results14, go_sem, e0, e1, e2]) rfl ?_
  exact ResPost.stored hR'.out x2'.out bb'.out (by omega)

set_option maxHeartbeats 4000000 in
theorem rSub4_any (ab : Bool) (ap aq : Option Addr) (an ac am ae : Nat) (P : Int) (Q : Nat) (cb : Bool) (cp cq : Option Addr) (cn cc cm ce : Nat) (R : Int) (S : Nat) (w : World) (A : Rt w ab ap an ac aq am ae P Q) (lA : Low P Q) (B : Rt w cb cp cn cc cq cm ce R S) (lB : Low R S) :
    Calls Try.prog 15 #[.agg #[.bool ab, .slice ap an ac, .slice aq am ae], .agg #[.bool cb, .slice cp cn cc, .slice cq cm ce]] w (MakePost (P * S + -R * Q) ((Q : Int) * S) w) := by
  have lA' := Lib.hid lA; have lB' := Lib.hid lB
  have A' := Lib.hid A; have B' := Lib.hid B
  clear lA A lB B
  go_enter Try.func15, Try.ntmps15
  go_wp2_with fail
  refine gen_wp (fun w' => Below w.heap.size w w' ∧ Box3 w' w.heap.size (.bool ab) (.slice ap an ac) (.slice aq am ae) ∧ Box3 w' (w.heap.size + 1) (.bool cb) (.slice cp cn cc) (.slice cq cm ce) ∧ Box3 w' (w.heap.size + 2) (.bool false) (.slice none 0 0) (.slice none 0 0))
    ⟨((((Below.refl _ _).alloc (Nat.le_refl _) _).alloc (by first | (simp; done) | (simp; omega)) _).alloc (by first | (simp; done) | (simp; omega)) _), (((Box3.new _ _ _ _ rfl).alloc _).alloc _), ((Box3.new _ _ _ _ (by first | (simp; done) | (simp; omega))).alloc _), (Box3.new _ _ _ _ (by first | (simp; done) | (simp; omega)))⟩ ?_
  rintro w0 ⟨bb, x0, x1, x2⟩
  have bb := bb.drew; have x0 := x0.drew; have x1 := x1.drew; have x2 := x2.drew
  have A := A'.out.below bb; have B := B'.out.below bb
  clear A' B'
  have sd0 := True.intro
  go_region_held3 (fun w' => w'.cell? ⟨w.heap.size, 0, none⟩ = some (.bool ab) ∧ w'.cell? ⟨w.heap.size, 1, none⟩ = some (.slice ap an ac) ∧ w'.cell? ⟨w.heap.size, 2, none⟩ = some (.slice aq am ae) ∧ w'.cell? ⟨(w.heap.size + 1), 0, none⟩ = some (.bool cb) ∧ w'.cell? ⟨(w.heap.size + 1), 1, none⟩ = some (.slice cp cn cc) ∧ w'.cell? ⟨(w.heap.size + 1), 2, none⟩ = some (.slice cq cm ce))
    (first | with_reducible exact ⟨x0.c0, x0.c1, x0.c2, x1.c0, x1.c1, x1.c2⟩ | with_reducible exact ⟨(x0.other3 (by omega) _ _ _).c0, (x0.other3 (by omega) _ _ _).c1, (x0.other3 (by omega) _ _ _).c2, (x1.other3 (by omega) _ _ _).c0, (x1.other3 (by omega) _ _ _).c1, (x1.other3 (by omega) _ _ _).c2⟩ | go_keep)
    (first
    | (go_at_call 29; clear sd0; refine (neg4_any cb cp cq cn cc cm ce R S _ B lB'.out).mono ?_; rintro e w' ⟨db, dp, dn, dc, dq, dm, de, rfl, N, hb⟩; have bb := below_then bb (Nat.le_refl _) hb; have x0 := x0.later hb; have x1 := x1.later hb; have x2 := x2.later hb; have A := A.below hb; have B := B.below hb; clear hb; have sd1 := True.intro)
    | (go_at_call 14; clear sd1; refine (rAdd4_any ab ap aq an ac am ae P Q db dp dq dn dc dm de (-R) S _ A lA'.out N lB'.out.neg).mono ?_; rintro e w' ⟨gb, gp, gn, gc, gq, gm, ge, rfl, hR, hb⟩; have bb := below_then bb (Nat.le_refl _) hb; have x0 := x0.later hb; have x1 := x1.later hb; have x2 := x2.later hb; have A := A.below hb; have B := B.below hb; have N := N.below hb; clear hb; have q0 := x2.c0; have q1 := x2.c1; have q2 := x2.c2; have q3 := x2.fr 0; have q4 := x2.fr 1; have q5 := x2.fr 2; have sd2 := True.intro))
  have z := x2.set (.bool gb) (.slice gp gn gc) (.slice gq gm ge)
  have e0 := z.c0; have e1 := z.c1; have e2 := z.c2
  have x2' := Lib.hid x2; have bb' := Lib.hid bb; have hR' := Lib.hid hR
  clear z x2 bb x0 x1 A B hR N
  go_wp2_with fail
  refine bodyPost_ret (v := .tuple #[.agg #[.bool gb, .slice gp gn gc, .slice gq gm ge], .int .i64 (mkE (P * S + -R * Q) ((Q : Int) * S))]) (by simp [results, Try.results15, go_sem, e0, e1, e2]) rfl ?_
  exact ResPost.stored hR'.out x2'.out bb'.out (by omega)

theorem cmp_diff (x y : Int) : (x - y).sign = cmpI x y := by
  unfold cmpI
  rcases Int.lt_trichotomy x y with h | h | h
  · rw [Int.sign_eq_neg_one_of_neg (by omega)]; simp [h] <;> omega
  · rw [h, Int.sub_self]; simp
  · rw [Int.sign_eq_one_of_pos (by omega)]; simp [Int.not_lt.2 (Int.le_of_lt h)] <;> omega
set_option maxHeartbeats 4000000 in
theorem rCmp4_any (ab : Bool) (ap aq : Option Addr) (an ac am ae : Nat) (P : Int) (Q : Nat) (cb : Bool) (cp cq : Option Addr) (cn cc cm ce : Nat) (R : Int) (S : Nat) (w : World) (A : Rt w ab ap an ac aq am ae P Q) (lA : Low P Q) (B : Rt w cb cp cn cc cq cm ce R S) (lB : Low R S) :
    Calls Try.prog 20 #[.agg #[.bool ab, .slice ap an ac, .slice aq am ae], .agg #[.bool cb, .slice cp cn cc, .slice cq cm ce]] w (Says (.int .i64 (cmpI (P * S) (R * Q))) w) := by
  have lA' := Lib.hid lA; have lB' := Lib.hid lB
  have A' := Lib.hid A; have B' := Lib.hid B
  clear lA A lB B
  go_enter Try.func20, Try.ntmps20
  go_wp2_with fail
  refine gen_wp (fun w' => Below w.heap.size w w' ∧ Box3 w' w.heap.size (.bool ab) (.slice ap an ac) (.slice aq am ae) ∧ Box3 w' (w.heap.size + 1) (.bool cb) (.slice cp cn cc) (.slice cq cm ce))
    ⟨(((Below.refl _ _).alloc (Nat.le_refl _) _).alloc (by first | (simp; done) | (simp; omega)) _), ((Box3.new _ _ _ _ rfl).alloc _), (Box3.new _ _ _ _ (by first | (simp; done) | (simp; omega)))⟩ ?_
  rintro w0 ⟨bb, x0, x1⟩
  have bb := bb.drew; have x0 := x0.drew; have x1 := x1.drew
  have A := A'.out.below bb; have B := B'.out.below bb
  clear A' B'
  have se0 := True.intro
  go_region_held3 (fun w' => w'.cell? ⟨w.heap.size, 0, none⟩ = some (.bool ab) ∧ w'.cell? ⟨w.heap.size, 1, none⟩ = some (.slice ap an ac) ∧ w'.cell? ⟨w.heap.size, 2, none⟩ = some (.slice aq am ae) ∧ w'.cell? ⟨(w.heap.size + 1), 0, none⟩ = some (.bool cb) ∧ w'.cell? ⟨(w.heap.size + 1), 1, none⟩ = some (.slice cp cn cc) ∧ w'.cell? ⟨(w.heap.size + 1), 2, none⟩ = some (.slice cq cm ce))
    (first | with_reducible exact ⟨x0.c0, x0.c1, x0.c2, x1.c0, x1.c1, x1.c2⟩ | go_keep)
    (first
    | (go_at_call 39; clear se0; refine (rTop_any ab ap aq an ac am ae P _ (A.upper lA'.out)).mono ?_; rintro e w' ⟨nb, no, nn, nc, rfl, n1, hb⟩; have bb := below_then bb (Nat.le_refl _) hb; have x0 := x0.later hb; have x1 := x1.later hb; have A := A.below hb; have B := B.below hb; clear hb; have se1 := True.intro)
    | (go_at_call 40; clear se1; refine (rBot_any cb cp cq cn cc cm ce S _ (B.lower lB'.out)).mono ?_; rintro e w' ⟨fb, fo, fn, fc, rfl, f1, hb⟩; have bb := below_then bb (Nat.le_refl _) hb; have x0 := x0.later hb; have x1 := x1.later hb; have A := A.below hb; have B := B.below hb; have n1 := n1.below hb; clear hb; have se2 := True.intro)
    | (go_at_call 49; clear se2; refine (rMul_any nb fb no fo nn nc fn fc P S _ (n1.whole32 lA'.out.abs_lt) (f1.whole32 lB'.out.bot_lt) 32 (by omega) lA'.out.abs_lt lB'.out.bot_lt).mono ?_; rintro e w' ⟨mb, mo, mn, mc, rfl, m1, hb⟩; have bb := below_then bb (Nat.le_refl _) hb; have x0 := x0.later hb; have x1 := x1.later hb; have A := A.below hb; have B := B.below hb; have n1 := n1.below hb; have f1 := f1.below hb; clear hb; have se3 := True.intro)
    | (go_at_call 39; clear se3; refine (rTop_any cb cp cq cn cc cm ce R _ (B.upper lB'.out)).mono ?_; rintro e w' ⟨vb, vo, vn, vc, rfl, v1, hb⟩; have bb := below_then bb (Nat.le_refl _) hb; have x0 := x0.later hb; have x1 := x1.later hb; have A := A.below hb; have B := B.below hb; have n1 := n1.below hb; have f1 := f1.below hb; have m1 := m1.below hb; clear hb; have se4 := True.intro)
    | (go_at_call 40; clear se4; refine (rBot_any ab ap aq an ac am ae Q _ (A.lower lA'.out)).mono ?_; rintro e w' ⟨jb, jo, jn, jc, rfl, j1, hb⟩; have bb := below_then bb (Nat.le_refl _) hb; have x0 := x0.later hb; have x1 := x1.later hb; have A := A.below hb; have B := B.below hb; have n1 := n1.below hb; have f1 := f1.below hb; have m1 := m1.below hb; have v1 := v1.below hb; clear hb; have se5 := True.intro)
    | (go_at_call 49; clear se5; refine (rMul_any vb jb vo jo vn vc jn jc R Q _ (v1.whole32 lB'.out.abs_lt) (j1.whole32 lA'.out.bot_lt) 32 (by omega) lB'.out.abs_lt lA'.out.bot_lt).mono ?_; rintro e w' ⟨kb, ko, kn, kc, rfl, k1, hb⟩; have bb := below_then bb (Nat.le_refl _) hb; have x0 := x0.later hb; have x1 := x1.later hb; have A := A.below hb; have B := B.below hb; have n1 := n1.below hb; have f1 := f1.below hb; have m1 := m1.below hb; have v1 := v1.below hb; have j1 := j1.below hb; clear hb; have se6 := True.intro)
    | (go_at_call 52; clear se6; refine (rSub_any mb kb mo ko mn mc kn kc (P * S) (R * Q) _ (m1.whole (mul_32 lA'.out.abs_lt lB'.out.bot_lt) (by omega)) (k1.whole (mul_32 lB'.out.abs_lt lA'.out.bot_lt) (by omega)) 64 (by omega) (mul_32 lA'.out.abs_lt lB'.out.bot_lt) (mul_32 lB'.out.abs_lt lA'.out.bot_lt)).mono ?_; rintro e w' ⟨lb, lo, ln, lc, rfl, l1, hb⟩; have bb := below_then bb (Nat.le_refl _) hb; have x0 := x0.later hb; have x1 := x1.later hb; have A := A.below hb; have B := B.below hb; have n1 := n1.below hb; have f1 := f1.below hb; have m1 := m1.below hb; have v1 := v1.below hb; have j1 := j1.below hb; have k1 := k1.below hb; clear hb; have se7 := True.intro)
    | (go_at_call 51; clear se7; refine (rSign_any lb lo ln lc (P * S - R * Q) _ (l1.whole (sub_abs (mul_32 lA'.out.abs_lt lB'.out.bot_lt) (mul_32 lB'.out.abs_lt lA'.out.bot_lt)) (by omega))).mono ?_; rintro e w' ⟨rfl, hb⟩; have bb := below_then bb (Nat.le_refl _) hb; have x0 := x0.later hb; have x1 := x1.later hb; have A := A.below hb; have B := B.below hb; have n1 := n1.below hb; have f1 := f1.below hb; have m1 := m1.below hb; have v1 := v1.below hb; have j1 := j1.below hb; have k1 := k1.below hb; have l1 := l1.below hb; clear hb; have se8 := True.intro))
  have bb' := Lib.hid bb
  clear bb x0 x1 A B
  rw [cmp_diff]
  go_wp2_with fail
  go_ret
  exact ⟨rfl, bb'.out⟩

end Go.Proofs.Ytnnipciifjpooaa
