/-
  ratio.Whole, Of, Sign, Neg, Abs, Cmp.
-/
import Derived.Test.YtnnipciifjpooaaQb
import Derived.Test.YtnnipciifjpooaaWp
namespace Go.Proofs.Ytnnipciifjpooaa
open Go.RowKit Num

attribute [local go_sem ↓] Go.wp_at_zero Go.wp_at_succ

theorem Rt.alloc {w : World} {b : Bool} {ao bo : Option Addr} {n nc m mc Q : Nat} {P : Int} (h : Rt w b ao n nc bo m mc P Q) (o : Obj) : Rt (w.alloc o) b ao n nc bo m mc P Q := h.below ((Below.refl _ w).alloc (Nat.le_refl _) o)
theorem Rt.drew {w : World} {b : Bool} {ao bo : Option Addr} {n nc m mc Q : Nat} {P : Int} (h : Rt w b ao n nc bo m mc P Q) : Rt w.drew b ao n nc bo m mc P Q := h.below (Below.refl _ w).drew
theorem Right.drew' {w : World} {b : Bool} {ao : Option Addr} {n nc : Nat} {x : Int} (h : Right w b ao n nc x) : Right w.drew b ao n nc x := h.below (Below.refl _ w).drew
theorem made13' {W w' : World} {u0 u1 u2 : Value} {t : TypeId} (hb : Below (W.alloc (.cells #[u0, u1, u2] t)).drew.heap.size (W.alloc (.cells #[u0, u1, u2] t)).drew w') : Box3 w' W.heap.size u0 u1 u2 := (Box3.new u0 u1 u2 t rfl).drew.later hb
theorem made13 {W w' : World} {u0 u1 u2 : Value} {t : TypeId} (hb : Below (W.alloc (.cells #[u0, u1, u2] t)).heap.size (W.alloc (.cells #[u0, u1, u2] t)) w') : Box3 w' W.heap.size u0 u1 u2 := (Box3.new u0 u1 u2 t rfl).later hb

theorem Whole.nat {w : World} {b : Bool} {ao : Option Addr} {n nc : Nat} {x : Int} (h : Whole w b ao n nc x) : Whole w false ao n nc x.natAbs := by
  obtain ⟨f, A, rfl⟩ := h.ex
  exact ⟨f, A, by rw [sgn_abs]; rfl⟩
theorem over_w (b : Bool) (ao bo : Option Addr) (n nc m mc : Nat) (x : Int) (Q : Nat) (w : World) (A : Right w b ao n nc x) (B : Whole w false bo m mc Q) :
    Calls Try.prog 60 #[.agg #[.bool b, .slice ao n nc], .slice bo m mc] w (RatPost x Q w) := by
  obtain ⟨g, B, e⟩ := B.ex
  have e : val g m = Q := by rw [sgn_false] at e; omega
  rw [← e]
  exact over_any b ao bo n nc m mc x g w A B

set_option maxHeartbeats 1000000 in
theorem whole_any (b : Bool) (ao : Option Addr) (n nc : Nat) (x : Int) (w : World) (A : Whole w b ao n nc x) (hx : x.natAbs < pw 32) :
    Calls Try.prog 58 #[.agg #[.bool b, .slice ao n nc]] w (RatPost x 1 w) := by
  have A' := Lib.hid A; have hx' := Lib.hid hx
  clear A hx
  go_enter Try.func58, Try.ntmps58
  go_wp2_with fail
  refine gen_calls (fun w' => Below w.heap.size w w' ∧ Box w' w.heap.size (.bool b) (.slice ao n nc) ∧ Box3 w' (w.heap.size + 1) (.bool false) (.slice none 0 0) (.slice none 0 0))
    ⟨(((Below.refl _ _).alloc (Nat.le_refl _) _).alloc (by first | (simp; done) | (simp; omega)) _), ((Box.new _ _ _ rfl).alloc _), (Box3.new _ _ _ _ (by first | (simp; done) | (simp; omega)))⟩ ?_
  rintro w0 ⟨hb0, x0, x1⟩
  refine (wNorm_any b ao n nc x _ (A'.out.below hb0)).mono ?_
  rintro e w1 ⟨eb, eo, en, ec, rfl, h1, hb⟩
  have x0 := x0.later hb; have x1 := x1.later hb; have bb := below_then hb0 (Nat.le_refl _) hb
  have h2 := Lib.hid (h1.box x0 (.bool eb) (.slice eo en ec)); have bb2 := Lib.hid (below_set bb (Nat.le_refl _) (.bool eb) (.slice eo en ec))
  have z0 := x0.set (.bool eb) (.slice eo en ec); have z1 := Lib.hid (x1.other (C := w.heap.size) (by omega) (.bool eb) (.slice eo en ec))
  have q0 := x0.c0; have q1 := x0.c1; have q2 := x0.fr 0; have q3 := x0.fr 1
  have p1 := z0.c1
  have z0' := Lib.hid z0
  clear x0 x1 bb z0 h1 hb hb0
  go_wp2_with fail
  refine gen_calls (fun w' => Below w.heap.size w w' ∧ Box w' w.heap.size (.bool eb) (.slice eo en ec) ∧ Box3 w' (w.heap.size + 1) (.bool false) (.slice none 0 0) (.slice none 0 0) ∧ Right w' eb eo en ec x) ⟨bb2.out, z0'.out, z1.out, h2.out⟩ ?_
  rintro w2 ⟨bb, x0, x1, h1⟩
  clear q0 q1 q2 q3 p1 z0' z1 h2 bb2
  refine (long_no eo en ec _ (h1.le_len hx'.out)).mono ?_
  rintro e w3 ⟨rfl, hb⟩
  have bb := Lib.hid (below_then bb (Nat.le_refl _) hb)
  have x0 := x0.later hb; have x1 := Lib.hid (x1.later hb); have h1 := Lib.hid (h1.below hb)
  have p0 := x0.c0; have p1 := x0.c1
  clear hb x0
  go_wp2_with fail
  refine gen_calls (fun w' => Below w.heap.size w w' ∧ Box3 w' (w.heap.size + 1) (.bool false) (.slice none 0 0) (.slice none 0 0) ∧ Right w' eb eo en ec x ∧ Sl w' (some ⟨w3.heap.size, 0, none⟩) 1 (fun _ => 1)) ⟨bb.out.alloc bb.out.size _, x1.out.alloc _, h1.out.alloc _, sl_new1 w3 _ _ _ rfl⟩ ?_
  rintro w4 ⟨bb, x1, h1, hs⟩
  clear p0 p1
  refine (over_w eb eo (some ⟨w3.heap.size, 0, none⟩) en ec 1 1 x 1 _ h1 ⟨fun _ => 1, ⟨Nat.le_refl _, by omega, by omega, hs, fun _ _ => (by decide : 1 < 4294967296)⟩, by simp [sgn, val, pw]⟩).mono ?_
  rintro e w5 ⟨gb, gp, gn, gc, gq, gm, ge, rfl, hR, hb⟩
  have bb := Lib.hid (below_then bb (Nat.le_refl _) hb)
  have x1 := x1.later hb
  have x1' := Lib.hid x1; have hR' := Lib.hid hR
  have q0 := x1.c0; have q1 := x1.c1; have q2 := x1.c2; have q3 := x1.fr 0; have q4 := x1.fr 1; have q5 := x1.fr 2
  have z := x1.set (.bool gb) (.slice gp gn gc) (.slice gq gm ge)
  have e0 := z.c0; have e1 := z.c1; have e2 := z.c2
  clear x1 hb z h1 hs hR
  go_wp2_with fail
  refine bodyPost_ret (v := .agg #[.bool gb, .slice gp gn gc, .slice gq gm ge]) (by simp [results, Try.results58, go_sem, e0, e1, e2]) rfl ?_
  exact RatPost.stored hR'.out x1'.out bb.out (by omega)

theorem int_32 {n : Int} (h0 : -9223372036854775808 ≤ n) (h1 : n ≤ 9223372036854775807) : n.natAbs < pw 32 := by
  have e : pw 3 = 79228162514264337593543950336 := rfl
  exact Nat.lt_of_lt_of_le (m := pw 3) (by omega) (pw_le (by omega))
set_option maxHeartbeats 1000000 in
theorem of_any (x : Int) (w : World) (h0 : -9223372036854775808 ≤ x) (h1 : x ≤ 9223372036854775807) :
    Calls Try.prog 42 #[.int .i64 x] w (RatPost x 1 w) := by
  have hx := Lib.hid (int_32 h0 h1)
  have k0 := Lib.hid h0; have k1 := Lib.hid h1
  clear h0 h1
  go_enter Try.func42, Try.ntmps42
  go_wp2_with fail
  refine gen_calls (fun w' => Below w.heap.size w w' ∧ Box3 w' w.heap.size (.bool false) (.slice none 0 0) (.slice none 0 0))
    ⟨((Below.refl _ _).alloc (Nat.le_refl _) _), (Box3.new _ _ _ _ rfl)⟩ ?_
  rintro w0 ⟨hb0, x0⟩
  refine (wOf_any x _ k0.out k1.out).mono ?_
  rintro e w1 ⟨eb, eo, en, ec, rfl, h1, hb⟩
  have x0 := x0.later hb; have bb := below_then hb0 (Nat.le_refl _) hb
  clear hb0 hb
  go_wp2_with fail
  refine (whole_any eb eo en ec x _ (h1.whole32 hx.out) hx.out).mono ?_
  rintro e w2 ⟨gb, gp, gn, gc, gq, gm, ge, rfl, hR, hb⟩
  have bb := Lib.hid (below_then bb (Nat.le_refl _) hb)
  have x0 := x0.later hb
  have x0' := Lib.hid x0; have hR' := Lib.hid hR
  have q0 := x0.c0; have q1 := x0.c1; have q2 := x0.c2; have q3 := x0.fr 0; have q4 := x0.fr 1; have q5 := x0.fr 2
  have z := x0.set (.bool gb) (.slice gp gn gc) (.slice gq gm ge)
  have e0 := z.c0; have e1 := z.c1; have e2 := z.c2
  clear x0 hb z hR
  go_wp2_with fail
  refine bodyPost_ret (v := .agg #[.bool gb, .slice gp gn gc, .slice gq gm ge]) (by simp [results, Try.results42, go_sem, e0, e1, e2]) rfl ?_
  exact RatPost.stored hR'.out x0'.out bb.out (by omega)

set_option maxHeartbeats 1000000 in
theorem sign_any (ab : Bool) (ap aq : Option Addr) (an ac am ae : Nat) (P : Int) (Q : Nat) (w : World) (A : Rt w ab ap an ac aq am ae P Q) (lA : Low P Q) :
    Calls Try.prog 21 #[.agg #[.bool ab, .slice ap an ac, .slice aq am ae]] w (Says (.int .i64 P.sign) w) := by
  have A' := Lib.hid A; have lA' := Lib.hid lA
  clear A lA
  go_enter Try.func21, Try.ntmps21
  go_wp2_with fail
  refine gen_calls (fun w' => Below w.heap.size w w' ∧ Box3 w' w.heap.size (.bool ab) (.slice ap an ac) (.slice aq am ae))
    ⟨((Below.refl _ _).alloc (Nat.le_refl _) _), (Box3.new _ _ _ _ rfl)⟩ ?_
  rintro w0 ⟨hb0, x0⟩
  refine (upper_any ab ap aq an ac am ae _).mono ?_
  rintro e w1 ⟨rfl, hb⟩
  have bb := Lib.hid (below_then hb0 (Nat.le_refl _) hb)
  clear hb0 hb x0
  go_wp2_with fail
  refine (wSign_any ab ap an ac P _ ((A'.out.below bb.out).upper lA'.out)).mono ?_
  rintro e w2 ⟨rfl, hb⟩
  have bb := Lib.hid (below_then bb.out (Nat.le_refl _) hb)
  clear hb
  go_wp2_with fail
  go_ret
  exact ⟨rfl, bb.out⟩

set_option maxHeartbeats 1000000 in
theorem neg_any (ab : Bool) (ap aq : Option Addr) (an ac am ae : Nat) (P : Int) (Q : Nat) (w : World) (A : Rt w ab ap an ac aq am ae P Q) (lA : Low P Q) :
    Calls Try.prog 30 #[.agg #[.bool ab, .slice ap an ac, .slice aq am ae]] w (RatPost (-P) Q w) := by
  have lA' := Lib.hid lA
  have A' := Lib.hid A
  clear lA A
  go_enter Try.func30, Try.ntmps30
  go_wp2_with fail
  refine gen_wp (fun w' => Below w.heap.size w w' ∧ Box3 w' w.heap.size (.bool ab) (.slice ap an ac) (.slice aq am ae) ∧ Box3 w' (w.heap.size + 1) (.bool false) (.slice none 0 0) (.slice none 0 0))
    ⟨(((Below.refl _ _).alloc (Nat.le_refl _) _).alloc (by first | (simp; done) | (simp; omega)) _), ((Box3.new _ _ _ _ rfl).alloc _), (Box3.new _ _ _ _ (by first | (simp; done) | (simp; omega)))⟩ ?_
  rintro w0 ⟨bb, x0, x1⟩
  have bb := bb.drew; have x0 := x0.drew; have x1 := x1.drew
  have A := A'.out.below bb
  clear A'
  have sa0 := True.intro
  go_region_held3 (fun w' => w'.cell? ⟨w.heap.size, 0, none⟩ = some (.bool ab) ∧ w'.cell? ⟨w.heap.size, 1, none⟩ = some (.slice ap an ac) ∧ w'.cell? ⟨w.heap.size, 2, none⟩ = some (.slice aq am ae))
    (first | with_reducible exact ⟨x0.c0, x0.c1, x0.c2⟩ | with_reducible exact ⟨(x0.other3 (by omega) _ _ _).c0, (x0.other3 (by omega) _ _ _).c1, (x0.other3 (by omega) _ _ _).c2⟩ | go_keep)
    (first
    | (go_at_call 45; clear sa0; refine (upper_any ab ap aq an ac am ae _).mono ?_; rintro e w' ⟨rfl, hb⟩; have bb := below_then bb (Nat.le_refl _) hb; have x0 := x0.later hb; have x1 := x1.later hb; have A := A.below hb; clear hb; have sa1 := True.intro)
    | (go_at_call 61; clear sa1; refine (wNeg_any ab ap an ac P _ (A.upper lA'.out)).mono ?_; rintro e w' ⟨eb, eo, en, ec, rfl, h1, hb⟩; have bb := below_then bb (Nat.le_refl _) hb; have x0 := x0.later hb; have x1 := x1.later hb; have A := A.below hb; clear hb; have sa2 := True.intro)
    | (go_at_call 60; clear sa2; refine (over_w eb eo aq en ec am ae (-P) Q _ h1 (A.lower lA'.out)).mono ?_; rintro e w' ⟨gb, gp, gn, gc, gq, gm, ge, rfl, hR, hb⟩; have bb := below_then bb (Nat.le_refl _) hb; have x0 := x0.later hb; have x1 := x1.later hb; have A := A.below hb; have h1 := h1.below hb; clear hb; have q0 := x1.c0; have q1 := x1.c1; have q2 := x1.c2; have q3 := x1.fr 0; have q4 := x1.fr 1; have q5 := x1.fr 2; have sa3 := True.intro))
  have z := x1.set (.bool gb) (.slice gp gn gc) (.slice gq gm ge)
  have e0 := z.c0; have e1 := z.c1; have e2 := z.c2
  have x1' := Lib.hid x1; have bb' := Lib.hid bb; have hR' := Lib.hid hR
  clear z x1 bb x0 A hR
  go_wp2_with fail
  refine bodyPost_ret (v := .agg #[.bool gb, .slice gp gn gc, .slice gq gm ge]) (by simp [results, Try.results30, go_sem, e0, e1, e2]) rfl ?_
  exact RatPost.stored hR'.out x1'.out bb'.out (by omega)

set_option maxHeartbeats 1000000 in
theorem abs_any (ab : Bool) (ap aq : Option Addr) (an ac am ae : Nat) (P : Int) (Q : Nat) (w : World) (A : Rt w ab ap an ac aq am ae P Q) (lA : Low P Q) :
    Calls Try.prog 31 #[.agg #[.bool ab, .slice ap an ac, .slice aq am ae]] w (RatPost (P.natAbs) Q w) := by
  have lA' := Lib.hid lA
  have A' := Lib.hid A
  clear lA A
  go_enter Try.func31, Try.ntmps31
  go_wp2_with fail
  refine gen_wp (fun w' => Below w.heap.size w w' ∧ Box3 w' w.heap.size (.bool ab) (.slice ap an ac) (.slice aq am ae) ∧ Box3 w' (w.heap.size + 1) (.bool false) (.slice none 0 0) (.slice none 0 0))
    ⟨(((Below.refl _ _).alloc (Nat.le_refl _) _).alloc (by first | (simp; done) | (simp; omega)) _), ((Box3.new _ _ _ _ rfl).alloc _), (Box3.new _ _ _ _ (by first | (simp; done) | (simp; omega)))⟩ ?_
  rintro w0 ⟨bb, x0, x1⟩
  have bb := bb.drew; have x0 := x0.drew; have x1 := x1.drew
  have A := A'.out.below bb
  clear A'
  have sb0 := True.intro
  go_region_held3 (fun w' => w'.cell? ⟨w.heap.size, 0, none⟩ = some (.bool ab) ∧ w'.cell? ⟨w.heap.size, 1, none⟩ = some (.slice ap an ac) ∧ w'.cell? ⟨w.heap.size, 2, none⟩ = some (.slice aq am ae))
    (first | with_reducible exact ⟨x0.c0, x0.c1, x0.c2⟩ | with_reducible exact ⟨(x0.other3 (by omega) _ _ _).c0, (x0.other3 (by omega) _ _ _).c1, (x0.other3 (by omega) _ _ _).c2⟩ | go_keep)
    (first
    | (go_at_call 62; clear sb0; refine (wNorm_any false ap an ac P.natAbs _ (A.upper lA'.out).nat).mono ?_; rintro e w' ⟨eb, eo, en, ec, rfl, h1, hb⟩; have bb := below_then bb (Nat.le_refl _) hb; have x0 := x0.later hb; have x1 := x1.later hb; have A := A.below hb; clear hb; have sb1 := True.intro)
    | (go_at_call 60; clear sb1; refine (over_w eb eo aq en ec am ae (P.natAbs) Q _ h1 (A.lower lA'.out)).mono ?_; rintro e w' ⟨gb, gp, gn, gc, gq, gm, ge, rfl, hR, hb⟩; have bb := below_then bb (Nat.le_refl _) hb; have x0 := x0.later hb; have x1 := x1.later hb; have A := A.below hb; have h1 := h1.below hb; clear hb; have q0 := x1.c0; have q1 := x1.c1; have q2 := x1.c2; have q3 := x1.fr 0; have q4 := x1.fr 1; have q5 := x1.fr 2; have sb2 := True.intro))
  have z := x1.set (.bool gb) (.slice gp gn gc) (.slice gq gm ge)
  have e0 := z.c0; have e1 := z.c1; have e2 := z.c2
  have x1' := Lib.hid x1; have bb' := Lib.hid bb; have hR' := Lib.hid hR
  clear z x1 bb x0 A hR
  go_wp2_with fail
  refine bodyPost_ret (v := .agg #[.bool gb, .slice gp gn gc, .slice gq gm ge]) (by simp [results, Try.results31, go_sem, e0, e1, e2]) rfl ?_
  exact RatPost.stored hR'.out x1'.out bb'.out (by omega)

theorem mul_32 {x y : Int} (hx : x.natAbs < pw 32) (hy : y.natAbs < pw 32) : (x * y).natAbs < pw 64 := mul_abs hx hy

set_option maxHeartbeats 2000000 in
theorem cmp4_any (ab : Bool) (ap aq : Option Addr) (an ac am ae : Nat) (P : Int) (Q : Nat) (cb : Bool) (cp cq : Option Addr) (cn cc cm ce : Nat) (R : Int) (S : Nat) (w : World) (A : Rt w ab ap an ac aq am ae P Q) (lA : Low P Q) (B : Rt w cb cp cn cc cq cm ce R S) (lB : Low R S) :
    Calls Try.prog 19 #[.agg #[.bool ab, .slice ap an ac, .slice aq am ae], .agg #[.bool cb, .slice cp cn cc, .slice cq cm ce]] w (Says (.int .i64 (cmpI (P * S) (R * Q))) w) := by
  have lA' := Lib.hid lA; have lB' := Lib.hid lB
  have A' := Lib.hid A; have B' := Lib.hid B
  clear lA A lB B
  go_enter Try.func19, Try.ntmps19
  go_wp2_with fail
  refine gen_wp (fun w' => Below w.heap.size w w' ∧ Box3 w' w.heap.size (.bool ab) (.slice ap an ac) (.slice aq am ae) ∧ Box3 w' (w.heap.size + 1) (.bool cb) (.slice cp cn cc) (.slice cq cm ce))
    ⟨(((Below.refl _ _).alloc (Nat.le_refl _) _).alloc (by first | (simp; done) | (simp; omega)) _), ((Box3.new _ _ _ _ rfl).alloc _), (Box3.new _ _ _ _ (by first | (simp; done) | (simp; omega)))⟩ ?_
  rintro w0 ⟨bb, x0, x1⟩
  have bb := bb.drew; have x0 := x0.drew; have x1 := x1.drew
  have A := A'.out.below bb; have B := B'.out.below bb
  clear A' B'
  have sc0 := True.intro
  go_region_held3 (fun w' => w'.cell? ⟨w.heap.size, 0, none⟩ = some (.bool ab) ∧ w'.cell? ⟨w.heap.size, 1, none⟩ = some (.slice ap an ac) ∧ w'.cell? ⟨w.heap.size, 2, none⟩ = some (.slice aq am ae) ∧ w'.cell? ⟨(w.heap.size + 1), 0, none⟩ = some (.bool cb) ∧ w'.cell? ⟨(w.heap.size + 1), 1, none⟩ = some (.slice cp cn cc) ∧ w'.cell? ⟨(w.heap.size + 1), 2, none⟩ = some (.slice cq cm ce))
    (first | with_reducible exact ⟨x0.c0, x0.c1, x0.c2, x1.c0, x1.c1, x1.c2⟩ | go_keep)
    (first
    | (go_at_call 45; clear sc0; refine (upper_any ab ap aq an ac am ae _).mono ?_; rintro e w' ⟨rfl, hb⟩; have bb := below_then bb (Nat.le_refl _) hb; have x0 := x0.later hb; have x1 := x1.later hb; have A := A.below hb; have B := B.below hb; clear hb; have sc1 := True.intro)
    | (go_at_call 46; clear sc1; refine (lower_any cb cp cq cn cc cm ce _).mono ?_; rintro e w' ⟨rfl, hb⟩; have bb := below_then bb (Nat.le_refl _) hb; have x0 := x0.later hb; have x1 := x1.later hb; have A := A.below hb; have B := B.below hb; clear hb; have sc2 := True.intro)
    | (go_at_call 44; clear sc2; refine (wMul_any ab false ap cq an ac cm ce P S _ (A.upper lA'.out) (B.lower lB'.out)).mono ?_; rintro e w' ⟨eb, eo, en, ec, rfl, h1, hb⟩; have bb := below_then bb (Nat.le_refl _) hb; have x0 := x0.later hb; have x1 := x1.later hb; have A := A.below hb; have B := B.below hb; clear hb; have sc3 := True.intro)
    | (go_at_call 45; clear sc3; refine (upper_any cb cp cq cn cc cm ce _).mono ?_; rintro e w' ⟨rfl, hb⟩; have bb := below_then bb (Nat.le_refl _) hb; have x0 := x0.later hb; have x1 := x1.later hb; have A := A.below hb; have B := B.below hb; have h1 := h1.below hb; clear hb; have sc4 := True.intro)
    | (go_at_call 46; clear sc4; refine (lower_any ab ap aq an ac am ae _).mono ?_; rintro e w' ⟨rfl, hb⟩; have bb := below_then bb (Nat.le_refl _) hb; have x0 := x0.later hb; have x1 := x1.later hb; have A := A.below hb; have B := B.below hb; have h1 := h1.below hb; clear hb; have sc5 := True.intro)
    | (go_at_call 44; clear sc5; refine (wMul_any cb false cp aq cn cc am ae R Q _ (B.upper lB'.out) (A.lower lA'.out)).mono ?_; rintro e w' ⟨fb, fo, fn, fc, rfl, h2, hb⟩; have bb := below_then bb (Nat.le_refl _) hb; have x0 := x0.later hb; have x1 := x1.later hb; have A := A.below hb; have B := B.below hb; have h1 := h1.below hb; clear hb; have sc6 := True.intro)
    | (go_at_call 50; clear sc6; refine (wCmp_any eb fb eo fo en ec fn fc (P * S) (R * Q) _ (h1.whole (mul_32 lA'.out.abs_lt lB'.out.bot_lt) (by omega)) (h2.whole (mul_32 lB'.out.abs_lt lA'.out.bot_lt) (by omega))).mono ?_; rintro e w' ⟨rfl, hb⟩; have bb := below_then bb (Nat.le_refl _) hb; have x0 := x0.later hb; have x1 := x1.later hb; have A := A.below hb; have B := B.below hb; have h1 := h1.below hb; have h2 := h2.below hb; clear hb; have sc7 := True.intro))
  have bb' := Lib.hid bb
  clear bb x0 x1 A B h1 h2
  go_wp2_with fail
  go_ret
  exact ⟨rfl, bb'.out⟩

end Go.Proofs.Ytnnipciifjpooaa
