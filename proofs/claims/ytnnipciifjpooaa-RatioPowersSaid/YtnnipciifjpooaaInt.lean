/-
  Whole numbers with a sign: what the walks say of them ('Whole': a sign and a slice of limbs make this number; 'IntPost': a call hands back this number, its limbs without noughts on top, its sign below 0 alone); whole.signed and whole.Norm.
-/
import Derived.Test.YtnnipciifjpooaaNorm
import Derived.Deep.RegionHeld3
import Derived.Deep.DrawnRows
namespace Go.Proofs.Ytnnipciifjpooaa
open Go.RowKit Num

/-- The number of a sign and a size. -/
def sgn (b : Bool) (v : Nat) : Int := if b then -(v : Int) else v
theorem sgn_false (v : Nat) : sgn false v = v := rfl
theorem sgn_true (v : Nat) : sgn true v = -(v : Int) := rfl
theorem sgn_abs (b : Bool) (v : Nat) : (sgn b v).natAbs = v := by cases b <;> simp [sgn]
theorem sgn_neg (b : Bool) (v : Nat) : decide (sgn b v < 0) = (b && decide (0 < v)) := by
  cases b
  · simp [sgn]
  · by_cases h : 0 < v
    · simp [sgn, h]
    · have : v = 0 := by omega
      subst this; simp [sgn]
theorem sgn_self (x : Int) : sgn (decide (x < 0)) x.natAbs = x := by
  by_cases h : x < 0
  · simp only [h, decide_true, sgn]; simp; omega
  · simp only [h, decide_false, sgn]; simp; omega
theorem sgn_not (b : Bool) (v : Nat) : sgn (!b) v = -sgn b v := by cases b <;> simp [sgn]

theorem sgn_mul (b c : Bool) (u v : Nat) : sgn b u * sgn c v = sgn (!(b == c)) (u * v) := by cases b <;> cases c <;> simp [sgn, Int.neg_mul, Int.mul_neg]
theorem sgn_add (b : Bool) (u v : Nat) : sgn b u + sgn b v = sgn b (u + v) := by cases b <;> simp [sgn] <;> omega
theorem sgn_sub {b c : Bool} (h : b ≠ c) {u v : Nat} (hv : v ≤ u) : sgn b u + sgn c v = sgn b (u - v) := by
  cases b <;> cases c <;> simp [sgn] at h ⊢ <;> omega

/-- A sign and a slice of limbs, handed in to be read, make the number x. -/
structure Whole (w : World) (b : Bool) (ao : Option Addr) (n nc : Nat) (x : Int) : Prop where
  ex : ∃ f, Arg w ao n nc f ∧ sgn b (val f n) = x

theorem Whole.below {w w' : World} {b : Bool} {ao : Option Addr} {n nc : Nat} {x : Int} (h : Whole w b ao n nc x) (hb : Below w.heap.size w w') : Whole w' b ao n nc x := by
  obtain ⟨f, A, e⟩ := h.ex
  exact ⟨f, A.below hb, e⟩

/-- A sign and a slice of limbs as a call hands them back: no noughts on top, 0 has no sign. -/
structure Right (w : World) (b : Bool) (ao : Option Addr) (n nc : Nat) (x : Int) : Prop where
  ex : ∃ f, n ≤ nc ∧ nc ≤ 9223372036854775807 ∧ Sl w ao n f ∧ Canon x.natAbs n f ∧ b = decide (x < 0)

theorem Right.below {w w' : World} {b : Bool} {ao : Option Addr} {n nc : Nat} {x : Int} (h : Right w b ao n nc x) (hb : Below w.heap.size w w') : Right w' b ao n nc x := by
  obtain ⟨f, h1, h2, h3, h4, h5⟩ := h.ex
  exact ⟨f, h1, h2, h3.below hb, h4, h5⟩
theorem Right.whole {w : World} {b : Bool} {ao : Option Addr} {n nc k : Nat} {x : Int} (h : Right w b ao n nc x) (hx : x.natAbs < pw k) (hk : k ≤ 1000000) : Whole w b ao n nc x := by
  obtain ⟨f, h1, h2, h3, h4, rfl⟩ := h.ex
  refine ⟨f, ⟨h1, h2, Nat.le_trans (h4.len_le hx) hk, h3, h4.lim⟩, ?_⟩
  rw [h4.val]; exact sgn_self x
theorem Right.neg {w : World} {b : Bool} {ao : Option Addr} {n nc : Nat} {x : Int} (h : Right w b ao n nc x) : b = decide (x < 0) := by
  obtain ⟨f, _, _, _, _, h⟩ := h.ex
  exact h

/-- The number x comes back; what lay there before lies there still. -/
def IntPost (x : Int) (w : World) (e : Ending) (w' : World) : Prop :=
  ∃ b ao n nc, e = .returned (.agg #[.bool b, .slice ao n nc]) ∧ Right w' b ao n nc x ∧ Below w.heap.size w w'

set_option maxHeartbeats 400000 in
/-- whole.signed: a sign put to limbs, but to none. -/
theorem signed_any (b : Bool) (ao : Option Addr) (v n nc : Nat) (f : Nat → Nat) (w : World) (hn : n ≤ nc) (hc : nc ≤ 9223372036854775807) (hs : Sl w ao n f) (cf : Canon v n f) :
    Calls Try.prog 72 #[.bool b, .slice ao n nc] w (IntPost (sgn b v) w) := by
  have hs' := Lib.hid hs; have cf' := Lib.hid cf
  have hb := Lib.hid (Below.refl w.heap.size w)
  clear hs cf
  have hd : (b && decide ((0 : Int) < (n : Int))) = decide (sgn b v < 0) := by
    rw [sgn_neg]
    congr 1
    have := cf'.out.ne_zero
    simp only [decide_eq_decide]
    omega
  have hd' := Lib.hid hd
  clear hd
  cases b
  · go_enter Try.func72, Try.ntmps72
    go_wp2_with fail
    refine bodyPost_ret (v := .agg #[.bool false, .slice ao n nc]) (by simp [results, Try.results72, go_sem]) rfl ?_
    have hb2 : Below w.heap.size w (w.alloc (.cells #[.bool false, .slice ao n nc] 48)) := (Below.refl _ w).alloc (Nat.le_refl _) _
    refine ⟨false, ao, n, nc, rfl, ⟨f, hn, hc, hs'.out.below hb2, by rw [sgn_abs]; exact cf'.out, ?_⟩, hb2⟩
    simpa using hd'.out
  · by_cases h0 : n = 0
    · subst h0
      go_enter Try.func72, Try.ntmps72
      go_wp2_with fail
      refine bodyPost_ret (v := .agg #[.bool false, .slice ao 0 nc]) (by simp [results, Try.results72, go_sem]) rfl ?_
      have hb2 : Below w.heap.size w (w.alloc (.cells #[.bool false, .slice ao 0 nc] 48)) := (Below.refl _ w).alloc (Nat.le_refl _) _
      refine ⟨false, ao, 0, nc, rfl, ⟨f, hn, hc, hs'.out.below hb2, by rw [sgn_abs]; exact cf'.out, ?_⟩, hb2⟩
      simpa using hd'.out
    · go_enter Try.func72, Try.ntmps72
      go_wp2_with fail
      simp only [Nat.pos_of_ne_zero h0, decide_true]
      refine bodyPost_ret (v := .agg #[.bool true, .slice ao n nc]) (by simp [results, Try.results72, go_sem]) rfl ?_
      have hb2 : Below w.heap.size w (w.alloc (.cells #[.bool true, .slice ao n nc] 48)) := (Below.refl _ w).alloc (Nat.le_refl _) _
      refine ⟨true, ao, n, nc, rfl, ⟨f, hn, hc, hs'.out.below hb2, by rw [sgn_abs]; exact cf'.out, ?_⟩, hb2⟩
      simpa [Nat.pos_of_ne_zero h0] using hd'.out

/-- A block of two cells, none of them frozen. -/
structure Box (w : World) (B : Nat) (v0 v1 : Value) : Prop where
  c0 : w.cell? ⟨B, 0, none⟩ = some v0
  c1 : w.cell? ⟨B, 1, none⟩ = some v1
  fr : ∀ j, w.frozen? ⟨B, j, none⟩ = false

theorem Box.lt {w : World} {B : Nat} {v0 v1 : Value} (h : Box w B v0 v1) : B < w.heap.size := World.block_lt_of_cell? w _ h.c0
theorem Box.new {w : World} {B : Nat} (v0 v1 : Value) (t : TypeId) (h : B = w.heap.size) : Box (w.alloc (.cells #[v0, v1] t)) B v0 v1 := by
  subst h
  exact ⟨by simp, by simp, fun j => by
    have hh := heap_alloc_new w (.cells #[v0, v1] t)
    simp only [World.frozen?, hh]
    simp⟩
theorem Box.below {w w' : World} {B C : Nat} {v0 v1 : Value} (h : Box w B v0 v1) (hb : Below C w w') (hC : B < C) : Box w' B v0 v1 :=
  ⟨(hb.cell hC).trans h.c0, (hb.cell hC).trans h.c1, fun j => (hb.frozen hC).trans (h.fr j)⟩
theorem Box.later {w w' : World} {B : Nat} {v0 v1 : Value} (h : Box w B v0 v1) (hb : Below w.heap.size w w') : Box w' B v0 v1 := h.below hb h.lt
theorem Box.alloc {w : World} {B : Nat} {v0 v1 : Value} (h : Box w B v0 v1) (o : Obj) : Box (w.alloc o) B v0 v1 := h.later ((Below.refl _ w).alloc (Nat.le_refl _) o)
theorem Box.drew {w : World} {B : Nat} {v0 v1 : Value} (h : Box w B v0 v1) : Box w.drew B v0 v1 := ⟨h.c0, h.c1, h.fr⟩
theorem Box.set {w : World} {B : Nat} {v0 v1 : Value} (h : Box w B v0 v1) (u0 u1 : Value) : Box ((w.setCell ⟨B, 0, none⟩ u0).setCell ⟨B, 1, none⟩ u1) B u0 u1 := by
  refine ⟨?_, ?_, fun j => by rw [World.frozen?_setCell, World.frozen?_setCell]; exact h.fr j⟩
  · rw [World.cell?_setCell_other _ _ _ _ (fun e => by injection e with _ e2; omega)]
    exact World.cell?_setCell_same _ _ _ h.c0
  · refine World.cell?_setCell_same _ _ _ (?_ : _ = some v1)
    rw [World.cell?_setCell_other _ _ _ _ (fun e => by injection e with _ e2; omega)]
    exact h.c1
theorem Box.other {w : World} {B C : Nat} {v0 v1 : Value} (h : Box w B v0 v1) (hne : B ≠ C) (u0 u1 : Value) : Box ((w.setCell ⟨C, 0, none⟩ u0).setCell ⟨C, 1, none⟩ u1) B v0 v1 := by
  have ne : ∀ j k, (⟨B, j, none⟩ : Addr) ≠ ⟨C, k, none⟩ := fun j k e => hne (by injection e)
  refine ⟨?_, ?_, fun j => by rw [World.frozen?_setCell, World.frozen?_setCell]; exact h.fr j⟩
  · rw [World.cell?_setCell_other _ _ _ _ (ne _ _).symm, World.cell?_setCell_other _ _ _ _ (ne _ _).symm]; exact h.c0
  · rw [World.cell?_setCell_other _ _ _ _ (ne _ _).symm, World.cell?_setCell_other _ _ _ _ (ne _ _).symm]; exact h.c1
theorem below_set {w w' : World} {A B : Nat} (h : Below A w w') (hB : A ≤ B) (u0 u1 : Value) : Below A w ((w'.setCell ⟨B, 0, none⟩ u0).setCell ⟨B, 1, none⟩ u1) := (h.setCell (p := ⟨B, 0, none⟩) hB u0).setCell (p := ⟨B, 1, none⟩) hB u1
theorem below_then {w w1 w2 : World} {A : Nat} (h : Below A w w1) (hA : A ≤ w.heap.size) (k : Below w1.heap.size w1 w2) : Below A w w2 := h.trans (k.mono (Nat.le_trans hA h.size))
theorem Sl.set {w : World} {ao : Option Addr} {n B : Nat} {f : Nat → Nat} (h : Sl w ao n f) (hB : Off B ao n) (u0 u1 : Value) : Sl ((w.setCell ⟨B, 0, none⟩ u0).setCell ⟨B, 1, none⟩ u1) ao n f := by
  rcases h with rfl | ⟨c, off, rfl, hc⟩
  · exact .inl rfl
  · rcases hB with rfl | hB
    · exact .inl rfl
    · have hne : c ≠ B := hB _ rfl
      refine .inr ⟨c, off, rfl, fun j hj => ?_⟩
      rw [World.cell?_setCell_other _ _ _ _ (fun e => hne (by injection e with e1 _; exact e1.symm)), World.cell?_setCell_other _ _ _ _ (fun e => hne (by injection e with e1 _; exact e1.symm))]
      exact hc j hj

theorem Sl.box {w : World} {ao : Option Addr} {n B : Nat} {f : Nat → Nat} {c : Bool} {p : Option Addr} {k l : Nat} (h : Sl w ao n f) (z : Box w B (.bool c) (.slice p k l)) (u0 u1 : Value) : Sl ((w.setCell ⟨B, 0, none⟩ u0).setCell ⟨B, 1, none⟩ u1) ao n f := by
  rcases h with rfl | ⟨d, off, rfl, hc⟩
  · exact .inl rfl
  · refine .inr ⟨d, off, rfl, fun j hj => ?_⟩
    have e := hc j hj
    rw [World.cell?_setCell_other _ _ _ _ (fun e1 => by rw [← e1, z.c1] at e; cases e), World.cell?_setCell_other _ _ _ _ (fun e1 => by rw [← e1, z.c0] at e; cases e)]
    exact e
theorem Right.box {w : World} {b : Bool} {ao : Option Addr} {n nc B : Nat} {x : Int} {c : Bool} {p : Option Addr} {k l : Nat} (h : Right w b ao n nc x) (z : Box w B (.bool c) (.slice p k l)) (u0 u1 : Value) : Right ((w.setCell ⟨B, 0, none⟩ u0).setCell ⟨B, 1, none⟩ u1) b ao n nc x := by
  obtain ⟨f, h1, h2, h3, h4, h5⟩ := h.ex
  exact ⟨f, h1, h2, h3.box z u0 u1, h4, h5⟩
theorem Whole.box {w : World} {b : Bool} {ao : Option Addr} {n nc B : Nat} {x : Int} {c : Bool} {p : Option Addr} {k l : Nat} (h : Whole w b ao n nc x) (z : Box w B (.bool c) (.slice p k l)) (u0 u1 : Value) : Whole ((w.setCell ⟨B, 0, none⟩ u0).setCell ⟨B, 1, none⟩ u1) b ao n nc x := by
  obtain ⟨f, A, e⟩ := h.ex
  exact ⟨f, ⟨A.len, A.cap, A.few, A.sl.box z u0 u1, A.lim⟩, e⟩
/-- What was made is laid into the block of the result. -/
theorem IntPost.stored {w w2 : World} {b : Bool} {ao : Option Addr} {n nc B : Nat} {x : Int} {c : Bool} {p : Option Addr} {k l : Nat} (h : Right w2 b ao n nc x) (z : Box w2 B (.bool c) (.slice p k l)) (hb : Below w.heap.size w w2) (hB : w.heap.size ≤ B) :
    IntPost x w (.returned (.agg #[.bool b, .slice ao n nc])) ((w2.setCell ⟨B, 0, none⟩ (.bool b)).setCell ⟨B, 1, none⟩ (.slice ao n nc)) :=
  ⟨b, ao, n, nc, rfl, h.box z _ _, below_set hb hB _ _⟩

/-- The world, told by what is known of it. -/
theorem gen_wp {P : Program} {c : Code} {Q : Exit → Act → World → Prop} {a : Act} {W : World} (R : World → Prop) (hW : R W) (h : ∀ w', R w' → Code.wp P c Q a w') : Code.wp P c Q a W := h W hW
theorem gen_calls {P : Program} {f : FuncId} {args : Array Value} {Q : Ending → World → Prop} {W : World} (R : World → Prop) (hW : R W) (h : ∀ w', R w' → Calls P f args w' Q) : Calls P f args W Q := h W hW

attribute [local go_sem ↓] Go.wp_at_zero Go.wp_at_succ

set_option maxHeartbeats 1000000 in
/-- whole.Norm -/
theorem wNorm_any (b : Bool) (ao : Option Addr) (n nc : Nat) (x : Int) (w : World) (A : Whole w b ao n nc x) :
    Calls Try.prog 62 #[.agg #[.bool b, .slice ao n nc]] w (IntPost x w) := by
  obtain ⟨f, A, hx⟩ := A.ex
  have A' := Lib.hid A; have hx' := Lib.hid hx
  clear A hx
  go_enter Try.func62, Try.ntmps62
  go_wp2_with fail
  refine gen_wp (fun w' => Below w.heap.size w w' ∧ Box w' w.heap.size (.bool b) (.slice ao n nc) ∧ Box w' (w.heap.size + 1) (.bool false) (.slice none 0 0))
    ⟨((Below.refl _ w).alloc (Nat.le_refl _) _).alloc (by simp) _, (Box.new _ _ _ rfl).alloc _, Box.new _ _ _ (by simp)⟩ ?_
  rintro w0 ⟨hb0, x0, x1⟩
  have hb0 := hb0.drew; have x0 := x0.drew; have x1 := x1.drew
  go_region_held3 (fun w' => w'.cell? ⟨w.heap.size, 0, none⟩ = some (.bool b) ∧ w'.cell? ⟨w.heap.size, 1, none⟩ = some (.slice ao n nc))
    (first | exact ⟨x0.c0, x0.c1⟩ | exact ⟨y0.c0, y0.c1⟩ | exact ⟨z0.c0, z0.c1⟩ | exact ⟨(z0.other (by omega) _ _).c0, (z0.other (by omega) _ _).c1⟩)
    (first
    | (go_at_call 86; refine (norm_any ao n nc f _ (A'.out.below hb0)).mono ?_; rintro e w1 ⟨co, cn, cc, c, rfl, h1, h2, h3, h4, hb⟩; have y0 := x0.later hb; have y1 := x1.later hb)
    | (go_at_call 72; refine (signed_any b co _ cn cc c _ h1 h2 h3 h4).mono ?_; rintro e w2 ⟨sb, so, sn, sc, rfl, hR, hb2⟩; have z0 := y0.later hb2; have z1 := y1.later hb2; have q1 := z1.c0; have q2 := z1.c1; have q3 := z1.fr 0; have q4 := z1.fr 1))
  have z2 := z1.set (.bool sb) (.slice so sn sc)
  have e0 := z2.c0; have e1 := z2.c1
  go_wp2_with fail
  refine bodyPost_ret (v := .agg #[.bool sb, .slice so sn sc]) (by simp [results, Try.results62, go_sem, e0, e1]) rfl ?_
  rw [← hx'.out]
  exact IntPost.stored hR z1 (below_then (below_then hb0 (Nat.le_refl _) hb) (Nat.le_refl _) hb2) (by omega)

end Go.Proofs.Ytnnipciifjpooaa
