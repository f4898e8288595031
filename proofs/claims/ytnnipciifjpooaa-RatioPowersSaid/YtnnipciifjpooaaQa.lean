/-
  Rational numbers: what Make tells of two whole ones (mkE the error, mkT the top with its sign, mkB the bottom), numbers in lowest terms ('Low'), facts on these; blocks of three cells ('Box3'); a number as a call hands it back ('Rt': its top and its bottom without noughts on top; 'ResPost': with an error; 'RatPost': without).
-/
import Derived.Test.YtnnipciifjpooaaWb
namespace Go.Proofs.Ytnnipciifjpooaa
open Go.RowKit Num

/-- In lowest terms, of at most 32 limbs each. -/
def Low (P : Int) (Q : Nat) : Prop := Q ≠ 0 ∧ Nat.gcd P.natAbs Q = 1 ∧ P.natAbs < pw 32 ∧ Q < pw 32
/-- What Make tells of p by q: the error, the top, the bottom. -/
def mkG (p q : Int) : Nat := Nat.gcd p.natAbs q.natAbs
def mkE (p q : Int) : Int := if q = 0 then 3 else if p.natAbs / mkG p q < pw 32 ∧ q.natAbs / mkG p q < pw 32 then 0 else 7
def mkT (p q : Int) : Int := if mkE p q = 0 then sgn (decide (p.sign * q.sign < 0)) (p.natAbs / mkG p q) else 0
def mkB (p q : Int) : Nat := if mkE p q = 0 then q.natAbs / mkG p q else 0

theorem mkG_pos {p q : Int} (hq : q ≠ 0) : 0 < mkG p q := Nat.gcd_pos_of_pos_right _ (by omega)
theorem mkE_ok {p q : Int} : mkE p q = 0 ↔ q ≠ 0 ∧ p.natAbs / mkG p q < pw 32 ∧ q.natAbs / mkG p q < pw 32 := by
  unfold mkE
  by_cases h : q = 0
  · simp [h]
  · by_cases k : p.natAbs / mkG p q < pw 32 ∧ q.natAbs / mkG p q < pw 32
    · simp only [h, k, if_false, if_true, ne_eq, not_false_eq_true, and_self]
    · simp only [h, k, if_false, ne_eq, not_false_eq_true, true_and, iff_false]
      decide
theorem mkE_cases (p q : Int) : mkE p q = 0 ∨ mkE p q = 3 ∨ mkE p q = 7 := by
  unfold mkE; repeat' split
  all_goals simp
theorem mk_bad {p q : Int} (h : mkE p q ≠ 0) : mkT p q = 0 ∧ mkB p q = 0 := by simp [mkT, mkB, h]
theorem mk_three {p q : Int} : mkE p q = 3 ↔ q = 0 := by
  unfold mkE
  by_cases h : q = 0
  · simp [h]
  · simp only [h, if_false, iff_false]; split <;> decide
theorem mkT_ok {p q : Int} (h : mkE p q = 0) : mkT p q = sgn (decide (p.sign * q.sign < 0)) (p.natAbs / mkG p q) := by simp [mkT, h]
theorem mkB_ok {p q : Int} (h : mkE p q = 0) : mkB p q = q.natAbs / mkG p q := by simp [mkB, h]
theorem mkT_abs {p q : Int} (h : mkE p q = 0) : (mkT p q).natAbs = p.natAbs / mkG p q := by rw [mkT_ok h, sgn_abs]
theorem mkT_le (p q : Int) : (mkT p q).natAbs ≤ p.natAbs := by
  by_cases h : mkE p q = 0
  · rw [mkT_abs h]; exact Nat.div_le_self _ _
  · rw [(mk_bad h).1]; exact Nat.zero_le _
theorem mkB_le (p q : Int) : mkB p q ≤ q.natAbs := by
  by_cases h : mkE p q = 0
  · rw [mkB_ok h]; exact Nat.div_le_self _ _
  · rw [(mk_bad h).2]; exact Nat.zero_le _
theorem mkT_lt (p q : Int) : (mkT p q).natAbs < pw 32 := by
  by_cases h : mkE p q = 0
  · rw [mkT_abs h]; exact (mkE_ok.1 h).2.1
  · rw [(mk_bad h).1]; exact pw_pos _
theorem mkB_lt (p q : Int) : mkB p q < pw 32 := by
  by_cases h : mkE p q = 0
  · rw [mkB_ok h]; exact (mkE_ok.1 h).2.2
  · rw [(mk_bad h).2]; exact pw_pos _
theorem mkE_small {p q : Int} (hq : q ≠ 0) (hp : p.natAbs < pw 32) (h : q.natAbs < pw 32) : mkE p q = 0 :=
  mkE_ok.2 ⟨hq, Nat.lt_of_le_of_lt (Nat.div_le_self _ _) hp, Nat.lt_of_le_of_lt (Nat.div_le_self _ _) h⟩
theorem mk_low {p q : Int} (h : mkE p q = 0) : Low (mkT p q) (mkB p q) := by
  obtain ⟨hq, h1, h2⟩ := mkE_ok.1 h
  have hg := mkG_pos (p := p) hq
  refine ⟨?_, ?_, mkT_lt _ _, mkB_lt _ _⟩
  · rw [mkB_ok h]
    have : mkG p q ≤ q.natAbs := Nat.gcd_le_right _ (by omega)
    have := Nat.div_pos this hg
    omega
  · rw [mkT_abs h, mkB_ok h]
    rw [mkG, Nat.gcd_div (Nat.gcd_dvd_left _ _) (Nat.gcd_dvd_right _ _)]; exact Nat.div_self hg
theorem abs_sign (x : Int) : (x.natAbs : Int) * x.sign = x := by rw [Int.mul_comm]; exact Int.sign_mul_natAbs x
theorem sgn_sign {x : Int} {v : Nat} (h' : x = 0 → v = 0) : sgn (decide (x < 0)) v = x.sign * v := by
  rcases Int.lt_trichotomy x 0 with hx | hx | hx
  · rw [Int.sign_eq_neg_one_of_neg hx]; simp [hx, sgn]
  · rw [hx, h' hx]; simp [sgn]
  · rw [Int.sign_eq_one_of_pos hx]; simp [sgn, Int.not_lt.2 (Int.le_of_lt hx)]
theorem mk_cross {p q : Int} (h : mkE p q = 0) : mkT p q * q = p * mkB p q := by
  obtain ⟨hq, _, _⟩ := mkE_ok.1 h
  have hg := mkG_pos (p := p) hq
  have e1 : mkG p q * (p.natAbs / mkG p q) = p.natAbs := Nat.mul_div_cancel' (Nat.gcd_dvd_left _ _)
  have e2 : mkG p q * (q.natAbs / mkG p q) = q.natAbs := Nat.mul_div_cancel' (Nat.gcd_dvd_right _ _)
  rw [mkT_ok h, mkB_ok h]
  generalize p.natAbs / mkG p q = a at *
  generalize q.natAbs / mkG p q = b at *
  generalize mkG p q = g at *
  have es : (p.sign * q.sign).sign = p.sign * q.sign := by rw [Int.sign_mul, Int.sign_sign, Int.sign_sign]
  have k1 : p.sign * q.sign = 0 → a = 0 := by
    intro h0
    rcases Int.mul_eq_zero.1 h0 with h1 | h1
    · have : p = 0 := Int.sign_eq_zero_iff_zero.1 h1
      subst this
      rcases Nat.mul_eq_zero.1 (e1.trans rfl) with h2 | h2
      · omega
      · exact h2
    · exact absurd (Int.sign_eq_zero_iff_zero.1 h1) hq
  rw [sgn_sign k1, es]
  have sq : q.sign * q.sign = 1 := by
    rcases Int.lt_or_gt_of_ne hq with h1 | h1
    · rw [Int.sign_eq_neg_one_of_neg h1]; rfl
    · rw [Int.sign_eq_one_of_pos h1]; rfl
  have ep := abs_sign p
  have eq := abs_sign q
  have f1 : (g : Int) * a = p.natAbs := by exact_mod_cast e1
  have f2 : (g : Int) * b = q.natAbs := by exact_mod_cast e2
  generalize p.sign = sp at *
  generalize q.sign = sq' at *
  generalize (p.natAbs : Int) = pa at *
  generalize (q.natAbs : Int) = qa at *
  generalize (a : Int) = a at *
  generalize (b : Int) = b at *
  generalize (g : Int) = g at *
  subst f1 f2 ep eq
  grind
theorem low_unique {P P' : Int} {Q Q' : Nat} (a : Low P Q) (b : Low P' Q') (h : P * Q' = P' * Q) : P = P' ∧ Q = Q' := by
  obtain ⟨a0, a1, _, _⟩ := a
  obtain ⟨b0, b1, _, _⟩ := b
  have hn : P.natAbs * Q' = P'.natAbs * Q := by
    have := congrArg Int.natAbs h
    simpa [Int.natAbs_mul] using this
  have d1 : Q ∣ Q' := (Nat.Coprime.symm a1).dvd_of_dvd_mul_left ⟨P'.natAbs, by rw [hn, Nat.mul_comm]⟩
  have d2 : Q' ∣ Q := (Nat.Coprime.symm b1).dvd_of_dvd_mul_left ⟨P.natAbs, by rw [← hn, Nat.mul_comm]⟩
  have e : Q = Q' := Nat.dvd_antisymm d1 d2
  subst e
  exact ⟨Int.eq_of_mul_eq_mul_right (by omega) h, rfl⟩
/-- A number that is right, told by any two that make it. -/
theorem mk_of_low {p q : Int} {P : Int} {Q : Nat} (a : Low P Q) (hq : q ≠ 0) (e : p * Q = P * q) : mkE p q = 0 ∧ mkT p q = P ∧ mkB p q = Q := by
  have h : mkE p q = 0 := by
    obtain ⟨a0, a1, a2, a3⟩ := a
    have hn : p.natAbs * Q = P.natAbs * q.natAbs := by
      have := congrArg Int.natAbs e
      simpa [Int.natAbs_mul] using this
    have d1 : Q ∣ q.natAbs := (Nat.Coprime.symm a1).dvd_of_dvd_mul_left ⟨p.natAbs, by rw [← hn, Nat.mul_comm]⟩
    obtain ⟨k, hk⟩ := d1
    have hp : p.natAbs = P.natAbs * k := by
      rw [hk, Nat.mul_left_comm, Nat.mul_comm] at hn
      exact Nat.eq_of_mul_eq_mul_left (by omega) hn
    have hk0 : 0 < k := by
      rcases Nat.eq_zero_or_pos k with rfl | h
      · simp at hk; omega
      · exact h
    have hg : mkG p q = k := by
      unfold mkG
      rw [hp, hk, Nat.gcd_mul_right, a1, Nat.one_mul]
    refine mkE_ok.2 ⟨hq, ?_, ?_⟩
    · rw [hg, hp, Nat.mul_div_cancel _ hk0]; exact a2
    · rw [hg, hk, Nat.mul_div_cancel _ hk0]; exact a3
  have c := mk_cross h
  refine ⟨h, low_unique (mk_low h) a ?_⟩
  refine Int.eq_of_mul_eq_mul_right hq ?_
  rw [Int.mul_right_comm, c, Int.mul_right_comm, e, Int.mul_right_comm]
theorem mk_same {p q p' q' : Int} (h : mkE p q = 0) (hq' : q' ≠ 0) (e : p * q' = p' * q) : mkE p' q' = 0 ∧ mkT p' q' = mkT p q ∧ mkB p' q' = mkB p q := by
  refine mk_of_low (mk_low h) hq' ?_
  have c := mk_cross h
  obtain ⟨hq, _, _⟩ := mkE_ok.1 h
  refine Int.eq_of_mul_eq_mul_right hq ?_
  grind
theorem Low.nz {P : Int} {Q : Nat} (a : Low P Q) : (Q : Int) ≠ 0 := by have := a.1; omega
theorem mk_self {P : Int} {Q : Nat} (a : Low P Q) : mkE P Q = 0 ∧ mkT P Q = P ∧ mkB P Q = Q := mk_of_low a a.nz rfl
theorem low_one {P : Int} (h : P.natAbs < pw 32) : Low P 1 := ⟨by omega, Nat.gcd_one_right _, h, Nat.lt_of_lt_of_le (by decide : 1 < pw 1) (pw_le (by omega))⟩
theorem low_zero {Q : Nat} (a : Low 0 Q) : Q = 1 := by have := a.2.1; simpa using this
theorem Low.neg {P : Int} {Q : Nat} (a : Low P Q) : Low (-P) Q := ⟨a.1, by rw [Int.natAbs_neg]; exact a.2.1, by rw [Int.natAbs_neg]; exact a.2.2.1, a.2.2.2⟩
theorem Low.abs {P : Int} {Q : Nat} (a : Low P Q) : Low P.natAbs Q := ⟨a.1, by rw [Int.natAbs_natCast]; exact a.2.1, by rw [Int.natAbs_natCast]; exact a.2.2.1, a.2.2.2⟩
theorem fdiv_abs (P : Int) {Q : Nat} (hQ : Q ≠ 0) : (P.fdiv Q).natAbs ≤ P.natAbs := by
  have hq : (0 : Int) < (Q : Int) := by omega
  have e := Int.fmod_add_mul_fdiv P Q
  have h1 := Int.fmod_nonneg_of_pos P hq
  have h2 := Int.fmod_lt_of_pos P hq
  generalize P.fdiv Q = f at *
  generalize P.fmod Q = r at *
  have hQ1 : (1 : Int) ≤ (Q : Int) := by omega
  by_cases hf : 0 ≤ f
  · have : 1 * f ≤ (Q : Int) * f := Int.mul_le_mul_of_nonneg_right hQ1 hf
    omega
  · have : (Q : Int) * (f + 1) ≤ 1 * (f + 1) := Int.mul_le_mul_of_nonpos_right hQ1 (by omega)
    rw [Int.mul_add] at this
    omega
theorem low_floor {P : Int} {Q : Nat} (a : Low P Q) : Low (P.fdiv Q) 1 := low_one (Nat.lt_of_le_of_lt (fdiv_abs P a.1) a.2.2.1)

/-- A block of three cells, none of them frozen. -/
structure Box3 (w : World) (B : Nat) (v0 v1 v2 : Value) : Prop where
  c0 : w.cell? ⟨B, 0, none⟩ = some v0
  c1 : w.cell? ⟨B, 1, none⟩ = some v1
  c2 : w.cell? ⟨B, 2, none⟩ = some v2
  fr : ∀ j, w.frozen? ⟨B, j, none⟩ = false

theorem Box3.lt {w : World} {B : Nat} {v0 v1 v2 : Value} (h : Box3 w B v0 v1 v2) : B < w.heap.size := World.block_lt_of_cell? w _ h.c0
theorem Box3.new {w : World} {B : Nat} (v0 v1 v2 : Value) (t : TypeId) (h : B = w.heap.size) : Box3 (w.alloc (.cells #[v0, v1, v2] t)) B v0 v1 v2 := by
  subst h
  exact ⟨by simp, by simp, by simp, fun j => by
    have hh := heap_alloc_new w (.cells #[v0, v1, v2] t)
    simp only [World.frozen?, hh]
    simp⟩
theorem Box3.below {w w' : World} {B C : Nat} {v0 v1 v2 : Value} (h : Box3 w B v0 v1 v2) (hb : Below C w w') (hC : B < C) : Box3 w' B v0 v1 v2 :=
  ⟨(hb.cell hC).trans h.c0, (hb.cell hC).trans h.c1, (hb.cell hC).trans h.c2, fun j => (hb.frozen hC).trans (h.fr j)⟩
theorem Box3.later {w w' : World} {B : Nat} {v0 v1 v2 : Value} (h : Box3 w B v0 v1 v2) (hb : Below w.heap.size w w') : Box3 w' B v0 v1 v2 := h.below hb h.lt
theorem Box3.alloc {w : World} {B : Nat} {v0 v1 v2 : Value} (h : Box3 w B v0 v1 v2) (o : Obj) : Box3 (w.alloc o) B v0 v1 v2 := h.later ((Below.refl _ w).alloc (Nat.le_refl _) o)
theorem Box3.drew {w : World} {B : Nat} {v0 v1 v2 : Value} (h : Box3 w B v0 v1 v2) : Box3 w.drew B v0 v1 v2 := ⟨h.c0, h.c1, h.c2, h.fr⟩

theorem cell_set_ne {w : World} {a b : Addr} {v : Value} (h : a ≠ b) : (w.setCell b v).cell? a = w.cell? a := World.cell?_setCell_other _ _ _ _ (fun e => h e.symm)
theorem Box3.set {w : World} {B : Nat} {v0 v1 v2 : Value} (h : Box3 w B v0 v1 v2) (u0 u1 u2 : Value) : Box3 (((w.setCell ⟨B, 0, none⟩ u0).setCell ⟨B, 1, none⟩ u1).setCell ⟨B, 2, none⟩ u2) B u0 u1 u2 := by
  have ne : ∀ {j k : Nat}, j ≠ k → (⟨B, j, none⟩ : Addr) ≠ ⟨B, k, none⟩ := fun h e => h (by injection e)
  refine ⟨?_, ?_, ?_, fun j => by rw [World.frozen?_setCell, World.frozen?_setCell, World.frozen?_setCell]; exact h.fr j⟩
  · rw [cell_set_ne (ne (by decide)), cell_set_ne (ne (by decide))]
    exact World.cell?_setCell_same _ _ _ h.c0
  · rw [cell_set_ne (ne (by decide))]
    refine World.cell?_setCell_same _ _ _ (?_ : _ = some v1)
    rw [cell_set_ne (ne (by decide))]
    exact h.c1
  · refine World.cell?_setCell_same _ _ _ (?_ : _ = some v2)
    rw [cell_set_ne (ne (by decide)), cell_set_ne (ne (by decide))]
    exact h.c2
theorem Box3.other {w : World} {B C : Nat} {v0 v1 v2 : Value} (h : Box3 w B v0 v1 v2) (hne : B ≠ C) (u0 u1 : Value) : Box3 ((w.setCell ⟨C, 0, none⟩ u0).setCell ⟨C, 1, none⟩ u1) B v0 v1 v2 := by
  have ne : ∀ j k, (⟨B, j, none⟩ : Addr) ≠ ⟨C, k, none⟩ := fun j k e => hne (by injection e)
  refine ⟨?_, ?_, ?_, fun j => by rw [World.frozen?_setCell, World.frozen?_setCell]; exact h.fr j⟩
  · rw [cell_set_ne (ne _ _), cell_set_ne (ne _ _)]; exact h.c0
  · rw [cell_set_ne (ne _ _), cell_set_ne (ne _ _)]; exact h.c1
  · rw [cell_set_ne (ne _ _), cell_set_ne (ne _ _)]; exact h.c2
theorem Box3.other3 {w : World} {B C : Nat} {v0 v1 v2 : Value} (h : Box3 w B v0 v1 v2) (hne : B ≠ C) (u0 u1 u2 : Value) : Box3 (((w.setCell ⟨C, 0, none⟩ u0).setCell ⟨C, 1, none⟩ u1).setCell ⟨C, 2, none⟩ u2) B v0 v1 v2 := by
  have ne : ∀ j k, (⟨B, j, none⟩ : Addr) ≠ ⟨C, k, none⟩ := fun j k e => hne (by injection e)
  refine ⟨?_, ?_, ?_, fun j => by rw [World.frozen?_setCell, World.frozen?_setCell, World.frozen?_setCell]; exact h.fr j⟩
  · rw [cell_set_ne (ne _ _), cell_set_ne (ne _ _), cell_set_ne (ne _ _)]; exact h.c0
  · rw [cell_set_ne (ne _ _), cell_set_ne (ne _ _), cell_set_ne (ne _ _)]; exact h.c1
  · rw [cell_set_ne (ne _ _), cell_set_ne (ne _ _), cell_set_ne (ne _ _)]; exact h.c2
theorem Box.other3 {w : World} {B C : Nat} {v0 v1 : Value} (h : Box w B v0 v1) (hne : B ≠ C) (u0 u1 u2 : Value) : Box (((w.setCell ⟨C, 0, none⟩ u0).setCell ⟨C, 1, none⟩ u1).setCell ⟨C, 2, none⟩ u2) B v0 v1 := by
  have ne : ∀ j k, (⟨B, j, none⟩ : Addr) ≠ ⟨C, k, none⟩ := fun j k e => hne (by injection e)
  refine ⟨?_, ?_, fun j => by rw [World.frozen?_setCell, World.frozen?_setCell, World.frozen?_setCell]; exact h.fr j⟩
  · rw [cell_set_ne (ne _ _), cell_set_ne (ne _ _), cell_set_ne (ne _ _)]; exact h.c0
  · rw [cell_set_ne (ne _ _), cell_set_ne (ne _ _), cell_set_ne (ne _ _)]; exact h.c1
theorem below_set3 {w w' : World} {A B : Nat} (h : Below A w w') (hB : A ≤ B) (u0 u1 u2 : Value) : Below A w (((w'.setCell ⟨B, 0, none⟩ u0).setCell ⟨B, 1, none⟩ u1).setCell ⟨B, 2, none⟩ u2) := ((h.setCell (p := ⟨B, 0, none⟩) hB u0).setCell (p := ⟨B, 1, none⟩) hB u1).setCell (p := ⟨B, 2, none⟩) hB u2
theorem Sl.box3 {w : World} {ao : Option Addr} {n B : Nat} {f : Nat → Nat} {c : Bool} {p q : Option Addr} {k l k' l' : Nat} (h : Sl w ao n f) (z : Box3 w B (.bool c) (.slice p k l) (.slice q k' l')) (u0 u1 u2 : Value) : Sl (((w.setCell ⟨B, 0, none⟩ u0).setCell ⟨B, 1, none⟩ u1).setCell ⟨B, 2, none⟩ u2) ao n f := by
  rcases h with rfl | ⟨d, off, rfl, hc⟩
  · exact .inl rfl
  · refine .inr ⟨d, off, rfl, fun j hj => ?_⟩
    have e := hc j hj
    rw [cell_set_ne (fun e1 => by rw [e1, z.c2] at e; cases e), cell_set_ne (fun e1 => by rw [e1, z.c1] at e; cases e), cell_set_ne (fun e1 => by rw [e1, z.c0] at e; cases e)]
    exact e
theorem Right.box3 {w : World} {b : Bool} {ao : Option Addr} {n nc B : Nat} {x : Int} {c : Bool} {p q : Option Addr} {k l k' l' : Nat} (h : Right w b ao n nc x) (z : Box3 w B (.bool c) (.slice p k l) (.slice q k' l')) (u0 u1 u2 : Value) : Right (((w.setCell ⟨B, 0, none⟩ u0).setCell ⟨B, 1, none⟩ u1).setCell ⟨B, 2, none⟩ u2) b ao n nc x := by
  obtain ⟨f, h1, h2, h3, h4, h5⟩ := h.ex
  exact ⟨f, h1, h2, h3.box3 z u0 u1 u2, h4, h5⟩
theorem Whole.box3 {w : World} {b : Bool} {ao : Option Addr} {n nc B : Nat} {x : Int} {c : Bool} {p q : Option Addr} {k l k' l' : Nat} (h : Whole w b ao n nc x) (z : Box3 w B (.bool c) (.slice p k l) (.slice q k' l')) (u0 u1 u2 : Value) : Whole (((w.setCell ⟨B, 0, none⟩ u0).setCell ⟨B, 1, none⟩ u1).setCell ⟨B, 2, none⟩ u2) b ao n nc x := by
  obtain ⟨f, A, e⟩ := h.ex
  exact ⟨f, ⟨A.len, A.cap, A.few, A.sl.box3 z u0 u1 u2, A.lim⟩, e⟩

/-- A number as a call hands it back: top and bottom without noughts on top, a sign below 0 alone. -/
structure Rt (w : World) (b : Bool) (ao : Option Addr) (n nc : Nat) (bo : Option Addr) (m mc : Nat) (P : Int) (Q : Nat) : Prop where
  top : Right w b ao n nc P
  bot : Right w false bo m mc Q
theorem Rt.below {w w' : World} {b : Bool} {ao bo : Option Addr} {n nc m mc Q : Nat} {P : Int} (h : Rt w b ao n nc bo m mc P Q) (hb : Below w.heap.size w w') : Rt w' b ao n nc bo m mc P Q := ⟨h.top.below hb, h.bot.below hb⟩
theorem Rt.box {w : World} {b : Bool} {ao bo : Option Addr} {n nc m mc Q B : Nat} {P : Int} {c : Bool} {p : Option Addr} {k l : Nat} (h : Rt w b ao n nc bo m mc P Q) (z : Box w B (.bool c) (.slice p k l)) (u0 u1 : Value) : Rt ((w.setCell ⟨B, 0, none⟩ u0).setCell ⟨B, 1, none⟩ u1) b ao n nc bo m mc P Q := ⟨h.top.box z u0 u1, h.bot.box z u0 u1⟩
theorem Rt.box3 {w : World} {b : Bool} {ao bo : Option Addr} {n nc m mc Q B : Nat} {P : Int} {c : Bool} {p q : Option Addr} {k l k' l' : Nat} (h : Rt w b ao n nc bo m mc P Q) (z : Box3 w B (.bool c) (.slice p k l) (.slice q k' l')) (u0 u1 u2 : Value) : Rt (((w.setCell ⟨B, 0, none⟩ u0).setCell ⟨B, 1, none⟩ u1).setCell ⟨B, 2, none⟩ u2) b ao n nc bo m mc P Q := ⟨h.top.box3 z u0 u1 u2, h.bot.box3 z u0 u1 u2⟩
theorem Right.whole32 {w : World} {b : Bool} {ao : Option Addr} {n nc : Nat} {x : Int} (h : Right w b ao n nc x) (hx : x.natAbs < pw 32) : Whole w b ao n nc x := h.whole hx (by omega)
theorem Low.abs_lt {P : Int} {Q : Nat} (h : Low P Q) : P.natAbs < pw 32 := h.2.2.1
theorem Low.bot_lt {P : Int} {Q : Nat} (h : Low P Q) : (Q : Int).natAbs < pw 32 := by rw [Int.natAbs_natCast]; exact h.2.2.2
theorem Rt.upper {w : World} {b : Bool} {ao bo : Option Addr} {n nc m mc Q : Nat} {P : Int} (h : Rt w b ao n nc bo m mc P Q) (l : Low P Q) : Whole w b ao n nc P := h.top.whole32 l.abs_lt
theorem Rt.lower {w : World} {b : Bool} {ao bo : Option Addr} {n nc m mc Q : Nat} {P : Int} (h : Rt w b ao n nc bo m mc P Q) (l : Low P Q) : Whole w false bo m mc Q := h.bot.whole32 l.bot_lt
theorem rt_zero (w : World) : Rt w false none 0 0 none 0 0 0 0 := ⟨⟨fun _ => 0, Nat.le_refl _, by omega, .inl rfl, canon_zero _, rfl⟩, ⟨fun _ => 0, Nat.le_refl _, by omega, .inl rfl, canon_zero _, rfl⟩⟩

/-- A number and an error come back. -/
def ResPost (T : Int) (B : Nat) (E : Int) (w : World) (e : Ending) (w' : World) : Prop :=
  ∃ b ao n nc bo m mc, e = .returned (.tuple #[.agg #[.bool b, .slice ao n nc, .slice bo m mc], .int .i64 E]) ∧ Rt w' b ao n nc bo m mc T B ∧ Below w.heap.size w w'
/-- A number comes back. -/
def RatPost (T : Int) (B : Nat) (w : World) (e : Ending) (w' : World) : Prop :=
  ∃ b ao n nc bo m mc, e = .returned (.agg #[.bool b, .slice ao n nc, .slice bo m mc]) ∧ Rt w' b ao n nc bo m mc T B ∧ Below w.heap.size w w'
abbrev MakePost (p q : Int) := ResPost (mkT p q) (mkB p q) (mkE p q)

theorem ResPost.stored {w w2 : World} {b : Bool} {ao bo : Option Addr} {n nc m mc B Q : Nat} {T E : Int} {c : Bool} {p q : Option Addr} {k l k' l' : Nat} (h : Rt w2 b ao n nc bo m mc T Q) (z : Box3 w2 B (.bool c) (.slice p k l) (.slice q k' l')) (hb : Below w.heap.size w w2) (hB : w.heap.size ≤ B) :
    ResPost T Q E w (.returned (.tuple #[.agg #[.bool b, .slice ao n nc, .slice bo m mc], .int .i64 E])) (((w2.setCell ⟨B, 0, none⟩ (.bool b)).setCell ⟨B, 1, none⟩ (.slice ao n nc)).setCell ⟨B, 2, none⟩ (.slice bo m mc)) :=
  ⟨b, ao, n, nc, bo, m, mc, rfl, h.box3 z _ _ _, below_set3 hb hB _ _ _⟩
theorem RatPost.stored {w w2 : World} {b : Bool} {ao bo : Option Addr} {n nc m mc B Q : Nat} {T : Int} {c : Bool} {p q : Option Addr} {k l k' l' : Nat} (h : Rt w2 b ao n nc bo m mc T Q) (z : Box3 w2 B (.bool c) (.slice p k l) (.slice q k' l')) (hb : Below w.heap.size w w2) (hB : w.heap.size ≤ B) :
    RatPost T Q w (.returned (.agg #[.bool b, .slice ao n nc, .slice bo m mc])) (((w2.setCell ⟨B, 0, none⟩ (.bool b)).setCell ⟨B, 1, none⟩ (.slice ao n nc)).setCell ⟨B, 2, none⟩ (.slice bo m mc)) :=
  ⟨b, ao, n, nc, bo, m, mc, rfl, h.box3 z _ _ _, below_set3 hb hB _ _ _⟩

end Go.Proofs.Ytnnipciifjpooaa
