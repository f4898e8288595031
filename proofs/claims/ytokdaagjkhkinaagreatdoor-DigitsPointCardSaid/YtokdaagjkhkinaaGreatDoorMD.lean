/-
  Rational numbers: what Make tells of two whole ones (mkE the error, mkT the top with its sign, mkB the bottom), numbers in lowest terms ('Low'), facts on these; blocks of three cells ('Box3'); a number as a call hands it back ('Rt': its top and its bottom without noughts on top; 'ResPost': with an error; 'RatPost': without).
  Plain facts on a number's text (chapter 5): which texts may be, and which number each is; the digits of a number, and a number's own text.
  What the functions of package strings tell that are called here: each by the library's own contract, at this program's numbers.
  scrimref03.Norm, Same, Neg, Sign; scrimlaw03.Mine, Theirs, few, same.
  nat.Sub: the difference, or none.
  scrimref02.Sub, twice and Bit.
  scrimref02.Mul, DivMod and Gcd.
  scrimref03.Add, Sub, Cmp, Mul.
  nat.Add: the sum.
  whole.Cmp, whole.DivMod.
  ratio.upper, lower, over, long; ratio.Make.
-/
import Derived.Test.YtokdaagjkhkinaaGreatDoorMC
import Derived.Lib.Bytealg
import Derived.Lib.TrimByte
import Derived.Lib.Repeat
import Derived.Lib.Strings
import Derived.Shelf.Strings.Trim
import Derived.Shelf.Small.Wraps
import Derived.Shelf.Strings.Search2
import Derived.Shelf.Strings.Repeat
import Derived.Test.YtokdaagjkhkinaaGreatDoorProg
import Derived.Deep.RegionWith
import Derived.Deep.CutRange
namespace Go.Proofs.YtokdaagjkhkinaaGreatDoor
open Go.RowKit Num

/-- In lowest terms, of at most 32 limbs each. -/
def Low (P : Int) (Q : Nat) : Prop := Q ≠ 0 ∧ Nat.gcd P.natAbs Q = 1 ∧ P.natAbs < pw 32 ∧ Q < pw 32

/-- What Make tells of p by q: the error, the top, the bottom. -/
def mkG (p q : Int) : Nat := Nat.gcd p.natAbs q.natAbs

def mkE (p q : Int) : Int := if q = 0 then 3 else if p.natAbs / mkG p q < pw 32 ∧ q.natAbs / mkG p q < pw 32 then 0 else 7

def mkT (p q : Int) : Int := if mkE p q = 0 then sgn (decide (p.sign * q.sign < 0)) (p.natAbs / mkG p q) else 0

def mkB (p q : Int) : Nat := if mkE p q = 0 then q.natAbs / mkG p q else 0

theorem mkG_pos {p q : Int} (hq : q ≠ 0) : 0 < mkG p q := Nat.gcd_pos_of_pos_right _ (by omega)

theorem mkE_ok {p q : Int} : mkE p q = 0 ↔ q ≠ 0 ∧ p.natAbs / mkG p q < pw 32 ∧ q.natAbs / mkG p q < pw 32 := by
  unfold mkE
  by_cases h : q = 0
  · simp [h]
  · by_cases k : p.natAbs / mkG p q < pw 32 ∧ q.natAbs / mkG p q < pw 32
    · simp only [h, k, if_false, if_true, ne_eq, not_false_eq_true, and_self]
    · simp only [h, k, if_false, ne_eq, not_false_eq_true, true_and, iff_false]
      decide

theorem mkE_cases (p q : Int) : mkE p q = 0 ∨ mkE p q = 3 ∨ mkE p q = 7 := by
  unfold mkE; repeat' split
  all_goals simp

theorem mk_bad {p q : Int} (h : mkE p q ≠ 0) : mkT p q = 0 ∧ mkB p q = 0 := by simp [mkT, mkB, h]

theorem mk_three {p q : Int} : mkE p q = 3 ↔ q = 0 := by
  unfold mkE
  by_cases h : q = 0
  · simp [h]
  · simp only [h, if_false, iff_false]; split <;> decide

theorem mkT_ok {p q : Int} (h : mkE p q = 0) : mkT p q = sgn (decide (p.sign * q.sign < 0)) (p.natAbs / mkG p q) := by simp [mkT, h]

theorem mkB_ok {p q : Int} (h : mkE p q = 0) : mkB p q = q.natAbs / mkG p q := by simp [mkB, h]

theorem mkT_abs {p q : Int} (h : mkE p q = 0) : (mkT p q).natAbs = p.natAbs / mkG p q := by rw [mkT_ok h, sgn_abs]

theorem mkT_le (p q : Int) : (mkT p q).natAbs ≤ p.natAbs := by
  by_cases h : mkE p q = 0
  · rw [mkT_abs h]; exact Nat.div_le_self _ _
  · rw [(mk_bad h).1]; exact Nat.zero_le _

theorem mkB_le (p q : Int) : mkB p q ≤ q.natAbs := by
  by_cases h : mkE p q = 0
  · rw [mkB_ok h]; exact Nat.div_le_self _ _
  · rw [(mk_bad h).2]; exact Nat.zero_le _

theorem mkT_lt (p q : Int) : (mkT p q).natAbs < pw 32 := by
  by_cases h : mkE p q = 0
  · rw [mkT_abs h]; exact (mkE_ok.1 h).2.1
  · rw [(mk_bad h).1]; exact pw_pos _

theorem mkB_lt (p q : Int) : mkB p q < pw 32 := by
  by_cases h : mkE p q = 0
  · rw [mkB_ok h]; exact (mkE_ok.1 h).2.2
  · rw [(mk_bad h).2]; exact pw_pos _

theorem mkE_small {p q : Int} (hq : q ≠ 0) (hp : p.natAbs < pw 32) (h : q.natAbs < pw 32) : mkE p q = 0 :=
  mkE_ok.2 ⟨hq, Nat.lt_of_le_of_lt (Nat.div_le_self _ _) hp, Nat.lt_of_le_of_lt (Nat.div_le_self _ _) h⟩

theorem mk_low {p q : Int} (h : mkE p q = 0) : Low (mkT p q) (mkB p q) := by
  obtain ⟨hq, h1, h2⟩ := mkE_ok.1 h
  have hg := mkG_pos (p := p) hq
  refine ⟨?_, ?_, mkT_lt _ _, mkB_lt _ _⟩
  · rw [mkB_ok h]
    have : mkG p q ≤ q.natAbs := Nat.gcd_le_right _ (by omega)
    have := Nat.div_pos this hg
    omega
  · rw [mkT_abs h, mkB_ok h]
    rw [mkG, Nat.gcd_div (Nat.gcd_dvd_left _ _) (Nat.gcd_dvd_right _ _)]; exact Nat.div_self hg

theorem abs_sign (x : Int) : (x.natAbs : Int) * x.sign = x := by rw [Int.mul_comm]; exact Int.sign_mul_natAbs x

theorem sgn_sign {x : Int} {v : Nat} (h' : x = 0 → v = 0) : sgn (decide (x < 0)) v = x.sign * v := by
  rcases Int.lt_trichotomy x 0 with hx | hx | hx
  · rw [Int.sign_eq_neg_one_of_neg hx]; simp [hx, sgn]
  · rw [hx, h' hx]; simp [sgn]
  · rw [Int.sign_eq_one_of_pos hx]; simp [sgn, Int.not_lt.2 (Int.le_of_lt hx)]

theorem mk_cross {p q : Int} (h : mkE p q = 0) : mkT p q * q = p * mkB p q := by
  obtain ⟨hq, _, _⟩ := mkE_ok.1 h
  have hg := mkG_pos (p := p) hq
  have e1 : mkG p q * (p.natAbs / mkG p q) = p.natAbs := Nat.mul_div_cancel' (Nat.gcd_dvd_left _ _)
  have e2 : mkG p q * (q.natAbs / mkG p q) = q.natAbs := Nat.mul_div_cancel' (Nat.gcd_dvd_right _ _)
  rw [mkT_ok h, mkB_ok h]
  generalize p.natAbs / mkG p q = a at *
  generalize q.natAbs / mkG p q = b at *
  generalize mkG p q = g at *
  have es : (p.sign * q.sign).sign = p.sign * q.sign := by rw [Int.sign_mul, Int.sign_sign, Int.sign_sign]
  have k1 : p.sign * q.sign = 0 → a = 0 := by
    intro h0
    rcases Int.mul_eq_zero.1 h0 with h1 | h1
    · have : p = 0 := Int.sign_eq_zero_iff_zero.1 h1
      subst this
      rcases Nat.mul_eq_zero.1 (e1.trans rfl) with h2 | h2
      · omega
      · exact h2
    · exact absurd (Int.sign_eq_zero_iff_zero.1 h1) hq
  rw [sgn_sign k1, es]
  have sq : q.sign * q.sign = 1 := by
    rcases Int.lt_or_gt_of_ne hq with h1 | h1
    · rw [Int.sign_eq_neg_one_of_neg h1]; rfl
    · rw [Int.sign_eq_one_of_pos h1]; rfl
  have ep := abs_sign p
  have eq := abs_sign q
  have f1 : (g : Int) * a = p.natAbs := by exact_mod_cast e1
  have f2 : (g : Int) * b = q.natAbs := by exact_mod_cast e2
  generalize p.sign = sp at *
  generalize q.sign = sq' at *
  generalize (p.natAbs : Int) = pa at *
  generalize (q.natAbs : Int) = qa at *
  generalize (a : Int) = a at *
  generalize (b : Int) = b at *
  generalize (g : Int) = g at *
  subst f1 f2 ep eq
  grind

theorem low_unique {P P' : Int} {Q Q' : Nat} (a : Low P Q) (b : Low P' Q') (h : P * Q' = P' * Q) : P = P' ∧ Q = Q' := by
  obtain ⟨a0, a1, _, _⟩ := a
  obtain ⟨b0, b1, _, _⟩ := b
  have hn : P.natAbs * Q' = P'.natAbs * Q := by
    have := congrArg Int.natAbs h
    simpa [Int.natAbs_mul] using this
  have d1 : Q ∣ Q' := (Nat.Coprime.symm a1).dvd_of_dvd_mul_left ⟨P'.natAbs, by rw [hn, Nat.mul_comm]⟩
  have d2 : Q' ∣ Q := (Nat.Coprime.symm b1).dvd_of_dvd_mul_left ⟨P.natAbs, by rw [← hn, Nat.mul_comm]⟩
  have e : Q = Q' := Nat.dvd_antisymm d1 d2
  subst e
  exact ⟨Int.eq_of_mul_eq_mul_right (by omega) h, rfl⟩

/-- A number that is right, told by any two that make it. -/
theorem mk_of_low {p q : Int} {P : Int} {Q : Nat} (a : Low P Q) (hq : q ≠ 0) (e : p * Q = P * q) : mkE p q = 0 ∧ mkT p q = P ∧ mkB p q = Q := by
  have h : mkE p q = 0 := by
    obtain ⟨a0, a1, a2, a3⟩ := a
    have hn : p.natAbs * Q = P.natAbs * q.natAbs := by
      have := congrArg Int.natAbs e
      simpa [Int.natAbs_mul] using this
    have d1 : Q ∣ q.natAbs := (Nat.Coprime.symm a1).dvd_of_dvd_mul_left ⟨p.natAbs, by rw [← hn, Nat.mul_comm]⟩
    obtain ⟨k, hk⟩ := d1
    have hp : p.natAbs = P.natAbs * k := by
      rw [hk, Nat.mul_left_comm, Nat.mul_comm] at hn
      exact Nat.eq_of_mul_eq_mul_left (by omega) hn
    have hk0 : 0 < k := by
      rcases Nat.eq_zero_or_pos k with rfl | h
      · simp at hk; omega
      · exact h
    have hg : mkG p q = k := by
      unfold mkG
      rw [hp, hk, Nat.gcd_mul_right, a1, Nat.one_mul]
    refine mkE_ok.2 ⟨hq, ?_, ?_⟩
    · rw [hg, hp, Nat.mul_div_cancel _ hk0]; exact a2
    · rw [hg, hk, Nat.mul_div_cancel _ hk0]; exact a3
  have c := mk_cross h
  refine ⟨h, low_unique (mk_low h) a ?_⟩
  refine Int.eq_of_mul_eq_mul_right hq ?_
  rw [Int.mul_right_comm, c, Int.mul_right_comm, e, Int.mul_right_comm]

theorem mk_same {p q p' q' : Int} (h : mkE p q = 0) (hq' : q' ≠ 0) (e : p * q' = p' * q) : mkE p' q' = 0 ∧ mkT p' q' = mkT p q ∧ mkB p' q' = mkB p q := by
  refine mk_of_low (mk_low h) hq' ?_
  have c := mk_cross h
  obtain ⟨hq, _, _⟩ := mkE_ok.1 h
  refine Int.eq_of_mul_eq_mul_right hq ?_
  grind

theorem Low.nz {P : Int} {Q : Nat} (a : Low P Q) : (Q : Int) ≠ 0 := by have := a.1; omega

theorem mk_self {P : Int} {Q : Nat} (a : Low P Q) : mkE P Q = 0 ∧ mkT P Q = P ∧ mkB P Q = Q := mk_of_low a a.nz rfl

theorem low_one {P : Int} (h : P.natAbs < pw 32) : Low P 1 := ⟨by omega, Nat.gcd_one_right _, h, Nat.lt_of_lt_of_le (by decide : 1 < pw 1) (pw_le (by omega))⟩

theorem low_zero {Q : Nat} (a : Low 0 Q) : Q = 1 := by have := a.2.1; simpa using this

theorem Low.neg {P : Int} {Q : Nat} (a : Low P Q) : Low (-P) Q := ⟨a.1, by rw [Int.natAbs_neg]; exact a.2.1, by rw [Int.natAbs_neg]; exact a.2.2.1, a.2.2.2⟩

theorem Low.abs {P : Int} {Q : Nat} (a : Low P Q) : Low P.natAbs Q := ⟨a.1, by rw [Int.natAbs_natCast]; exact a.2.1, by rw [Int.natAbs_natCast]; exact a.2.2.1, a.2.2.2⟩

theorem fdiv_abs (P : Int) {Q : Nat} (hQ : Q ≠ 0) : (P.fdiv Q).natAbs ≤ P.natAbs := by
  have hq : (0 : Int) < (Q : Int) := by omega
  have e := Int.fmod_add_mul_fdiv P Q
  have h1 := Int.fmod_nonneg_of_pos P hq
  have h2 := Int.fmod_lt_of_pos P hq
  generalize P.fdiv Q = f at *
  generalize P.fmod Q = r at *
  have hQ1 : (1 : Int) ≤ (Q : Int) := by omega
  by_cases hf : 0 ≤ f
  · have : 1 * f ≤ (Q : Int) * f := Int.mul_le_mul_of_nonneg_right hQ1 hf
    omega
  · have : (Q : Int) * (f + 1) ≤ 1 * (f + 1) := Int.mul_le_mul_of_nonpos_right hQ1 (by omega)
    rw [Int.mul_add] at this
    omega

theorem low_floor {P : Int} {Q : Nat} (a : Low P Q) : Low (P.fdiv Q) 1 := low_one (Nat.lt_of_le_of_lt (fdiv_abs P a.1) a.2.2.1)

/-- A block of three cells, none of them frozen. -/
structure Box3 (w : World) (B : Nat) (v0 v1 v2 : Value) : Prop where
  c0 : w.cell? ⟨B, 0, none⟩ = some v0
  c1 : w.cell? ⟨B, 1, none⟩ = some v1
  c2 : w.cell? ⟨B, 2, none⟩ = some v2
  fr : ∀ j, w.frozen? ⟨B, j, none⟩ = false

theorem Box3.lt {w : World} {B : Nat} {v0 v1 v2 : Value} (h : Box3 w B v0 v1 v2) : B < w.heap.size := World.block_lt_of_cell? w _ h.c0

theorem Box3.new {w : World} {B : Nat} (v0 v1 v2 : Value) (t : TypeId) (h : B = w.heap.size) : Box3 (w.alloc (.cells #[v0, v1, v2] t)) B v0 v1 v2 := by
  subst h
  exact ⟨by simp, by simp, by simp, fun j => by
    have hh := heap_alloc_new w (.cells #[v0, v1, v2] t)
    simp only [World.frozen?, hh]
    simp⟩

theorem Box3.below {w w' : World} {B C : Nat} {v0 v1 v2 : Value} (h : Box3 w B v0 v1 v2) (hb : Below C w w') (hC : B < C) : Box3 w' B v0 v1 v2 :=
  ⟨(hb.cell hC).trans h.c0, (hb.cell hC).trans h.c1, (hb.cell hC).trans h.c2, fun j => (hb.frozen hC).trans (h.fr j)⟩

theorem Box3.later {w w' : World} {B : Nat} {v0 v1 v2 : Value} (h : Box3 w B v0 v1 v2) (hb : Below w.heap.size w w') : Box3 w' B v0 v1 v2 := h.below hb h.lt

theorem Box3.alloc {w : World} {B : Nat} {v0 v1 v2 : Value} (h : Box3 w B v0 v1 v2) (o : Obj) : Box3 (w.alloc o) B v0 v1 v2 := h.later ((Below.refl _ w).alloc (Nat.le_refl _) o)

theorem Box3.drew {w : World} {B : Nat} {v0 v1 v2 : Value} (h : Box3 w B v0 v1 v2) : Box3 w.drew B v0 v1 v2 := ⟨h.c0, h.c1, h.c2, h.fr⟩

theorem cell_set_ne {w : World} {a b : Addr} {v : Value} (h : a ≠ b) : (w.setCell b v).cell? a = w.cell? a := World.cell?_setCell_other _ _ _ _ (fun e => h e.symm)

theorem Box3.set {w : World} {B : Nat} {v0 v1 v2 : Value} (h : Box3 w B v0 v1 v2) (u0 u1 u2 : Value) : Box3 (((w.setCell ⟨B, 0, none⟩ u0).setCell ⟨B, 1, none⟩ u1).setCell ⟨B, 2, none⟩ u2) B u0 u1 u2 := by
  have ne : ∀ {j k : Nat}, j ≠ k → (⟨B, j, none⟩ : Addr) ≠ ⟨B, k, none⟩ := fun h e => h (by injection e)
  refine ⟨?_, ?_, ?_, fun j => by rw [World.frozen?_setCell, World.frozen?_setCell, World.frozen?_setCell]; exact h.fr j⟩
  · rw [cell_set_ne (ne (by decide)), cell_set_ne (ne (by decide))]
    exact World.cell?_setCell_same _ _ _ h.c0
  · rw [cell_set_ne (ne (by decide))]
    refine World.cell?_setCell_same _ _ _ (?_ : _ = some v1)
    rw [cell_set_ne (ne (by decide))]
    exact h.c1
  · refine World.cell?_setCell_same _ _ _ (?_ : _ = some v2)
    rw [cell_set_ne (ne (by decide)), cell_set_ne (ne (by decide))]
    exact h.c2

theorem Box3.other {w : World} {B C : Nat} {v0 v1 v2 : Value} (h : Box3 w B v0 v1 v2) (hne : B ≠ C) (u0 u1 : Value) : Box3 ((w.setCell ⟨C, 0, none⟩ u0).setCell ⟨C, 1, none⟩ u1) B v0 v1 v2 := by
  have ne : ∀ j k, (⟨B, j, none⟩ : Addr) ≠ ⟨C, k, none⟩ := fun j k e => hne (by injection e)
  refine ⟨?_, ?_, ?_, fun j => by rw [World.frozen?_setCell, World.frozen?_setCell]; exact h.fr j⟩
  · rw [cell_set_ne (ne _ _), cell_set_ne (ne _ _)]; exact h.c0
  · rw [cell_set_ne (ne _ _), cell_set_ne (ne _ _)]; exact h.c1
  · rw [cell_set_ne (ne _ _), cell_set_ne (ne _ _)]; exact h.c2

theorem Box3.other3 {w : World} {B C : Nat} {v0 v1 v2 : Value} (h : Box3 w B v0 v1 v2) (hne : B ≠ C) (u0 u1 u2 : Value) : Box3 (((w.setCell ⟨C, 0, none⟩ u0).setCell ⟨C, 1, none⟩ u1).setCell ⟨C, 2, none⟩ u2) B v0 v1 v2 := by
  have ne : ∀ j k, (⟨B, j, none⟩ : Addr) ≠ ⟨C, k, none⟩ := fun j k e => hne (by injection e)
  refine ⟨?_, ?_, ?_, fun j => by rw [World.frozen?_setCell, World.frozen?_setCell, World.frozen?_setCell]; exact h.fr j⟩
  · rw [cell_set_ne (ne _ _), cell_set_ne (ne _ _), cell_set_ne (ne _ _)]; exact h.c0
  · rw [cell_set_ne (ne _ _), cell_set_ne (ne _ _), cell_set_ne (ne _ _)]; exact h.c1
  · rw [cell_set_ne (ne _ _), cell_set_ne (ne _ _), cell_set_ne (ne _ _)]; exact h.c2

theorem Box.other3 {w : World} {B C : Nat} {v0 v1 : Value} (h : Box w B v0 v1) (hne : B ≠ C) (u0 u1 u2 : Value) : Box (((w.setCell ⟨C, 0, none⟩ u0).setCell ⟨C, 1, none⟩ u1).setCell ⟨C, 2, none⟩ u2) B v0 v1 := by
  have ne : ∀ j k, (⟨B, j, none⟩ : Addr) ≠ ⟨C, k, none⟩ := fun j k e => hne (by injection e)
  refine ⟨?_, ?_, fun j => by rw [World.frozen?_setCell, World.frozen?_setCell, World.frozen?_setCell]; exact h.fr j⟩
  · rw [cell_set_ne (ne _ _), cell_set_ne (ne _ _), cell_set_ne (ne _ _)]; exact h.c0
  · rw [cell_set_ne (ne _ _), cell_set_ne (ne _ _), cell_set_ne (ne _ _)]; exact h.c1

theorem below_set3 {w w' : World} {A B : Nat} (h : Below A w w') (hB : A ≤ B) (u0 u1 u2 : Value) : Below A w (((w'.setCell ⟨B, 0, none⟩ u0).setCell ⟨B, 1, none⟩ u1).setCell ⟨B, 2, none⟩ u2) := ((h.setCell (p := ⟨B, 0, none⟩) hB u0).setCell (p := ⟨B, 1, none⟩) hB u1).setCell (p := ⟨B, 2, none⟩) hB u2

theorem Sl.box3 {w : World} {ao : Option Addr} {n B : Nat} {f : Nat → Nat} {c : Bool} {p q : Option Addr} {k l k' l' : Nat} (h : Sl w ao n f) (z : Box3 w B (.bool c) (.slice p k l) (.slice q k' l')) (u0 u1 u2 : Value) : Sl (((w.setCell ⟨B, 0, none⟩ u0).setCell ⟨B, 1, none⟩ u1).setCell ⟨B, 2, none⟩ u2) ao n f := by
  rcases h with rfl | ⟨d, off, rfl, hc⟩
  · exact .inl rfl
  · refine .inr ⟨d, off, rfl, fun j hj => ?_⟩
    have e := hc j hj
    rw [cell_set_ne (fun e1 => by rw [e1, z.c2] at e; cases e), cell_set_ne (fun e1 => by rw [e1, z.c1] at e; cases e), cell_set_ne (fun e1 => by rw [e1, z.c0] at e; cases e)]
    exact e

theorem Right.box3 {w : World} {b : Bool} {ao : Option Addr} {n nc B : Nat} {x : Int} {c : Bool} {p q : Option Addr} {k l k' l' : Nat} (h : Right w b ao n nc x) (z : Box3 w B (.bool c) (.slice p k l) (.slice q k' l')) (u0 u1 u2 : Value) : Right (((w.setCell ⟨B, 0, none⟩ u0).setCell ⟨B, 1, none⟩ u1).setCell ⟨B, 2, none⟩ u2) b ao n nc x := by
  obtain ⟨f, h1, h2, h3, h4, h5⟩ := h.ex
  exact ⟨f, h1, h2, h3.box3 z u0 u1 u2, h4, h5⟩

theorem Whole.box3 {w : World} {b : Bool} {ao : Option Addr} {n nc B : Nat} {x : Int} {c : Bool} {p q : Option Addr} {k l k' l' : Nat} (h : Whole w b ao n nc x) (z : Box3 w B (.bool c) (.slice p k l) (.slice q k' l')) (u0 u1 u2 : Value) : Whole (((w.setCell ⟨B, 0, none⟩ u0).setCell ⟨B, 1, none⟩ u1).setCell ⟨B, 2, none⟩ u2) b ao n nc x := by
  obtain ⟨f, A, e⟩ := h.ex
  exact ⟨f, ⟨A.len, A.cap, A.few, A.sl.box3 z u0 u1 u2, A.lim⟩, e⟩

/-- A number as a call hands it back: top and bottom without noughts on top, a sign below 0 alone. -/
structure Rt (w : World) (b : Bool) (ao : Option Addr) (n nc : Nat) (bo : Option Addr) (m mc : Nat) (P : Int) (Q : Nat) : Prop where
  top : Right w b ao n nc P
  bot : Right w false bo m mc Q

theorem Rt.below {w w' : World} {b : Bool} {ao bo : Option Addr} {n nc m mc Q : Nat} {P : Int} (h : Rt w b ao n nc bo m mc P Q) (hb : Below w.heap.size w w') : Rt w' b ao n nc bo m mc P Q := ⟨h.top.below hb, h.bot.below hb⟩

theorem Rt.box {w : World} {b : Bool} {ao bo : Option Addr} {n nc m mc Q B : Nat} {P : Int} {c : Bool} {p : Option Addr} {k l : Nat} (h : Rt w b ao n nc bo m mc P Q) (z : Box w B (.bool c) (.slice p k l)) (u0 u1 : Value) : Rt ((w.setCell ⟨B, 0, none⟩ u0).setCell ⟨B, 1, none⟩ u1) b ao n nc bo m mc P Q := ⟨h.top.box z u0 u1, h.bot.box z u0 u1⟩

theorem Rt.box3 {w : World} {b : Bool} {ao bo : Option Addr} {n nc m mc Q B : Nat} {P : Int} {c : Bool} {p q : Option Addr} {k l k' l' : Nat} (h : Rt w b ao n nc bo m mc P Q) (z : Box3 w B (.bool c) (.slice p k l) (.slice q k' l')) (u0 u1 u2 : Value) : Rt (((w.setCell ⟨B, 0, none⟩ u0).setCell ⟨B, 1, none⟩ u1).setCell ⟨B, 2, none⟩ u2) b ao n nc bo m mc P Q := ⟨h.top.box3 z u0 u1 u2, h.bot.box3 z u0 u1 u2⟩

theorem Right.whole32 {w : World} {b : Bool} {ao : Option Addr} {n nc : Nat} {x : Int} (h : Right w b ao n nc x) (hx : x.natAbs < pw 32) : Whole w b ao n nc x := h.whole hx (by omega)

theorem Low.abs_lt {P : Int} {Q : Nat} (h : Low P Q) : P.natAbs < pw 32 := h.2.2.1

theorem Low.bot_lt {P : Int} {Q : Nat} (h : Low P Q) : (Q : Int).natAbs < pw 32 := by rw [Int.natAbs_natCast]; exact h.2.2.2

theorem Rt.upper {w : World} {b : Bool} {ao bo : Option Addr} {n nc m mc Q : Nat} {P : Int} (h : Rt w b ao n nc bo m mc P Q) (l : Low P Q) : Whole w b ao n nc P := h.top.whole32 l.abs_lt

theorem Rt.lower {w : World} {b : Bool} {ao bo : Option Addr} {n nc m mc Q : Nat} {P : Int} (h : Rt w b ao n nc bo m mc P Q) (l : Low P Q) : Whole w false bo m mc Q := h.bot.whole32 l.bot_lt

theorem rt_zero (w : World) : Rt w false none 0 0 none 0 0 0 0 := ⟨⟨fun _ => 0, Nat.le_refl _, by omega, .inl rfl, canon_zero _, rfl⟩, ⟨fun _ => 0, Nat.le_refl _, by omega, .inl rfl, canon_zero _, rfl⟩⟩

/-- A number and an error come back. -/
def ResPost (T : Int) (B : Nat) (E : Int) (w : World) (e : Ending) (w' : World) : Prop :=
  ∃ b ao n nc bo m mc, e = .returned (.tuple #[.agg #[.bool b, .slice ao n nc, .slice bo m mc], .int .i64 E]) ∧ Rt w' b ao n nc bo m mc T B ∧ Below w.heap.size w w'

/-- A number comes back. -/
def RatPost (T : Int) (B : Nat) (w : World) (e : Ending) (w' : World) : Prop :=
  ∃ b ao n nc bo m mc, e = .returned (.agg #[.bool b, .slice ao n nc, .slice bo m mc]) ∧ Rt w' b ao n nc bo m mc T B ∧ Below w.heap.size w w'

abbrev MakePost (p q : Int) := ResPost (mkT p q) (mkB p q) (mkE p q)

theorem ResPost.stored {w w2 : World} {b : Bool} {ao bo : Option Addr} {n nc m mc B Q : Nat} {T E : Int} {c : Bool} {p q : Option Addr} {k l k' l' : Nat} (h : Rt w2 b ao n nc bo m mc T Q) (z : Box3 w2 B (.bool c) (.slice p k l) (.slice q k' l')) (hb : Below w.heap.size w w2) (hB : w.heap.size ≤ B) :
    ResPost T Q E w (.returned (.tuple #[.agg #[.bool b, .slice ao n nc, .slice bo m mc], .int .i64 E])) (((w2.setCell ⟨B, 0, none⟩ (.bool b)).setCell ⟨B, 1, none⟩ (.slice ao n nc)).setCell ⟨B, 2, none⟩ (.slice bo m mc)) :=
  ⟨b, ao, n, nc, bo, m, mc, rfl, h.box3 z _ _ _, below_set3 hb hB _ _ _⟩

theorem RatPost.stored {w w2 : World} {b : Bool} {ao bo : Option Addr} {n nc m mc B Q : Nat} {T : Int} {c : Bool} {p q : Option Addr} {k l k' l' : Nat} (h : Rt w2 b ao n nc bo m mc T Q) (z : Box3 w2 B (.bool c) (.slice p k l) (.slice q k' l')) (hb : Below w.heap.size w w2) (hB : w.heap.size ≤ B) :
    RatPost T Q w (.returned (.agg #[.bool b, .slice ao n nc, .slice bo m mc])) (((w2.setCell ⟨B, 0, none⟩ (.bool b)).setCell ⟨B, 1, none⟩ (.slice ao n nc)).setCell ⟨B, 2, none⟩ (.slice bo m mc)) :=
  ⟨b, ao, n, nc, bo, m, mc, rfl, h.box3 z _ _ _, below_set3 hb hB _ _ _⟩

end Go.Proofs.YtokdaagjkhkinaaGreatDoor

namespace Go.Proofs.YtokdaagjkhkinaaGreatDoor
open Go.RowKit Num

/-- Is a byte a digit? -/
def isD (c : UInt8) : Bool := decide (48 ≤ c.toNat) && decide (c.toNat ≤ 57)

/-- The number of digits. -/
def lval (l : List UInt8) : Nat := l.foldl (fun v c => v * 10 + (c.toNat - 48)) 0

theorem foldl_lval (l : List UInt8) : ∀ v, l.foldl (fun v c => v * 10 + (c.toNat - 48)) v = v * 10 ^ l.length + lval l := by
  induction l with
  | nil => intro v; simp [lval]
  | cons c l ih =>
    intro v
    have e := ih (0 * 10 + (c.toNat - 48))
    have e1 := ih (v * 10 + (c.toNat - 48))
    simp only [lval, List.foldl_cons, List.length_cons] at e e1 ⊢
    rw [e, e1, Nat.zero_mul, Nat.zero_add, Nat.pow_succ, Nat.add_mul, Nat.add_assoc, Nat.mul_assoc, Nat.mul_comm 10]

theorem lval_nil : lval [] = 0 := rfl

theorem lval_cons (c : UInt8) (l : List UInt8) : lval (c :: l) = (c.toNat - 48) * 10 ^ l.length + lval l := by
  have e := foldl_lval l (c.toNat - 48)
  unfold lval at e ⊢
  rw [List.foldl_cons, Nat.zero_mul, Nat.zero_add]
  exact e

theorem lval_append (a b : List UInt8) : lval (a ++ b) = lval a * 10 ^ b.length + lval b := by
  have e := foldl_lval b (lval a)
  unfold lval at e ⊢
  rw [List.foldl_append]
  exact e

theorem lval_zero (l : List UInt8) : lval (48 :: l) = lval l := by
  rw [lval_cons]
  simp

theorem lval_zeros (k : Nat) : lval (List.replicate k 48) = 0 := by
  induction k with
  | zero => rfl
  | succ k ih => rw [List.replicate_succ, lval_zero, ih]

theorem lval_tens (k : Nat) : lval (49 :: List.replicate k 48) = 10 ^ k := by
  rw [lval_cons, lval_zeros]
  simp

theorem lval_trim (l : List UInt8) : lval (Lib.trimLeftB l 48) = lval l := by
  unfold Lib.trimLeftB
  induction l with
  | nil => rfl
  | cons c l ih =>
    rw [List.dropWhile_cons]
    by_cases h : c = 48
    · subst h
      simp only [beq_self_eq_true, if_true]
      rw [ih, lval_zero]
    · have : (c == 48) = false := by rw [beq_eq_false_iff_ne]; exact h
      simp only [this]
      rfl

theorem isD_sub {c : UInt8} (h : isD c = true) : c.toNat - 48 < 10 := by
  unfold isD at h
  simp at h
  omega

theorem lval_lt {l : List UInt8} (h : l.all isD = true) : lval l < 10 ^ l.length := by
  induction l with
  | nil => exact Nat.zero_lt_one
  | cons c l ih =>
    rw [List.all_cons, Bool.and_eq_true] at h
    have a := ih h.2
    have b : (c.toNat - 48 + 1) * 10 ^ l.length ≤ 10 * 10 ^ l.length := Nat.mul_le_mul_right _ (isD_sub h.1)
    rw [Nat.add_mul] at b
    rw [lval_cons, List.length_cons, ten_succ]
    omega

theorem byt_get (s : ByteArray) (j : Nat) (h : j < s.data.toList.length) : byt s j = (s.data.toList[j]'h).toNat := by
  unfold byt
  rw [List.getD_eq_getElem?_getD, List.getElem?_eq_getElem h]
  rfl

theorem sval_take (s : ByteArray) : ∀ n, n ≤ s.data.toList.length → sval s n = lval (s.data.toList.take n)
  | 0, _ => by simp [sval, lval]
  | n + 1, h => by
    have ih := sval_take s n (by omega)
    rw [List.take_succ_eq_append_getElem (by omega : n < s.data.toList.length), lval_append, ← ih]
    simp only [sval, List.length_singleton, Nat.pow_one, byt_get s n (by omega)]
    simp [lval]

theorem sval_lval (s : ByteArray) : sval s s.size = lval s.data.toList := by
  have e := sval_take s s.data.toList.length (Nat.le_refl _)
  rw [List.take_length] at e
  rw [Lib.size_eq, e]

theorem digT_all (s : ByteArray) : (∀ j, j < s.size → 48 ≤ byt s j ∧ byt s j ≤ 57) ↔ s.data.toList.all isD = true := by
  rw [List.all_eq_true]
  constructor
  · intro h c hc
    obtain ⟨j, hj, rfl⟩ := List.mem_iff_getElem.1 hc
    have := h j (by rw [Lib.size_eq]; exact hj)
    rw [byt_get s j hj] at this
    unfold isD
    simp only [Bool.and_eq_true, decide_eq_true_eq]
    exact this
  · intro h j hj
    rw [Lib.size_eq] at hj
    have := h _ (List.getElem_mem hj)
    rw [byt_get s j hj]
    unfold isD at this
    simpa using this

/-- The number of digits that there must be. -/
def numL (l : List UInt8) : Option Nat := if l ≠ [] ∧ l.all isD = true then some (lval l) else none

theorem numL_some {l : List UInt8} (h0 : l ≠ []) (h : l.all isD = true) : numL l = some (lval l) := if_pos ⟨h0, h⟩

theorem numL_bad {l : List UInt8} (h : l.all isD = false) : numL l = none := if_neg fun k => by rw [h] at k; cases k.2

theorem numL_nil : numL [] = none := rfl

/-- A text around the first of a byte. -/
def cutB (l : List UInt8) (c : UInt8) : List UInt8 × List UInt8 × Bool :=
  if 0 ≤ Lib.indexByte l c then (l.take (Lib.indexByte l c).toNat, l.drop ((Lib.indexByte l c).toNat + 1), true) else (l, [], false)

/-- The two parts of a number's text, as the code cuts them. -/
def partsL (l : List UInt8) : List UInt8 × List UInt8 :=
  if (cutB l 114).2.2 = true then ((cutB l 114).1, (cutB l 114).2.1) else
  if (cutB l 46).2.2 = false then (l, [49]) else
  if (cutB l 46).1 = [] ∨ (cutB l 46).2.1 = [] then ([], []) else
  ((cutB l 46).1 ++ (cutB l 46).2.1, 49 :: List.replicate (cutB l 46).2.1.length 48)

/-- The number of a text that may be, as chapter 5 says it: what stands above, and below. -/
def pnum (l : List UInt8) : Option (Nat × Nat) :=
  if l.takeWhile isD = [] then none else
  match l.dropWhile isD with
  | [] => some (lval (l.takeWhile isD), 1)
  | x :: b => if b ≠ [] ∧ b.all isD = true then (if x = 114 then some (lval (l.takeWhile isD), lval b) else if x = 46 then some (lval (l.takeWhile isD ++ b), 10 ^ b.length) else none) else none

theorem span_all {l : List UInt8} (h : l.all isD = true) : l.takeWhile isD = l ∧ l.dropWhile isD = [] := by
  induction l with
  | nil => exact ⟨rfl, rfl⟩
  | cons c l ih =>
    rw [List.all_cons, Bool.and_eq_true] at h
    obtain ⟨a, b⟩ := ih h.2
    rw [List.takeWhile_cons, List.dropWhile_cons, if_pos h.1, if_pos h.1, a, b]
    exact ⟨rfl, rfl⟩

theorem span_app {a : List UInt8} (h : a.all isD = true) {x : UInt8} (hx : isD x = false) (b : List UInt8) : (a ++ x :: b).takeWhile isD = a ∧ (a ++ x :: b).dropWhile isD = x :: b := by
  induction a with
  | nil => rw [List.nil_append, List.takeWhile_cons, List.dropWhile_cons, hx]; exact ⟨rfl, rfl⟩
  | cons c l ih =>
    rw [List.all_cons, Bool.and_eq_true] at h
    obtain ⟨u, v⟩ := ih h.2
    rw [List.cons_append, List.takeWhile_cons, List.dropWhile_cons, if_pos h.1, if_pos h.1, u, v]
    exact ⟨rfl, rfl⟩

theorem span_bad {l : List UInt8} (h : l.all isD = false) : ∃ a x b, l = a ++ x :: b ∧ a.all isD = true ∧ isD x = false := by
  induction l with
  | nil => cases h
  | cons c l ih =>
    by_cases hc : isD c = true
    · rw [List.all_cons, hc, Bool.true_and] at h
      obtain ⟨a, x, b, rfl, ha, hx⟩ := ih h
      exact ⟨c :: a, x, b, rfl, by rw [List.all_cons, hc, ha]; rfl, hx⟩
    · exact ⟨[], c, l, rfl, rfl, by simpa using hc⟩

theorem pnum_all {l : List UInt8} (h : l.all isD = true) (h0 : l ≠ []) : pnum l = some (lval l, 1) := by
  obtain ⟨a, b⟩ := span_all h
  unfold pnum
  rw [a, b, if_neg h0]

theorem pnum_nil : pnum [] = none := rfl

theorem pnum_app {a : List UInt8} (h : a.all isD = true) {x : UInt8} (hx : isD x = false) (b : List UInt8) :
    pnum (a ++ x :: b) = if a = [] then none else if b ≠ [] ∧ b.all isD = true then (if x = 114 then some (lval a, lval b) else if x = 46 then some (lval (a ++ b), 10 ^ b.length) else none) else none := by
  obtain ⟨u, v⟩ := span_app h hx b
  unfold pnum
  rw [u, v]

theorem pnum_bad {a : List UInt8} (h : a.all isD = true) {x : UInt8} (hx : isD x = false) {b : List UInt8} (hb : b = [] ∨ b.all isD = false ∨ (x ≠ 114 ∧ x ≠ 46) ∨ a = []) : pnum (a ++ x :: b) = none := by
  rw [pnum_app h hx]
  rcases hb with h1 | h1 | ⟨h1, h2⟩ | h1
  · rw [if_neg (fun k : b ≠ [] ∧ _ => k.1 h1)]; exact ite_self _
  · rw [if_neg (fun k : b ≠ [] ∧ b.all isD = true => by rw [h1] at k; cases k.2)]; exact ite_self _
  · rw [if_neg h1, if_neg h2, ite_self, ite_self]
  · rw [if_pos h1]

theorem all_mid {a b : List UInt8} {x : UInt8} (hx : isD x = false) : (a ++ x :: b).all isD = false := by
  rw [List.all_append, List.all_cons, hx, Bool.false_and, Bool.and_false]

theorem index_one (l : List UInt8) (c : UInt8) : (c ∉ l ∧ Lib.indexByte l c = -1) ∨ ∃ a b, c ∉ a ∧ l = a ++ c :: b ∧ Lib.indexByte l c = (a.length : Int) := by
  induction l with
  | nil => exact .inl ⟨by simp, rfl⟩
  | cons x l ih =>
    by_cases h : x = c
    · subst h
      refine .inr ⟨[], l, by simp, rfl, ?_⟩
      unfold Lib.indexByte
      simp
    · have e : (x == c) = false := by rw [beq_eq_false_iff_ne]; exact h
      rcases ih with ⟨h1, h2⟩ | ⟨a, b, h1, h2, h3⟩
      · refine .inl ⟨by simp [Ne.symm h, h1], ?_⟩
        unfold Lib.indexByte
        rw [e, h2]
        rfl
      · refine .inr ⟨x :: a, b, by simp [Ne.symm h, h1], by rw [h2]; rfl, ?_⟩
        unfold Lib.indexByte
        rw [e, h3]
        have : (((a.length : Nat) : Int) == -1) = false := by rw [beq_eq_false_iff_ne]; omega
        simp [this]

theorem cut_none {l : List UInt8} {c : UInt8} (h : Lib.indexByte l c = -1) : cutB l c = (l, [], false) := by
  unfold cutB
  rw [h]
  rfl

theorem cut_some {l a b : List UInt8} {c : UInt8} (h2 : l = a ++ c :: b) (h : Lib.indexByte l c = (a.length : Int)) : cutB l c = (a, b, true) := by
  unfold cutB
  rw [h, if_pos (Int.natCast_nonneg _), Int.toNat_natCast, h2]
  congr 1
  · exact List.take_left
  · congr 1
    rw [List.drop_append]
    simp

theorem cut_one (l : List UInt8) (c : UInt8) : (c ∉ l ∧ cutB l c = (l, [], false)) ∨ ∃ a b, c ∉ a ∧ l = a ++ c :: b ∧ cutB l c = (a, b, true) := by
  rcases index_one l c with ⟨h1, h2⟩ | ⟨a, b, h1, h2, h3⟩
  · exact .inl ⟨h1, cut_none h2⟩
  · exact .inr ⟨a, b, h1, h2, cut_some h2 h3⟩

def both : Option Nat → Option Nat → Option (Nat × Nat)
  | some p, some q => some (p, q)
  | _, _ => none

theorem both_none (x : Option Nat) : both x none = none := by cases x <;> rfl

theorem pnum_parts (l : List UInt8) : pnum l = both (numL (partsL l).1) (numL (partsL l).2) := by
  have d114 : isD 114 = false := by decide
  have d46 : isD 46 = false := by decide
  rcases cut_one l 114 with ⟨h1, h2⟩ | ⟨a, b, h1, h2, h3⟩
  · rcases cut_one l 46 with ⟨k1, k2⟩ | ⟨a, b, k1, k2, k3⟩
    · have e : partsL l = (l, [49]) := by unfold partsL; rw [h2, k2]; rfl
      rw [e]
      have e1 : numL [49] = some 1 := by decide
      rw [e1]
      by_cases h0 : l = []
      · subst h0; rfl
      by_cases ha : l.all isD = true
      · rw [pnum_all ha h0, numL_some h0 ha]; rfl
      · have hb : l.all isD = false := by simpa using ha
        rw [numL_bad hb]
        obtain ⟨u, x, v, rfl, hu, hx⟩ := span_bad hb
        refine (pnum_bad hu hx (.inr (.inr (.inl ⟨?_, ?_⟩)))).trans rfl
        · rintro rfl; exact h1 (by simp)
        · rintro rfl; exact k1 (by simp)
    · by_cases hn : a = [] ∨ b = []
      · have e : partsL l = ([], []) := by unfold partsL; rw [h2, k3]; simp [hn]
        rw [e, numL_nil, both_none, k2]
        by_cases ha : a.all isD = true
        · exact pnum_bad ha d46 (hn.elim (fun h => .inr (.inr (.inr h))) .inl)
        · have hb : a.all isD = false := by simpa using ha
          obtain ⟨u, x, v, rfl, hu, hx⟩ := span_bad hb
          rw [List.append_assoc, List.cons_append]
          exact pnum_bad hu hx (.inr (.inl (all_mid d46)))
      · have e : partsL l = (a ++ b, 49 :: List.replicate b.length 48) := by unfold partsL; rw [h2, k3]; simp [hn]
        have ha0 : a ≠ [] := fun h => hn (.inl h)
        have hb0 : b ≠ [] := fun h => hn (.inr h)
        rw [e, k2]
        have e2 : numL (49 :: List.replicate b.length 48) = some (10 ^ b.length) := by
          rw [numL_some (by simp) (by simp [isD]), lval_tens]
        rw [e2]
        by_cases ha : a.all isD = true
        · rw [pnum_app ha d46, if_neg ha0]
          by_cases hb : b.all isD = true
          · rw [if_pos ⟨hb0, hb⟩, if_neg (by decide), if_pos rfl, numL_some (by simp [ha0]) (by rw [List.all_append, ha, hb]; rfl)]
            rfl
          · have hb' : b.all isD = false := by simpa using hb
            rw [if_neg (fun k => hb k.2), numL_bad (by rw [List.all_append, hb', Bool.and_false])]
            rfl
        · have hb : a.all isD = false := by simpa using ha
          rw [numL_bad (by rw [List.all_append, hb, Bool.false_and])]
          obtain ⟨u, x, v, rfl, hu, hx⟩ := span_bad hb
          rw [List.append_assoc, List.cons_append]
          exact (pnum_bad hu hx (.inr (.inl (all_mid d46)))).trans rfl
  · have e : partsL l = (a, b) := by unfold partsL; rw [h3]; rfl
    rw [e, h2]
    by_cases ha : a.all isD = true
    · rw [pnum_app ha d114]
      by_cases ha0 : a = []
      · rw [if_pos ha0, ha0]; rfl
      rw [if_neg ha0, numL_some ha0 ha]
      by_cases hb : b ≠ [] ∧ b.all isD = true
      · rw [if_pos hb, if_pos rfl, numL_some hb.1 hb.2]; rfl
      · rw [if_neg hb]
        unfold numL
        rw [if_neg hb]
        rfl
    · have hb : a.all isD = false := by simpa using ha
      rw [numL_bad hb]
      obtain ⟨u, x, v, rfl, hu, hx⟩ := span_bad hb
      rw [List.append_assoc, List.cons_append]
      exact (pnum_bad hu hx (.inr (.inl (all_mid d114)))).trans rfl

/-- What a text without its sign is read as: above, below, the error. -/
def rd (neg : Bool) (l : List UInt8) : Int × Nat × Int :=
  if 400 < l.length then (0, 0, 7) else
  match pnum l with
  | none => (0, 0, 1)
  | some (p, q) => (mkT (sgn neg p) q, mkB (sgn neg p) q, mkE (sgn neg p) q)

def ReadPost (neg : Bool) (l : List UInt8) : World → Ending → World → Prop := ResPost (rd neg l).1 (rd neg l).2.1 (rd neg l).2.2

theorem rd_long {neg : Bool} {l : List UInt8} (h : 400 < l.length) : rd neg l = (0, 0, 7) := if_pos h

theorem rd_none {neg : Bool} {l : List UInt8} (h : ¬ 400 < l.length) (k : pnum l = none) : rd neg l = (0, 0, 1) := by unfold rd; rw [if_neg h, k]

theorem rd_some {neg : Bool} {l : List UInt8} {p q : Nat} (h : ¬ 400 < l.length) (k : pnum l = some (p, q)) : rd neg l = (mkT (sgn neg p) q, mkB (sgn neg p) q, mkE (sgn neg p) q) := by unfold rd; rw [if_neg h, k]

theorem read_long {neg : Bool} {l : List UInt8} {w w' : World} {e : Ending} (h : 400 < l.length) (k : ResPost 0 0 7 w e w') : ReadPost neg l w e w' := by unfold ReadPost; rw [rd_long h]; exact k

theorem read_none {neg : Bool} {l : List UInt8} {w w' : World} {e : Ending} (h : ¬ 400 < l.length) (n : pnum l = none) (k : ResPost 0 0 1 w e w') : ReadPost neg l w e w' := by unfold ReadPost; rw [rd_none h n]; exact k

theorem read_some {neg : Bool} {l : List UInt8} {p q : Nat} {w w' : World} {e : Ending} (h : ¬ 400 < l.length) (n : pnum l = some (p, q)) (k : MakePost (sgn neg p) q w e w') : ReadPost neg l w e w' := by unfold ReadPost; rw [rd_some h n]; exact k

/-- A text's answer: a ¯ ahead, or not. -/
def ParsedPost (l : List UInt8) : World → Ending → World → Prop := ReadPost (Lib.hasPrefix l [194, 175]) (Lib.trimPrefix l [194, 175])

/-- The digits of a number. -/
def DecL (v : Nat) (l : List UInt8) : Prop := ∃ k d, Dcan v k d ∧ l = decText d k

theorem DecL.uniq {v : Nat} {l m : List UInt8} (a : DecL v l) (b : DecL v m) : l = m := by
  obtain ⟨k, d, h1, rfl⟩ := a
  obtain ⟨k', d', h2, rfl⟩ := b
  exact decText_eq h1 h2

theorem DecL.facts {v : Nat} {l : List UInt8} (a : DecL v l) (hv : v < pw 40) : l ≠ [] ∧ l.all isD = true ∧ lval l = v := by
  obtain ⟨k, d, h1, rfl⟩ := a
  obtain ⟨h2, h3, _⟩ := dec_isT (s := ⟨(decText d k).toArray⟩) h1 rfl hv
  refine ⟨?_, (digT_all _).1 h2.2.1, by rw [← h3, sval_lval]⟩
  intro h
  have := h2.1
  rw [Lib.size_eq] at this
  simp [h] at this

theorem DecL.small {v : Nat} {l : List UInt8} (a : DecL v l) (hv : v < pw 40) : l.length ≤ 2000 := by
  obtain ⟨k, d, h1, rfl⟩ := a
  obtain ⟨_, _, h3⟩ := dec_isT (s := ⟨(decText d k).toArray⟩) h1 rfl hv
  rw [Lib.size_eq] at h3
  exact h3

theorem DecL.len {v m : Nat} {l : List UInt8} (a : DecL v l) (hv : v < 10 ^ m) (hm : 0 < m) : l.length ≤ m := by
  obtain ⟨k, d, h1, rfl⟩ := a
  unfold decText
  split
  · exact hm
  · rename_i hk
    rw [show (digBytes d k).length = k by simp [digBytes]]
    rcases h1.top with h | h
    · omega
    · refine Nat.le_of_not_lt fun hlt => ?_
      have e : k = k - 1 + 1 := by omega
      have g := dval_ge (f := d) (n := k - 1) h
      rw [← e, h1.val] at g
      have : 10 ^ m ≤ 10 ^ (k - 1) := ten_le (by omega)
      omega

/-- A number's text. -/
def Printed (P : Int) (Q : Nat) (l : List UInt8) : Prop := ∃ a b, DecL P.natAbs a ∧ DecL Q b ∧ l = (if P < 0 then [194, 175] else []) ++ a ++ (if Q = 1 then [] else 114 :: b)

theorem Printed.uniq {P : Int} {Q : Nat} {l m : List UInt8} (x : Printed P Q l) (y : Printed P Q m) : l = m := by
  obtain ⟨a, b, h1, h2, rfl⟩ := x
  obtain ⟨a', b', k1, k2, rfl⟩ := y
  rw [h1.uniq k1, h2.uniq k2]

theorem pw_more {n : Nat} (h : n < pw 32) : n < pw 40 := Nat.lt_of_lt_of_le h (pw_le (by omega))

theorem Printed.read {P : Int} {Q : Nat} {l : List UInt8} (x : Printed P Q l) (lw : Low P Q) : Lib.hasPrefix l [194, 175] = decide (P < 0) ∧ pnum (Lib.trimPrefix l [194, 175]) = some (P.natAbs, Q) := by
  obtain ⟨a, b, h1, h2, rfl⟩ := x
  obtain ⟨a0, a1, a2⟩ := h1.facts (pw_more lw.abs_lt)
  obtain ⟨b0, b1, b2⟩ := h2.facts (pw_more (by have := lw.bot_lt; simpa using this))
  have key : pnum (a ++ (if Q = 1 then [] else 114 :: b)) = some (P.natAbs, Q) := by
    by_cases hQ : Q = 1
    · rw [if_pos hQ, List.append_nil, pnum_all a1 a0, a2, hQ]
    · rw [if_neg hQ, pnum_app a1 (by decide), if_neg a0, if_pos ⟨b0, b1⟩, if_pos rfl, a2, b2]
  by_cases hP : P < 0
  · rw [if_pos hP]
    have e : Lib.hasPrefix ([194, 175] ++ a ++ (if Q = 1 then [] else 114 :: b)) [194, 175] = true := by simp [Lib.hasPrefix, List.isPrefixOf]
    refine ⟨by rw [e, decide_eq_true hP], ?_⟩
    unfold Lib.trimPrefix
    rw [e, if_pos rfl, List.append_assoc]
    exact key
  · rw [if_neg hP, List.nil_append]
    have e : Lib.hasPrefix (a ++ (if Q = 1 then [] else 114 :: b)) [194, 175] = false := by
      cases a with
      | nil => exact absurd rfl a0
      | cons c a =>
        rw [List.all_cons, Bool.and_eq_true] at a1
        have : c ≠ 194 := by rintro rfl; exact absurd a1.1 (by decide)
        simp [Lib.hasPrefix, List.isPrefixOf, Ne.symm this]
    refine ⟨by rw [e, decide_eq_false hP], ?_⟩
    unfold Lib.trimPrefix
    rw [e]
    exact key

theorem trim_all (l : List UInt8) : (Lib.trimLeftB l 48).all isD = l.all isD := by
  unfold Lib.trimLeftB
  induction l with
  | nil => rfl
  | cons c l ih =>
    rw [List.dropWhile_cons]
    by_cases h : c = 48
    · subst h
      rw [if_pos (by decide), ih, List.all_cons, show isD 48 = true by decide, Bool.true_and]
    · rw [if_neg (by simpa using h)]

theorem trim_len (l : List UInt8) : (Lib.trimLeftB l 48).length ≤ l.length := (List.dropWhile_sublist _).length_le

theorem trim_head {l m : List UInt8} {c : UInt8} (h : Lib.trimLeftB l 48 = c :: m) : c ≠ 48 := by
  unfold Lib.trimLeftB at h
  induction l with
  | nil => cases h
  | cons x l ih =>
    rw [List.dropWhile_cons] at h
    by_cases hx : x = 48
    · subst hx
      rw [if_pos (by decide)] at h
      exact ih h
    · rw [if_neg (by simpa using hx)] at h
      cases h
      exact hx

/-- What nat.Parse asks of a text without noughts ahead. -/
theorem isT_trim {s : ByteArray} {l : List UInt8} (h : s.data.toList = Lib.trimLeftB l 48) (h0 : Lib.trimLeftB l 48 ≠ []) : IsT s ↔ l.all isD = true := by
  rw [← trim_all, ← h]
  constructor
  · intro k; exact (digT_all s).1 k.2.1
  · intro k
    refine ⟨?_, (digT_all s).2 k, .inr ?_⟩
    · rw [Lib.size_eq, h]
      exact List.length_pos_iff.2 h0
    · cases hm : Lib.trimLeftB l 48 with
      | nil => exact absurd hm h0
      | cons c m =>
        have hc := trim_head hm
        rw [byt_of (h.trans hm)]
        intro e
        exact hc (UInt8.toNat_inj.1 (by simpa using e))

end Go.Proofs.YtokdaagjkhkinaaGreatDoor

namespace Go.Proofs
open Go.Shelf
def Tryz.lays161_ren : Go.Shelf.Ren := ⟨fun | 161 => 48 | 231 => 73 | 227 => 74 | 233 => 75 | 235 => 76 | 228 => 98 | 197 => 99 | 151 => 100 | 260 => 116 | 152 => 117 | 137 => 125 | 119 => 126 | 224 => 112 | 225 => 111 | 217 => 110 | 266 => 123 | n => n, fun | 9 => 9 | 4 => 4 | 3 => 3 | 5 => 5 | 117 => 105 | 116 => 104 | 0 => 0 | 124 => 108 | 105 => 120 | 21 => 21 | 119 => 143 | 46 => 81 | 139 => 146 | 138 => 145 | n => n, fun | 3 => 2 | 4 => 3 | n => n⟩
theorem Tryz.lays161 : Go.Proofs.Lays.n161 Tryz.prog Tryz.lays161_ren := {
  mixed := by kernel_rfl
  f119 := Tryz.func126.trans (congrArg some (by kernel_rfl))
  f137 := Tryz.func125.trans (congrArg some (by kernel_rfl))
  f151 := Tryz.func100.trans (congrArg some (by kernel_rfl))
  f152 := Tryz.func117.trans (congrArg some (by kernel_rfl))
  f161 := Tryz.func48.trans (congrArg some (by kernel_rfl))
  f197 := Tryz.func99.trans (congrArg some (by kernel_rfl))
  f217 := Tryz.func110.trans (congrArg some (by kernel_rfl))
  f224 := Tryz.func112.trans (congrArg some (by kernel_rfl))
  f225 := Tryz.func111.trans (congrArg some (by kernel_rfl))
  f227 := Tryz.func74.trans (congrArg some (by kernel_rfl))
  f228 := Tryz.func98.trans (congrArg some (by kernel_rfl))
  f231 := Tryz.func73.trans (congrArg some (by kernel_rfl))
  f233 := Tryz.func75.trans (congrArg some (by kernel_rfl))
  f235 := Tryz.func76.trans (congrArg some (by kernel_rfl))
  f260 := Tryz.func116.trans (congrArg some (by kernel_rfl))
  f266 := Tryz.func123.trans (congrArg some (by kernel_rfl))
  t0 := Tryz.underlying0
  a0 := Tryz.isAgg0
  z0 := Tryz.sizeOf0
  v0 := Tryz.zeroValue0
  t3 := Tryz.underlying3
  a3 := Tryz.isAgg3
  z3 := Tryz.sizeOf3
  v3 := Tryz.zeroValue3
  t4 := Tryz.underlying4
  a4 := Tryz.isAgg4
  z4 := Tryz.sizeOf4
  v4 := Tryz.zeroValue4
  t5 := Tryz.underlying5
  a5 := Tryz.isAgg5
  z5 := Tryz.sizeOf5
  v5 := Tryz.zeroValue5
  t9 := Tryz.underlying9
  a9 := Tryz.isAgg9
  z9 := Tryz.sizeOf9
  v9 := Tryz.zeroValue9
  t21 := Tryz.underlying21
  a21 := Tryz.isAgg21
  z21 := Tryz.sizeOf21
  v21 := Tryz.zeroValue21
  t46 := Tryz.underlying81
  a46 := Tryz.isAgg81
  z46 := Tryz.sizeOf81
  v46 := Tryz.zeroValue81
  t105 := Tryz.underlying120
  a105 := Tryz.isAgg120
  z105 := Tryz.sizeOf120
  v105 := Tryz.zeroValue120
  t116 := Tryz.underlying104
  a116 := Tryz.isAgg104
  z116 := Tryz.sizeOf104
  t117 := Tryz.underlying105
  a117 := Tryz.isAgg105
  z117 := Tryz.sizeOf105
  v117 := Tryz.zeroValue105
  t119 := Tryz.underlying143
  a119 := Tryz.isAgg143
  z119 := Tryz.sizeOf143
  t124 := Tryz.underlying108
  a124 := Tryz.isAgg108
  z124 := Tryz.sizeOf108
  v124 := Tryz.zeroValue108
  t138 := Tryz.underlying145
  a138 := Tryz.isAgg145
  z138 := Tryz.sizeOf145
  v138 := Tryz.zeroValue145
  t139 := Tryz.underlying146
  a139 := Tryz.isAgg146
  z139 := Tryz.sizeOf146
  v139 := Tryz.zeroValue146
  g3 := by kernel_rfl
  g4 := by kernel_rfl }
open Go.RowKit in
theorem Tryz.strings_TrimLeft_one (s : ByteArray) (c : UInt8) (hc : c.toNat < 128) (w : World) :
    Calls Tryz.prog 48 #[.string s, .string ⟨#[c]⟩] w fun e w' => e = .returned (.string ⟨(Lib.trimLeftB s.data.toList c).toArray⟩) ∧ w' = w := Any.strings_TrimLeft_one Tryz.lays161 s c hc w
def Tryz.lays103_ren : Go.Shelf.Ren := ⟨fun | 103 => 21 | 210 => 45 | 206 => 65 | n => n, fun | 9 => 9 | 4 => 4 | 24 => 47 | 3 => 3 | n => n, fun | n => n⟩
theorem Tryz.lays103 : Go.Proofs.Lays.n103 Tryz.prog Tryz.lays103_ren := {
  mixed := by kernel_rfl
  f103 := Tryz.func21.trans (congrArg some (by kernel_rfl))
  f206 := Tryz.func65.trans (congrArg some (by kernel_rfl))
  f210 := Tryz.func45.trans (congrArg some (by kernel_rfl))
  t3 := Tryz.underlying3
  a3 := Tryz.isAgg3
  z3 := Tryz.sizeOf3
  v3 := Tryz.zeroValue3
  t4 := Tryz.underlying4
  a4 := Tryz.isAgg4
  z4 := Tryz.sizeOf4
  v4 := Tryz.zeroValue4
  t9 := Tryz.underlying9
  a9 := Tryz.isAgg9
  z9 := Tryz.sizeOf9
  v9 := Tryz.zeroValue9
  t24 := Tryz.underlying47
  a24 := Tryz.isAgg47
  z24 := Tryz.sizeOf47
  v24 := Tryz.zeroValue47 }
open Go.RowKit in
theorem Tryz.strings_CutPrefix (s p : ByteArray) (w : World) :
    Calls Tryz.prog 21 #[.string s, .string p] w fun e w' => e = .returned (.tuple #[.string ⟨(Lib.trimPrefix s.data.toList p.data.toList).toArray⟩, .bool (Lib.hasPrefix s.data.toList p.data.toList)]) ∧ w' = w := Any.strings_CutPrefix Tryz.lays103 s p w
def Tryz.lays219_ren : Go.Shelf.Ren := ⟨fun | 219 => 93 | 217 => 110 | 225 => 111 | 224 => 112 | 267 => 113 | 266 => 123 | 314 => 124 | n => n, fun | 9 => 9 | 3 => 3 | 4 => 4 | 5 => 5 | 46 => 81 | 146 => 124 | 51 => 35 | n => n, fun | 1 => 0 | n => n⟩
theorem Tryz.lays219 : Go.Proofs.Lays.n219 Tryz.prog Tryz.lays219_ren := {
  mixed := by kernel_rfl
  f217 := Tryz.func110.trans (congrArg some (by kernel_rfl))
  f219 := Tryz.func93.trans (congrArg some (by kernel_rfl))
  f224 := Tryz.func112.trans (congrArg some (by kernel_rfl))
  f225 := Tryz.func111.trans (congrArg some (by kernel_rfl))
  f266 := Tryz.func123.trans (congrArg some (by kernel_rfl))
  f267 := Tryz.func113.trans (congrArg some (by kernel_rfl))
  f314 := Tryz.func124.trans (congrArg some (by kernel_rfl))
  t3 := Tryz.underlying3
  a3 := Tryz.isAgg3
  z3 := Tryz.sizeOf3
  v3 := Tryz.zeroValue3
  t4 := Tryz.underlying4
  a4 := Tryz.isAgg4
  z4 := Tryz.sizeOf4
  v4 := Tryz.zeroValue4
  t5 := Tryz.underlying5
  a5 := Tryz.isAgg5
  z5 := Tryz.sizeOf5
  v5 := Tryz.zeroValue5
  t9 := Tryz.underlying9
  a9 := Tryz.isAgg9
  z9 := Tryz.sizeOf9
  v9 := Tryz.zeroValue9
  t46 := Tryz.underlying81
  a46 := Tryz.isAgg81
  z46 := Tryz.sizeOf81
  v46 := Tryz.zeroValue81
  t51 := Tryz.underlying35
  a51 := Tryz.isAgg35
  z51 := Tryz.sizeOf35
  v51 := Tryz.zeroValue35
  t146 := Tryz.underlying124
  a146 := Tryz.isAgg124
  z146 := Tryz.sizeOf124
  v146 := Tryz.zeroValue124
  g1 := by kernel_rfl }
open Go.RowKit Go.Lib in
theorem Tryz.stringslite_Index_one (s : ByteArray) (c : UInt8) (w : World) :
    Calls Tryz.prog 93 #[.string s, .string ⟨#[c]⟩] w fun e w' => e = .returned (.int .i64 (Lib.indexByte s.data.toList c)) ∧ w' = w := Any.stringslite_Index_one Tryz.lays219 s c w
def Tryz.lays105_ren : Go.Shelf.Ren := ⟨fun | 105 => 47 | 212 => 67 | 99 => 68 | 165 => 69 | 166 => 70 | 170 => 71 | 169 => 72 | 263 => 94 | 264 => 95 | 206 => 65 | 240 => 96 | 241 => 97 | 276 => 114 | 277 => 115 | n => n, fun | 9 => 9 | 3 => 3 | 4 => 4 | 20 => 20 | 0 => 0 | 46 => 81 | 109 => 91 | 5 => 5 | 72 => 95 | 76 => 99 | 51 => 35 | 146 => 124 | 53 => 77 | 148 => 126 | 70 => 93 | 37 => 64 | 75 => 98 | 127 => 128 | 164 => 136 | 80 => 102 | n => n, fun | n => n⟩
theorem Tryz.lays105 : Go.Proofs.Lays.n105 Tryz.prog Tryz.lays105_ren := {
  mixed := by kernel_rfl
  f99 := Tryz.func68.trans (congrArg some (by kernel_rfl))
  f105 := Tryz.func47.trans (congrArg some (by kernel_rfl))
  f165 := Tryz.func69.trans (congrArg some (by kernel_rfl))
  f166 := Tryz.func70.trans (congrArg some (by kernel_rfl))
  f169 := Tryz.func72.trans (congrArg some (by kernel_rfl))
  f170 := Tryz.func71.trans (congrArg some (by kernel_rfl))
  f206 := Tryz.func65.trans (congrArg some (by kernel_rfl))
  f212 := Tryz.func67.trans (congrArg some (by kernel_rfl))
  f240 := Tryz.func96.trans (congrArg some (by kernel_rfl))
  f241 := Tryz.func97.trans (congrArg some (by kernel_rfl))
  f263 := Tryz.func94.trans (congrArg some (by kernel_rfl))
  f264 := Tryz.func95.trans (congrArg some (by kernel_rfl))
  f276 := Tryz.func114.trans (congrArg some (by kernel_rfl))
  f277 := Tryz.func115.trans (congrArg some (by kernel_rfl))
  t0 := Tryz.underlying0
  a0 := Tryz.isAgg0
  z0 := Tryz.sizeOf0
  v0 := Tryz.zeroValue0
  t3 := Tryz.underlying3
  a3 := Tryz.isAgg3
  z3 := Tryz.sizeOf3
  v3 := Tryz.zeroValue3
  t4 := Tryz.underlying4
  a4 := Tryz.isAgg4
  z4 := Tryz.sizeOf4
  v4 := Tryz.zeroValue4
  t5 := Tryz.underlying5
  a5 := Tryz.isAgg5
  z5 := Tryz.sizeOf5
  v5 := Tryz.zeroValue5
  t9 := Tryz.underlying9
  a9 := Tryz.isAgg9
  z9 := Tryz.sizeOf9
  v9 := Tryz.zeroValue9
  t20 := Tryz.underlying20
  a20 := Tryz.isAgg20
  z20 := Tryz.sizeOf20
  v20 := Tryz.zeroValue20
  t37 := Tryz.underlying64
  a37 := Tryz.isAgg64
  z37 := Tryz.sizeOf64
  v37 := Tryz.zeroValue64
  t46 := Tryz.underlying81
  a46 := Tryz.isAgg81
  z46 := Tryz.sizeOf81
  v46 := Tryz.zeroValue81
  t51 := Tryz.underlying35
  a51 := Tryz.isAgg35
  z51 := Tryz.sizeOf35
  v51 := Tryz.zeroValue35
  t53 := Tryz.underlying77
  a53 := Tryz.isAgg77
  z53 := Tryz.sizeOf77
  v53 := Tryz.zeroValue77
  t70 := Tryz.underlying93
  a70 := Tryz.isAgg93
  z70 := Tryz.sizeOf93
  v70 := Tryz.zeroValue93
  t72 := Tryz.underlying95
  a72 := Tryz.isAgg95
  z72 := Tryz.sizeOf95
  v72 := Tryz.zeroValue95
  t75 := Tryz.underlying98
  a75 := Tryz.isAgg98
  z75 := Tryz.sizeOf98
  v75 := Tryz.zeroValue98
  t76 := Tryz.underlying99
  a76 := Tryz.isAgg99
  z76 := Tryz.sizeOf99
  v76 := Tryz.zeroValue99
  t109 := Tryz.underlying91
  a109 := Tryz.isAgg91
  z109 := Tryz.sizeOf91
  v109 := Tryz.zeroValue91
  t127 := Tryz.underlying128
  a127 := Tryz.isAgg128
  z127 := Tryz.sizeOf128
  v127 := Tryz.zeroValue128
  t146 := Tryz.underlying124
  a146 := Tryz.isAgg124
  z146 := Tryz.sizeOf124
  v146 := Tryz.zeroValue124
  t148 := Tryz.underlying126
  a148 := Tryz.isAgg126
  z148 := Tryz.sizeOf126
  v148 := Tryz.zeroValue126
  t164 := Tryz.underlying136
  a164 := Tryz.isAgg136
  z164 := Tryz.sizeOf136
  v164 := Tryz.zeroValue136 }
theorem Tryz.Builder_Extra_105 : Builder.Extra Tryz.prog Tryz.lays105_ren := {
  sizeBuilder := by kernel_rfl
  liesBuilder := by kernel_rfl
  t5 := Tryz.underlying5
  a5 := Tryz.isAgg5
  z5 := Tryz.sizeOf5
  v5 := Tryz.zeroValue5
  infoByte := by kernel_rfl
  cellsByte := by kernel_rfl
  sizeByte := by kernel_rfl
  neB5 := by decide }
open Go.RowKit Go.Lib in
theorem Tryz.strings_Repeat (s : ByteArray) (c : Nat) (w : World) (hc : c ≤ 9223372036854775807) (hlen : s.size * c ≤ 140737488355328) :
    Calls Tryz.prog 47 #[.string s, .int .i64 c] w fun e w' => e = .returned (.string ⟨(Lib.repeatL s.data.toList c).toArray⟩) ∧ Below w.heap.size w w' := Any.strings_Repeat Tryz.lays105 Tryz.Builder_Extra_105 s c w hc hlen
end Go.Proofs

namespace Go.Proofs.YtokdaagjkhkinaaGreatDoor
open Go.RowKit Num

attribute [local go_sem ↓] Go.wp_at_zero Go.wp_at_succ

theorem canon_right {w : World} {b : Bool} {ao : Option Addr} {n nc v : Nat} {f : Nat → Nat} (hn : n ≤ nc) (hc : nc ≤ 9223372036854775807) (hs : Sl w ao n f) (cf : Canon v n f) (h : 0 < n ∨ b = false) : Right w b ao n nc (sgn b v) := by
  refine ⟨f, hn, hc, hs, by rw [sgn_abs]; exact cf, ?_⟩
  rw [sgn_neg]
  rcases h with h | h
  · have := cf.ne_zero
    have : 0 < v := by omega
    simp [this]
  · simp [h]

set_option maxHeartbeats 1000000 in
theorem rNorm_any (b : Bool) (ao : Option Addr) (n nc : Nat) (x : Int) (w : World) (A : Whole w b ao n nc x) :
    Calls Tryz.prog 34 #[.agg #[.bool b, .slice ao n nc]] w (IntPost x w) := by
  obtain ⟨f, A, hx⟩ := A.ex
  have A' := Lib.hid A; have hx' := Lib.hid hx
  clear A hx
  go_enter Tryz.func34, Tryz.ntmps34
  go_wp2_with fail
  refine gen_calls (fun w' => Below w.heap.size w w' ∧ Box w' w.heap.size (.bool b) (.slice ao n nc) ∧ Box w' (w.heap.size + 1) (.bool false) (.slice none 0 0))
    ⟨(((Below.refl _ w).alloc (Nat.le_refl _) _).alloc (by first | (simp; done) | (simp; omega)) _), ((Box.new _ _ _ rfl).alloc _), (Box.new _ _ _ (by first | (simp; done) | (simp; omega)))⟩ ?_
  rintro w0 ⟨hb0, x0, x1⟩
  refine (refNorm_any ao n nc f _ (A'.out.below hb0)).mono ?_
  rintro e w1 ⟨co, cn, cc, c, rfl, h1, h2, h3, h4, hb⟩
  have y0 := x0.later hb; have y1 := x1.later hb
  have hb1 := Lib.hid (below_then hb0 (Nat.le_refl _) hb)
  have h3' := Lib.hid h3; have h4' := Lib.hid h4; have y0' := Lib.hid y0; have y1' := Lib.hid y1
  have p0 := y0.c0; have q1 := y1.c0; have q2 := y1.c1; have q3 := y1.fr 0; have q4 := y1.fr 1
  clear h3 h4 x0 x1 hb hb0 y0 y1
  by_cases h0 : cn = 0
  · subst h0
    have z := y1'.out.set (.bool false) (.slice none 0 0)
    have e0 := z.c0; have e1 := z.c1
    have hz : x = 0 := by
      rw [← hx'.out, h4'.out.ne_zero.1 rfl]; cases b <;> rfl
    have hz' := Lib.hid hz
    clear z hz
    go_wp2_with fail
    refine bodyPost_ret (v := .agg #[.bool false, .slice none 0 0]) (by simp [results, Tryz.results34, go_sem, e0, e1]) rfl ?_
    rw [hz'.out]
    exact IntPost.stored ⟨fun _ => 0, Nat.le_refl _, by omega, .inl rfl, canon_zero _, rfl⟩ y1'.out hb1.out (by omega)
  · have z := y1'.out.set (.bool b) (.slice co cn cc)
    have e0 := z.c0; have e1 := z.c1
    clear z
    go_wp2_with fail
    refine bodyPost_ret (v := .agg #[.bool b, .slice co cn cc]) (by simp [results, Tryz.results34, go_sem, e0, e1]) rfl ?_
    rw [← hx'.out]
    exact IntPost.stored (canon_right h1 h2 h3'.out h4'.out (.inl (Nat.pos_of_ne_zero h0))) y1'.out hb1.out (by omega)

end Go.Proofs.YtokdaagjkhkinaaGreatDoor

namespace Go.Proofs.YtokdaagjkhkinaaGreatDoor
open Go.RowKit Num

def SubPost (x y : Nat) (w : World) (e : Ending) (w' : World) : Prop :=
  Below w.heap.size w w' ∧ ((x < y ∧ e = .returned (.tuple #[.slice none 0 0, .bool false])) ∨
    (y ≤ x ∧ ∃ ao n cap f, e = .returned (.tuple #[.slice ao n cap, .bool true]) ∧ n ≤ cap ∧ cap ≤ 9223372036854775807 ∧ Sl w' ao n f ∧ Canon (x - y) n f))

end Go.Proofs.YtokdaagjkhkinaaGreatDoor

namespace Go.Proofs.YtokdaagjkhkinaaGreatDoor
open Go.RowKit Num
set_option maxRecDepth 20000

set_option maxHeartbeats 1000000 in
theorem refSub_any (ao bo : Option Addr) (n nc m mc : Nat) (f g : Nat → Nat) (w : World) (A : Arg w ao n nc f) (B : Arg w bo m mc g) :
    Calls Tryz.prog 59 #[.slice ao n nc, .slice bo m mc] w (SubPost (val f n) (val g m) w) := by
  obtain ⟨i32, hi, hz0, hz1, hz2⟩ := info_parts info32
  have hA := Lib.hid A; have hB := Lib.hid B
  obtain ⟨hn, hnc, hnb, hf, lf⟩ := A
  obtain ⟨hm, hmc, hmb, hg, lg⟩ := B
  obtain ⟨N, hN0⟩ : ∃ N, N = max n m := ⟨_, rfl⟩
  have hnN : n ≤ N := by omega
  have hmN : m ≤ N := by omega
  have hNb : N ≤ 1000000 := by omega
  have hN := Lib.hid hN0
  have hlf := Lib.hid lf; have hlg := Lib.hid lg; have hsf := Lib.hid hf; have hsg := Lib.hid hg
  clear hN0 hf hg lf lg
  go_enter Tryz.func59, Tryz.ntmps59
  go_wp2_with fail
  refine (refCmp_any ao bo n nc m mc f g w hA.out hB.out).mono ?_
  by_cases hlt0 : val f n < val g m
  · rw [cmpI_lt (Int.ofNat_lt.2 hlt0)]
    have hlt := Lib.hid hlt0
    clear hlt0
    rintro e w' ⟨rfl, rfl⟩
    go_wp2_with fail
    go_ret2
    exact ⟨Below.refl _ _, .inl ⟨hlt.out, rfl⟩⟩
  have hge := Lib.hid (Nat.le_of_not_lt hlt0)
  have hcm : 0 ≤ cmpI (val f n) (val g m) := by
    unfold cmpI
    rw [if_neg (by omega)]
    split <;> decide
  clear hlt0
  generalize cmpI (val f n : Int) (val g m : Int) = cm at hcm ⊢
  rintro e w' ⟨rfl, rfl⟩
  go_wp2_with fail
  go_loopw [6, 7, 8] (fun v c i wr => ∃ (j : Nat) (F : Nat → Nat) (cn : Nat), j ≤ N ∧ i = .int .i64 j ∧ c = .int .u64 cn ∧ cn ≤ 1 ∧ wr.ownsRow w.heap.size 35 1 v j (limbCells F j) ∧ Lim F j ∧
      val F j + val (at0 g m) j = val (at0 f n) j + cn * pw j ∧ Below w.heap.size w wr) (fun _ _ i _ => N - (intOf i).toNat)
  case atStart => exact ⟨0, fun _ => 0, 0, Nat.zero_le _, rfl, rfl, by omega, World.ownsRow_nil _ _ _ _, fun j h => by omega, rfl, Below.refl _ _⟩
  case round =>
    obtain ⟨j, F, cn, hj, rfl, rfl, hc, hown0, hlim0, hval0, hbel0⟩ := hrel
    have hown := Lib.hid hown0; have hlim := Lib.hid hlim0; have hval := Lib.hid hval0; have hbel := Lib.hid hbel0
    clear hown0 hlim0 hval0 hbel0
    have bf := at0_lt hlf.out j
    have bg := at0_lt hlg.out j
    go_wp2_with fail
    refine (longer_any ao bo n nc m mc _).mono ?_
    rw [← hN.out]
    rintro e w' ⟨rfl, rfl⟩
    by_cases hlt : j < N
    · go_wp2_with fail
      refine (refLimb_any ao n nc j f wr (by omega) (hsf.out.below hbel.out) hlf.out).mono ?_
      rw [Int.toNat_natCast]
      rintro e w' ⟨rfl, rfl⟩
      go_wp2_with fail
      refine (refLimb_any bo m mc j g wr (by omega) (hsg.out.below hbel.out) hlg.out).mono ?_
      rw [Int.toNat_natCast]
      rintro e w' ⟨rfl, rfl⟩
      go_wp2_with (at_builtin; refine wpList_append_limb rfl (.tmp 31) (.tmp 35) 22 rfl w.heap.size 35 i32 Tryz.underlying22 hi hz0 hz1 hz2 _ j F _ _ ((4294967296 + at0 f n j - at0 g m j - cn) % 4294967296) rfl rfl hown.out (by omega) (by omega) hbel.out.size ?_)
      intro v' w1 hown1 hb1
      have hown' := Lib.hid hown1; have hbel' := Lib.hid (hbel.out.trans hb1)
      clear hown1 hb1
      go_wp2_with fail
      go_roundw
      case rel =>
        refine ⟨j + 1, put F j ((4294967296 + at0 f n j - at0 g m j - cn) % 4294967296), 1 - (4294967296 + at0 f n j - at0 g m j - cn) / 4294967296, by omega, by go_num, int_eq (by omega), by omega, hown'.out, ?_, ?_, hbel'.out⟩
        · exact put_snoc_lim hlim.out (Nat.mod_lt _ (by decide))
        · rw [val_put_succ, val_succ, val_succ, pw_succ]
          exact dif_step hval.out (by omega)
      case measure => simp [intOf]; omega
    · obtain rfl : j = N := by omega
      obtain ⟨ao', cap', rfl, g1, g2, g3⟩ := owns_slice hown.out
      have A' := Lib.hid (show Arg wr ao' j cap' F from ⟨g1, g2, by omega, g3, hlim.out⟩)
      have hown' := Lib.hid hown.out
      clear g3
      go_wp2_with fail
      refine (refNorm_any ao' j cap' F wr A'.out).mono ?_
      rintro e w2 ⟨bo', p, pc, h, rfl, hp, hpc, hsp, hcp, hb⟩
      have hsp' := Lib.hid hsp; have hcp' := Lib.hid hcp; have hbel' := Lib.hid (hbel.out.trans (hb.mono hbel.out.size))
      clear hsp hcp hb
      go_wp2_with fail
      go_ret2
      refine ⟨hbel'.out, .inr ⟨hge.out, bo', p, pc, h, rfl, hp, hpc, hsp'.out, ?_⟩⟩
      have e1 := hval.out
      rw [val_at0_ge hnN, val_at0_ge hmN] at e1
      rw [← sub_end e1 (val_lt hlim.out) hge.out]
      exact hcp'.out

set_option maxHeartbeats 1000000 in
theorem twice_any (ao : Option Addr) (n nc b : Nat) (f : Nat → Nat) (w : World) (A : Arg w ao n nc f) (hnb' : n < 1000000) (hb : b ≤ 1) :
    Calls Tryz.prog 57 #[.slice ao n nc, .int .u32 b] w (NumPost (2 * val f n + b) w) := by
  obtain ⟨i32, hi, hz0, hz1, hz2⟩ := info_parts info32
  obtain ⟨hn, hnc, hnb, hf, lf⟩ := A
  have hlf := Lib.hid lf; have hsf := Lib.hid hf
  clear hf lf
  go_enter Tryz.func57, Tryz.ntmps57
  go_wp2_with fail
  go_loopw [5, 6, 7] (fun v c i wr => ∃ (j : Nat) (F : Nat → Nat) (cn : Nat), j ≤ n + 1 ∧ i = .int .i64 j ∧ c = .int .u64 cn ∧ cn ≤ 1 ∧ wr.ownsRow w.heap.size 35 1 v j (limbCells F j) ∧ Lim F j ∧
      val F j + cn * pw j = 2 * val (at0 f n) j + b ∧ Below w.heap.size w wr) (fun _ _ i _ => n + 1 - (intOf i).toNat)
  case atStart => exact ⟨0, fun _ => 0, b, Nat.zero_le _, rfl, rfl, hb, World.ownsRow_nil _ _ _ _, fun j h => by omega, by simp [val, pw], Below.refl _ _⟩
  case round =>
    obtain ⟨j, F, cn, hj, rfl, rfl, hc, hown0, hlim0, hval0, hbel0⟩ := hrel
    have hown := Lib.hid hown0; have hlim := Lib.hid hlim0; have hval := Lib.hid hval0; have hbel := Lib.hid hbel0
    clear hown0 hlim0 hval0 hbel0
    have bf := at0_lt hlf.out j
    by_cases hlt : j < n + 1
    · go_wp2_with fail
      refine (refLimb_any ao n nc j f wr (by omega) (hsf.out.below hbel.out) hlf.out).mono ?_
      rw [Int.toNat_natCast]
      rintro e w' ⟨rfl, rfl⟩
      go_wp2_with (at_builtin; refine wpList_append_limb rfl (.tmp 23) (.tmp 27) 22 rfl w.heap.size 35 i32 Tryz.underlying22 hi hz0 hz1 hz2 _ j F _ _ ((2 * at0 f n j + cn) % 4294967296) rfl rfl hown.out (by omega) (by omega) hbel.out.size ?_)
      intro v' w1 hown1 hb1
      have hown' := Lib.hid hown1; have hbel' := Lib.hid (hbel.out.trans hb1)
      clear hown1 hb1
      go_wp2_with fail
      go_roundw
      case rel =>
        refine ⟨j + 1, put F j ((2 * at0 f n j + cn) % 4294967296), (2 * at0 f n j + cn) / 4294967296, by omega, by go_num, int_eq (by omega), by omega, hown'.out, ?_, ?_, hbel'.out⟩
        · exact put_snoc_lim hlim.out (Nat.mod_lt _ (by decide))
        · rw [val_put_succ, val_succ, pw_succ]
          exact twice_step hval.out (by omega)
      case measure => simp [intOf]; omega
    · obtain rfl : j = n + 1 := by omega
      obtain ⟨ao', cap', rfl, g1, g2, g3⟩ := owns_slice hown.out
      have A' := Lib.hid (show Arg wr ao' (n + 1) cap' F from ⟨g1, g2, by omega, g3, hlim.out⟩)
      have hown' := Lib.hid hown.out
      clear g3
      go_wp2_with fail
      refine (refNorm_any ao' (n + 1) cap' F wr A'.out).mono ?_
      rintro e w2 ⟨bo', p, pc, h, rfl, hp, hpc, hsp, hcp, hb⟩
      have hsp' := Lib.hid hsp; have hcp' := Lib.hid hcp; have hbel' := Lib.hid (hbel.out.trans (hb.mono hbel.out.size))
      clear hsp hcp hb
      go_wp2_with fail
      go_ret
      refine ⟨bo', p, pc, h, rfl, hp, hpc, hsp'.out, ?_, hbel'.out⟩
      have e1 := hval.out
      rw [val_at0_ge (Nat.le_succ n)] at e1
      rw [← twice_end e1 (val_lt hlf.out) (by omega)]
      exact hcp'.out

set_option maxHeartbeats 1000000 in
theorem bit_any (ao : Option Addr) (n nc : Nat) (i : Int) (f : Nat → Nat) (w : World) (i0 : 0 ≤ i) (i1 : i ≤ 1000000000) (hf : Sl w ao n f) (lf : Lim f n) :
    Calls Tryz.prog 58 #[.slice ao n nc, .int .i64 i] w fun e w' => e = .returned (.int .u32 (bitAt f n i.toNat)) ∧ w = w' := by
  obtain ⟨i, rfl⟩ := Int.eq_ofNat_of_zero_le i0
  rw [Int.toNat_natCast]
  have hb := at0_lt lf (i / 32)
  obtain ⟨x, hx⟩ : ∃ x, x = at0 f n (i / 32) := ⟨_, rfl⟩
  have hx' := Lib.hid hx
  rw [← hx] at hb
  have hsf := Lib.hid hf; have hlf := Lib.hid lf
  clear hf lf hx
  go_enter Tryz.func58, Tryz.ntmps58
  go_wp2_with fail
  refine (refLimb_any ao n nc _ f w (by omega) hsf.out hlf.out).mono ?_
  rw [show ((i : Int) / 32).toNat = i / 32 by omega, ← hx'.out]
  rintro e w' ⟨rfl, rfl⟩
  go_wp2_with fail
  go_loop [5, 6] (fun v k => ∃ t y : Nat, t ≤ i % 32 ∧ k = .int .i64 t ∧ v = .int .u64 y ∧ y < 4294967296 ∧ y = x / 2 ^ t) (fun _ k => i % 32 - (intOf k).toNat)
  case atStart => exact ⟨0, x, Nat.zero_le _, rfl, rfl, hb, by simp⟩
  case round =>
    obtain ⟨t, y, ht, rfl, rfl, hd, hy0⟩ := hrel
    have hy := Lib.hid hy0
    clear hy0
    by_cases hlt : t < i % 32
    · go_wp2_with fail
      go_round
      case rel => exact ⟨t + 1, y / 2, by omega, by go_num, int_eq (by omega), by omega, by rw [hy.out, Nat.pow_succ, Nat.div_div_eq_div_mul]⟩
      case measure => simp [intOf]; omega
    · obtain rfl : t = i % 32 := by omega
      go_wp2_with fail
      go_ret
      refine ⟨ret_num ?_, rfl⟩
      unfold bitAt
      rw [← hx'.out, ← hy.out]
      omega

end Go.Proofs.YtokdaagjkhkinaaGreatDoor

namespace Go.Proofs.YtokdaagjkhkinaaGreatDoor
open Go.RowKit Num

theorem drawn_b {w w' : World} (h : ∃ q, w' = w.drewN q) : Below w.heap.size w w' := by
  obtain ⟨q, rfl⟩ := h
  exact below_drewN (Below.refl _ _) q

theorem small' {v k K : Nat} (h : v < pw k) (hk : k ≤ K) : v < pw K := Nat.lt_of_lt_of_le h (pw_le hk)

/-- A number in new memory, short enough to go on with. -/
theorem Num.Canon.few {w : World} {ao : Option Addr} {n nc v k : Nat} {f : Nat → Nat} (h : Canon v n f) (hs : Sl w ao n f) (hn : n ≤ nc) (hc : nc ≤ 9223372036854775807) (hv : v < pw k) (hk : k ≤ 1000000) : Arg w ao n nc f ∧ n ≤ k :=
  ⟨⟨hn, hc, Nat.le_trans (h.len_le hv) hk, hs, h.lim⟩, h.len_le hv⟩

theorem half_lt {X j n : Nat} (h : X < pw n) : X / 2 ^ j < pw n := Nat.lt_of_le_of_lt (Nat.div_le_self _ _) h

set_option maxHeartbeats 2000000 in
theorem refMul_any (ao bo : Option Addr) (n nc m mc : Nat) (f g : Nat → Nat) (w : World) (A : Arg w ao n nc f) (B : Arg w bo m mc g) (hn40 : n ≤ 1000) (hm40 : m ≤ 1000) :
    Calls Tryz.prog 31 #[.slice ao n nc, .slice bo m mc] w (NumPost (val f n * val g m) w) := by
  have hA := Lib.hid A; have hB := Lib.hid B
  have hX := Lib.hid (val_lt A.lim); have hY := Lib.hid (val_lt B.lim)
  obtain ⟨X, hX0⟩ : ∃ X, X = val f n := ⟨_, rfl⟩
  obtain ⟨Y, hY0⟩ : ∃ Y, Y = val g m := ⟨_, rfl⟩
  rw [← hX0, ← hY0]
  rw [← hX0] at hX
  rw [← hY0] at hY
  have hX' := Lib.hid hX0; have hY' := Lib.hid hY0
  clear A B hX0 hY0
  go_enter Tryz.func31, Tryz.ntmps31
  go_wp2_with fail
  go_loopw [5, 6] (fun v i wr => ∃ (j : Nat) (co : Option Addr) (k kc : Nat) (F : Nat → Nat), j ≤ 32 * n ∧ i = .int .i64 ((j : Int) - 1) ∧ v = .slice co k kc ∧ k ≤ kc ∧ kc ≤ 9223372036854775807 ∧ Sl wr co k F ∧ Canon (X / 2 ^ j * Y) k F ∧ Below w.heap.size w wr)
    (fun _ i _ => (intOf i + 1).toNat)
  case atStart =>
    refine ⟨32 * n, none, 0, 0, fun _ => 0, Nat.le_refl _, int_eq (by omega), rfl, Nat.le_refl _, by omega, .inl rfl, ?_, Below.refl _ _⟩
    rw [hX'.out, val_none hA.out.lim, Nat.zero_mul]
    exact canon_zero _
  case round =>
    obtain ⟨j, co, k, kc, F, hj, rfl, rfl, hk, hkc, hsl0, hcan0, hbel0⟩ := hrel
    have hsl := Lib.hid hsl0; have hcan := Lib.hid hcan0; have hbel := Lib.hid hbel0
    clear hsl0 hcan0 hbel0
    by_cases h0 : j = 0
    · subst h0
      go_wp2_with fail
      go_ret
      refine ⟨co, k, kc, F, rfl, hk, hkc, hsl.out, ?_, hbel.out⟩
      have e := hcan.out
      rw [Nat.pow_zero, Nat.div_one] at e
      exact e
    · obtain ⟨s, rfl⟩ : ∃ s, j = s + 1 := ⟨j - 1, by omega⟩
      have hXY : X / 2 ^ (s + 1) * Y < pw 2000 := by
        have a := half_lt (j := s + 1) hX.out
        have b := hY.out
        have c : X / 2 ^ (s + 1) * Y ≤ X / 2 ^ (s + 1) * pw m := Nat.mul_le_mul_left _ (by omega)
        have d : X / 2 ^ (s + 1) * pw m < pw n * pw m := (Nat.mul_lt_mul_right (pw_pos m)).2 a
        rw [← pw_add] at d
        have e : pw (n + m) ≤ pw 2000 := pw_le (by omega)
        omega
      obtain ⟨hC, hk2⟩ := hcan.out.few hsl.out hk hkc hXY (by omega)
      have hC' := Lib.hid hC
      clear hC hXY
      go_wp2_with fail
      refine (twice_any co k kc 0 F wr hC'.out (by omega) (by omega)).mono ?_
      rw [hcan.out.val]
      rintro e w1 ⟨eo, p, pc, G, rfl, hp, hpc, hsp, hcp, hb⟩
      have hsp' := Lib.hid hsp; have hcp' := Lib.hid hcp; have hb' := Lib.hid (hbel.out.trans (hb.mono hbel.out.size))
      clear hsp hcp hb
      go_wp2_with fail
      refine (bit_any ao n nc _ f w1 (by omega) (by omega) (hA.out.below hb'.out).sl hA.out.lim).mono ?_
      rw [show (s : Int).toNat = s from Int.toNat_natCast s]
      rintro e w' ⟨rfl, rfl⟩
      have htop := val_top hA.out.lim s
      rw [← hX'.out] at htop
      have hbl := bitAt_le f n s
      by_cases hbit : bitAt f n s = 1
      · rw [hbit] at htop ⊢
        have htop' := Lib.hid htop
        clear htop hbl hbit
        have hW : 2 * (X / 2 ^ (s + 1) * Y) + 0 < pw 2001 := by
          have e : pw 2001 = 4294967296 * pw 2000 := pw_succ 2000
          have hXY : X / 2 ^ (s + 1) * Y < pw 2000 := by
            have a := half_lt (j := s + 1) hX.out
            have b := hY.out
            have c : X / 2 ^ (s + 1) * Y ≤ X / 2 ^ (s + 1) * pw m := Nat.mul_le_mul_left _ (by omega)
            have d : X / 2 ^ (s + 1) * pw m < pw n * pw m := (Nat.mul_lt_mul_right (pw_pos m)).2 a
            rw [← pw_add] at d
            have e : pw (n + m) ≤ pw 2000 := pw_le (by omega)
            omega
          omega
        obtain ⟨hD, hp2⟩ := hcp'.out.few hsp'.out hp hpc hW (by omega)
        have hD' := Lib.hid hD
        clear hD hW
        go_wp2_with fail
        refine (refAdd_any eo bo p pc m mc G g w1 hD'.out (hB.out.below hb'.out) (by omega)).mono ?_
        rw [hcp'.out.val, ← hY'.out]
        rintro e w2 ⟨eo2, p2, pc2, G2, rfl, hp2, hpc2, hsp2, hcp2, hb2⟩
        have hsp2' := Lib.hid hsp2; have hcp2' := Lib.hid hcp2; have hb2' := Lib.hid (hb'.out.trans (hb2.mono hb'.out.size))
        clear hsp2 hcp2 hb2
        go_wp2_with fail
        go_roundw
        case rel =>
          refine ⟨s, eo2, p2, pc2, G2, by omega, int_eq (by omega), rfl, hp2, hpc2, hsp2'.out, ?_, hb2'.out⟩
          rw [htop'.out, Nat.add_mul, Nat.one_mul, Nat.mul_assoc]
          exact hcp2'.out
        case measure => simp [intOf]
      · have hbit0 : bitAt f n s = 0 := by omega
        rw [hbit0] at htop ⊢
        have htop' := Lib.hid htop
        clear htop hbl hbit hbit0
        go_wp2_with fail
        go_roundw
        case rel =>
          refine ⟨s, eo, p, pc, G, by omega, int_eq (by omega), rfl, hp, hpc, hsp'.out, ?_, hb'.out⟩
          rw [htop'.out, Nat.add_zero, Nat.mul_assoc]
          exact hcp'.out
        case measure => simp [intOf]

set_option maxHeartbeats 2000000 in
theorem refDivMod_any (ao bo : Option Addr) (n nc m mc : Nat) (f g : Nat → Nat) (w : World) (A : Arg w ao n nc f) (B : Arg w bo m mc g) (hn40 : n ≤ 1000) (hm40 : m ≤ 1000) :
    Calls Tryz.prog 36 #[.slice ao n nc, .slice bo m mc] w (DivPost (val f n) (val g m) w) := by
  have hA := Lib.hid A; have hB := Lib.hid B
  have hX := Lib.hid (val_lt A.lim); have hY := Lib.hid (val_lt B.lim)
  obtain ⟨X, hX0⟩ : ∃ X, X = val f n := ⟨_, rfl⟩
  obtain ⟨Y, hY0⟩ : ∃ Y, Y = val g m := ⟨_, rfl⟩
  rw [← hX0, ← hY0]
  rw [← hX0] at hX
  rw [← hY0] at hY
  have hX' := Lib.hid hX0; have hY' := Lib.hid hY0
  clear A B hX0 hY0
  go_enter Tryz.func36, Tryz.ntmps36
  go_wp2_with fail
  refine (refNorm_any bo m mc g w hB.out).mono ?_
  rw [← hY'.out]
  rintro e w1 ⟨no, q, qc, h, rfl, hq, hqc, hsh, hch, hb⟩
  have hbel1 := Lib.hid hb; have hne := Lib.hid hch.ne_zero
  clear hsh hch hb
  by_cases hq0 : q = 0
  · have hYz := Lib.hid (hne.out.1 hq0)
    clear hne
    subst hq0
    go_wp2_with fail
    go_ret3
    exact ⟨hbel1.out, .inl ⟨hYz.out, rfl⟩⟩
  have hY0 : 0 < Y := Nat.pos_of_ne_zero (fun e => hq0 (hne.out.2 e))
  have hqb : ((q : Int) == 0) = false := by simp [hq0]
  go_wp2_with fail
  clear hqb hq0
  go_loopw [7, 8, 9] (fun v r i wr => ∃ (j : Nat) (co : Option Addr) (k kc : Nat) (F : Nat → Nat) (eo : Option Addr) (l lc : Nat) (G : Nat → Nat), j ≤ 32 * n ∧ i = .int .i64 ((j : Int) - 1) ∧ v = .slice co k kc ∧ r = .slice eo l lc ∧ k ≤ kc ∧ kc ≤ 9223372036854775807 ∧ l ≤ lc ∧ lc ≤ 9223372036854775807 ∧
      Sl wr co k F ∧ Canon (X / 2 ^ j / Y) k F ∧ Sl wr eo l G ∧ Canon (X / 2 ^ j % Y) l G ∧ Below w.heap.size w wr)
    (fun _ _ i _ => (intOf i + 1).toNat)
  case atStart =>
    refine ⟨32 * n, none, 0, 0, fun _ => 0, none, 0, 0, fun _ => 0, Nat.le_refl _, int_eq (by omega), rfl, rfl, Nat.le_refl _, by omega, Nat.le_refl _, by omega, .inl rfl, ?_, .inl rfl, ?_, hbel1.out⟩
    · rw [hX'.out, val_none hA.out.lim, Nat.zero_div]
      exact canon_zero _
    · rw [hX'.out, val_none hA.out.lim, Nat.zero_mod]
      exact canon_zero _
  case round =>
    obtain ⟨j, co, k, kc, F, eo, l, lc, G, hj, rfl, rfl, rfl, hk, hkc, hl, hlc, hsF0, hcF0, hsG0, hcG0, hbel0⟩ := hrel
    have hsF := Lib.hid hsF0; have hcF := Lib.hid hcF0; have hsG := Lib.hid hsG0; have hcG := Lib.hid hcG0; have hbel := Lib.hid hbel0
    clear hsF0 hcF0 hsG0 hcG0 hbel0
    by_cases h0 : j = 0
    · subst h0
      go_wp2_with fail
      go_ret3
      refine ⟨hbel.out, .inr ⟨Nat.pos_iff_ne_zero.1 hY0, co, k, kc, F, eo, l, lc, G, rfl, hk, hkc, hl, hlc, hsF.out, ?_, hsG.out, ?_⟩⟩
      · have e := hcF.out
        rw [Nat.pow_zero, Nat.div_one] at e
        exact e
      · have e := hcG.out
        rw [Nat.pow_zero, Nat.div_one] at e
        exact e
    · obtain ⟨s, rfl⟩ : ∃ s, j = s + 1 := ⟨j - 1, by omega⟩
      have bq := Nat.lt_of_le_of_lt (Nat.div_le_self (X / 2 ^ (s + 1)) Y) (half_lt (j := s + 1) hX.out)
      have br := Nat.lt_of_lt_of_le (Nat.mod_lt (X / 2 ^ (s + 1)) hY0) (Nat.le_of_lt hY.out)
      obtain ⟨hQ, hkn⟩ := hcF.out.few hsF.out hk hkc bq (by omega)
      obtain ⟨hR, hlm⟩ := hcG.out.few hsG.out hl hlc br (by omega)
      have hQ' := Lib.hid hQ; have hR' := Lib.hid hR; have br' := Lib.hid br
      clear hQ hR bq br h0
      go_wp2_with fail
      refine (bit_any ao n nc _ f wr (by omega) (by omega) (hA.out.below hbel.out).sl hA.out.lim).mono ?_
      rw [show (s : Int).toNat = s from Int.toNat_natCast s]
      rintro e w' ⟨rfl, rfl⟩
      have htop := val_top hA.out.lim s
      rw [← hX'.out] at htop
      have hbl := bitAt_le f n s
      obtain ⟨b, hbb⟩ : ∃ b, b = bitAt f n s := ⟨_, rfl⟩
      rw [← hbb] at htop hbl ⊢
      have htop' := Lib.hid htop
      clear htop hbb
      obtain ⟨dv1, dv2⟩ := div_bit (Z := X / 2 ^ (s + 1)) hY0 hbl
      have dv1' := Lib.hid dv1; have dv2' := Lib.hid dv2
      clear dv1 dv2
      go_wp2_with fail
      refine (twice_any eo l lc b G wr hR'.out (by omega) hbl).mono ?_
      rw [hcG.out.val]
      rintro e w2 ⟨xo, p, pc, H, rfl, hp, hpc, hsp, hcp, hb⟩
      have hT : 2 * (X / 2 ^ (s + 1) % Y) + b < pw (m + 1) := by
        have e1 : pw (m + 1) = 4294967296 * pw m := pw_succ m
        have := br'.out
        omega
      obtain ⟨hD, hp2⟩ := hcp.few hsp hp hpc hT (by omega)
      have hD' := Lib.hid hD; have hsp' := Lib.hid hsp; have hcp' := Lib.hid hcp; have hb' := Lib.hid (hbel.out.trans (hb.mono hbel.out.size)); have hQ2 := Lib.hid (hQ'.out.below hb)
      clear hsp hcp hb hD hT
      go_wp2_with fail
      refine (refSub_any xo bo p pc m mc H g w2 hD'.out (hB.out.below hb'.out)).mono ?_
      rw [hcp'.out.val, ← hY'.out]
      rintro e w3 ⟨hb3, h3⟩
      have hb3' := Lib.hid (hb'.out.trans (hb3.mono hb'.out.size)); have hQ3 := Lib.hid (hQ2.out.below hb3); have hsp3 := Lib.hid (hsp'.out.below hb3)
      clear hb3
      rcases h3 with ⟨hlt, rfl⟩ | ⟨hge, yo, y, yc, I, rfl, hy, hyc, hsI, hcI⟩
      · have d := dv2'.out hlt
        have d' := Lib.hid d
        clear d hlt
        go_wp2_with fail
        refine (twice_any co k kc 0 F w3 hQ3.out (by omega) (by omega)).mono ?_
        rw [hcF.out.val]
        rintro e w4 ⟨zo, z, zc, J, rfl, hz, hzc, hsz, hcz, hb4⟩
        have hsz' := Lib.hid hsz; have hcz' := Lib.hid hcz; have hb4' := Lib.hid (hb3'.out.trans (hb4.mono hb3'.out.size)); have hsp4 := Lib.hid (hsp3.out.below hb4)
        clear hsz hcz hb4
        go_wp2_with fail
        go_roundw
        case rel =>
          refine ⟨s, zo, z, zc, J, xo, p, pc, H, by omega, int_eq (by omega), rfl, rfl, hz, hzc, hp, hpc, hsz'.out, ?_, hsp4.out, ?_, hb4'.out⟩
          · rw [htop'.out, d'.out.1]; exact hcz'.out
          · rw [htop'.out, d'.out.2]; exact hcp'.out
        case measure => simp [intOf]
      · have d := dv1'.out hge
        have d' := Lib.hid d; have hsI' := Lib.hid hsI; have hcI' := Lib.hid hcI
        clear d hge hsI hcI
        go_wp2_with fail
        refine (twice_any co k kc 1 F w3 hQ3.out (by omega) (by omega)).mono ?_
        rw [hcF.out.val]
        rintro e w4 ⟨zo, z, zc, J, rfl, hz, hzc, hsz, hcz, hb4⟩
        have hsz' := Lib.hid hsz; have hcz' := Lib.hid hcz; have hb4' := Lib.hid (hb3'.out.trans (hb4.mono hb3'.out.size)); have hsI4 := Lib.hid (hsI'.out.below hb4)
        clear hsz hcz hb4
        go_wp2_with fail
        go_roundw
        case rel =>
          refine ⟨s, zo, z, zc, J, yo, y, yc, I, by omega, int_eq (by omega), rfl, rfl, hz, hzc, hy, hyc, hsz'.out, ?_, hsI4.out, ?_, hb4'.out⟩
          · rw [htop'.out, d'.out.1]; exact hcz'.out
          · rw [htop'.out, d'.out.2]; exact hcI'.out
        case measure => simp [intOf]

set_option maxRecDepth 100000 in
set_option maxHeartbeats 2000000 in
theorem refGcd_any (ao bo : Option Addr) (n nc m mc : Nat) (f g : Nat → Nat) (w : World) (A : Arg w ao n nc f) (B : Arg w bo m mc g) (hn40 : n ≤ 40) (hm40 : m ≤ 40) :
    Calls Tryz.prog 35 #[.slice ao n nc, .slice bo m mc] w (NumPost (Nat.gcd (val f n) (val g m)) w) := by
  have hA := Lib.hid A; have hB := Lib.hid B
  have hX := Lib.hid (small' (val_lt A.lim) hn40); have hY := Lib.hid (small' (val_lt B.lim) hm40)
  obtain ⟨X, hX0⟩ : ∃ X, X = val f n := ⟨_, rfl⟩
  obtain ⟨Y, hY0⟩ : ∃ Y, Y = val g m := ⟨_, rfl⟩
  obtain ⟨D, hD0⟩ : ∃ D, D = Nat.gcd X Y := ⟨_, rfl⟩
  rw [← hX0, ← hY0, ← hD0]
  rw [← hX0] at hX
  rw [← hY0] at hY
  obtain ⟨P, hP0⟩ : ∃ P, P = pw 40 := ⟨_, rfl⟩
  obtain ⟨K, hK0⟩ : ∃ K, K = 4000 := ⟨_, rfl⟩
  have hK : 3999 < K := by omega
  have hKl : K < 4001 := by omega
  clear hK0
  obtain ⟨M, hM0⟩ : ∃ M, M = 3000 := ⟨_, rfl⟩
  obtain ⟨T, hT0⟩ : ∃ T, T = 2 ^ M := ⟨_, rfl⟩
  have hT := Lib.hid hT0
  have hM : M ≤ 3000 := by omega
  have hM' : 3000 ≤ M := by omega
  clear hT0 hM0
  rw [← hP0] at hX hY
  have hX' := Lib.hid hX0; have hY' := Lib.hid hY0; have hD' := Lib.hid hD0; have hP' := Lib.hid hP0
  clear A B hX0 hY0 hD0 hP0
  go_enter Tryz.func35, Tryz.ntmps35
  go_wp2_with fail
  refine (refNorm_any ao n nc f w hA.out).mono ?_
  rw [← hX'.out]
  rintro e w1 ⟨co, q, qc, h, rfl, hq, hqc, hsh, hch, hb⟩
  have hsh' := Lib.hid hsh; have hch' := Lib.hid hch; have hbel := Lib.hid hb
  clear hsh hch hb
  go_wp2_with fail
  refine (refNorm_any bo m mc g w1 (hB.out.below hbel.out)).mono ?_
  rw [← hY'.out]
  rintro e w2 ⟨do_, r, rc, i, rfl, hr, hrc, hsi, hci, hb⟩
  have hsi' := Lib.hid hsi; have hci' := Lib.hid hci; have hbel2 := Lib.hid (hbel.out.trans (hb.mono hbel.out.size)); have hsh2 := Lib.hid (hsh'.out.below hb)
  clear hsi hci hb hsh'
  go_wp2_with fail
  go_loopw [5, 6, 7] (fun a b c wr => ∃ (k x y : Nat) (ao : Option Addr) (n nc : Nat) (f : Nat → Nat) (bo : Option Addr) (m mc : Nat) (g : Nat → Nat), c = .int .i64 k ∧ a = .slice ao n nc ∧ b = .slice bo m mc ∧ n ≤ nc ∧ nc ≤ 9223372036854775807 ∧ m ≤ mc ∧ mc ≤ 9223372036854775807 ∧ k ≤ K ∧
      Sl wr ao n f ∧ Canon x n f ∧ Sl wr bo m g ∧ Canon y m g ∧ x < P ∧ y < P ∧ D = Nat.gcd x y ∧ (k = 0 ∨ (y < x ∧ x * y * 2 ^ k ≤ T)) ∧ Below w.heap.size w wr) (fun _ _ c _ => K - (intOf c).toNat)
  case atStart =>
    exact ⟨0, X, Y, co, q, qc, h, do_, r, rc, i, rfl, rfl, rfl, hq, hqc, hr, hrc, by omega, hsh2.out, hch'.out, hsi'.out, hci'.out, hX.out, hY.out, hD'.out, .inl rfl, hbel2.out⟩
  case round =>
    obtain ⟨k, x, y, ao, n, nc, f, bo, m, mc, g, rfl, rfl, rfl, hn, hnc, hm, hmc, hk, hsf0, hcf0, hsg0, hcg0, hx0, hy0, hg0, hst0, hbel0⟩ := hrel
    have hsf := Lib.hid hsf0; have hcf := Lib.hid hcf0; have hsg := Lib.hid hsg0; have hcg := Lib.hid hcg0; have hx := Lib.hid hx0; have hy := Lib.hid hy0; have hg := Lib.hid hg0; have hst := Lib.hid hst0; have hbel := Lib.hid hbel0
    clear hsf0 hcf0 hsg0 hcg0 hx0 hy0 hg0 hst0 hbel0
    have hkk0 : k ≤ 4000 := by omega
    have hkt : decide ((k : Int) < 100000) = true := by rw [decide_eq_true_iff]; omega
    by_cases hm0 : m = 0
    · subst hm0
      focus
        go_wp2_with fail
        go_ret
        refine ⟨ao, n, nc, f, rfl, hn, hnc, hsf.out, ?_, hbel.out⟩
        have e : y = 0 := hcg.out.ne_zero.1 rfl
        have e2 := hg.out
        rw [e, Nat.gcd_zero_right] at e2
        rw [e2]; exact hcf.out
    · have hy1 : 0 < y := Nat.pos_of_ne_zero (fun e => hm0 (hcg.out.ne_zero.2 e))
      have hkk : k ≤ 3000 := by
        rcases hst.out with h | ⟨h1, h2⟩
        · omega
        · rw [hT.out] at h2
          exact Nat.le_trans (gcd_few h1 hy1 h2) hM
      have hst2 : Hid (x % y < y ∧ y * (x % y) * 2 ^ (k + 1) ≤ T) := by
        rcases hst.out with h | ⟨h1, h2⟩
        · refine ⟨Nat.mod_lt _ hy1, ?_⟩
          rw [h, hT.out]
          have py : y ≤ pw 40 := by rw [← hP'.out]; exact Nat.le_of_lt hy.out
          exact gcd_start py (Nat.le_trans (Nat.le_of_lt (Nat.mod_lt _ hy1)) py) (by omega)
        · exact gcd_step h1 hy1 h2
      obtain ⟨a1, a2⟩ := hcf.out.few hsf.out hn hnc (by rw [← hP'.out]; exact hx.out) (by omega)
      obtain ⟨b1, b2⟩ := hcg.out.few hsg.out hm hmc (by rw [← hP'.out]; exact hy.out) (by omega)
      have a1' := Lib.hid a1; have b1' := Lib.hid b1
      have hm1 : 0 < m := by omega
      have n40 := Lib.hid a2; have m40 := Lib.hid b2; have k30 := Lib.hid hkk; have k40 := Lib.hid hkk0
      clear a1 b1 a2 b2 hk hM hM'
      go_wp2_with fail
      refine (refDivMod_any ao bo n nc m mc f g wr a1'.out b1'.out (Nat.le_trans n40.out (by decide)) (Nat.le_trans m40.out (by decide))).mono ?_
      rw [hcf.out.val, hcg.out.val]
      rintro e w3 ⟨hb3, h3⟩
      rcases h3 with ⟨h3, _⟩ | ⟨_, ao3, n3, nc3, f3, bo3, m3, mc3, g3, rfl, _, _, hm3, hmc3, _, _, hsg3, hcg3⟩
      · exact absurd h3 (Nat.pos_iff_ne_zero.1 hy1)
      have hsg3' := Lib.hid hsg3; have hcg3' := Lib.hid hcg3; have hsg4 := Lib.hid (hsg.out.below hb3)
      have hbel3 := Lib.hid (hbel.out.trans (hb3.mono hbel.out.size))
      clear hb3 hsg3 hcg3
      go_wp2_with fail
      go_roundw
      case rel =>
        exact ⟨k + 1, y, x % y, bo, m, mc, g, bo3, m3, mc3, g3, by go_num, rfl, rfl, hm, hmc, hm3, hmc3, by have := k30.out; omega, hsg4.out, hcg.out, hsg3'.out, hcg3'.out, hy.out, Nat.lt_trans (Nat.mod_lt _ hy1) hy.out, by rw [hg.out, Nat.gcd_comm, Nat.gcd_rec, Nat.gcd_comm], .inr hst2.out, hbel3.out⟩
      case measure => simp [intOf]; have := k30.out; omega

end Go.Proofs.YtokdaagjkhkinaaGreatDoor

namespace Go.Proofs.YtokdaagjkhkinaaGreatDoor
open Go.RowKit Num

attribute [local go_sem ↓] Go.wp_at_zero Go.wp_at_succ

theorem Whole.alloc {w : World} {b : Bool} {ao : Option Addr} {n nc : Nat} {x : Int} (h : Whole w b ao n nc x) (o : Obj) : Whole (w.alloc o) b ao n nc x := h.below ((Below.refl _ w).alloc (Nat.le_refl _) o)

theorem Right.alloc {w : World} {b : Bool} {ao : Option Addr} {n nc : Nat} {x : Int} (h : Right w b ao n nc x) (o : Obj) : Right (w.alloc o) b ao n nc x := h.below ((Below.refl _ w).alloc (Nat.le_refl _) o)

theorem small2 {v k : Nat} (hk : k ≤ 1000000) (h : v < pw k) : v < pw 1000000 := Nat.lt_of_lt_of_le h (pw_le hk)

theorem sum_small {u v k : Nat} (hk : k + 1 ≤ 1000000) (hu : u < pw k) (hv : v < pw k) : u + v < pw 1000000 := by
  have e : pw (k + 1) = 4294967296 * pw k := rfl
  exact Nat.lt_of_lt_of_le (m := pw (k + 1)) (by omega) (pw_le hk)

theorem Whole.drew {w : World} {b : Bool} {ao : Option Addr} {n nc : Nat} {x : Int} (h : Whole w b ao n nc x) : Whole w.drew b ao n nc x := h.below (Below.refl _ w).drew

theorem made1' {W w' : World} {u0 u1 : Value} {t : TypeId} (hb : Below (W.alloc (.cells #[u0, u1] t)).drew.heap.size (W.alloc (.cells #[u0, u1] t)).drew w') : Box w' W.heap.size u0 u1 := (Box.new u0 u1 t rfl).drew.later hb

theorem made2' {W w' : World} {u0 u1 v0 v1 : Value} {t s : TypeId} (hb : Below ((W.alloc (.cells #[u0, u1] t)).alloc (.cells #[v0, v1] s)).drew.heap.size ((W.alloc (.cells #[u0, u1] t)).alloc (.cells #[v0, v1] s)).drew w') :
    Box w' W.heap.size u0 u1 ∧ Box w' (W.heap.size + 1) v0 v1 := ⟨((Box.new u0 u1 t rfl).alloc _).drew.later hb, (Box.new v0 v1 s (by simp)).drew.later hb⟩

theorem made3' {W w' : World} {u0 u1 v0 v1 x0 x1 : Value} {t s r : TypeId} (hb : Below (((W.alloc (.cells #[u0, u1] t)).alloc (.cells #[v0, v1] s)).alloc (.cells #[x0, x1] r)).drew.heap.size (((W.alloc (.cells #[u0, u1] t)).alloc (.cells #[v0, v1] s)).alloc (.cells #[x0, x1] r)).drew w') :
    Box w' W.heap.size u0 u1 ∧ Box w' (W.heap.size + 1) v0 v1 ∧ Box w' (W.heap.size + 2) x0 x1 := ⟨(((Box.new u0 u1 t rfl).alloc _).alloc _).drew.later hb, ((Box.new v0 v1 s (by simp)).alloc _).drew.later hb, (Box.new x0 x1 r (by simp)).drew.later hb⟩

theorem made1 {W w' : World} {u0 u1 : Value} {t : TypeId} (hb : Below (W.alloc (.cells #[u0, u1] t)).heap.size (W.alloc (.cells #[u0, u1] t)) w') : Box w' W.heap.size u0 u1 := (Box.new u0 u1 t rfl).later hb

theorem made2 {W w' : World} {u0 u1 v0 v1 : Value} {t s : TypeId} (hb : Below ((W.alloc (.cells #[u0, u1] t)).alloc (.cells #[v0, v1] s)).heap.size ((W.alloc (.cells #[u0, u1] t)).alloc (.cells #[v0, v1] s)) w') :
    Box w' W.heap.size u0 u1 ∧ Box w' (W.heap.size + 1) v0 v1 := ⟨((Box.new u0 u1 t rfl).alloc _).later hb, (Box.new v0 v1 s (by simp)).later hb⟩

theorem made3 {W w' : World} {u0 u1 v0 v1 x0 x1 : Value} {t s r : TypeId} (hb : Below (((W.alloc (.cells #[u0, u1] t)).alloc (.cells #[v0, v1] s)).alloc (.cells #[x0, x1] r)).heap.size (((W.alloc (.cells #[u0, u1] t)).alloc (.cells #[v0, v1] s)).alloc (.cells #[x0, x1] r)) w') :
    Box w' W.heap.size u0 u1 ∧ Box w' (W.heap.size + 1) v0 v1 ∧ Box w' (W.heap.size + 2) x0 x1 := ⟨(((Box.new u0 u1 t rfl).alloc _).alloc _).later hb, ((Box.new v0 v1 s (by simp)).alloc _).later hb, (Box.new x0 x1 r (by simp)).later hb⟩

end Go.Proofs.YtokdaagjkhkinaaGreatDoor

namespace Go.Proofs.YtokdaagjkhkinaaGreatDoor
open Go.RowKit Num

end Go.Proofs.YtokdaagjkhkinaaGreatDoor

namespace Go.Proofs.YtokdaagjkhkinaaGreatDoor
open Go.RowKit Num

attribute [local go_sem ↓] Go.wp_at_zero Go.wp_at_succ

theorem cmp_sign {x y : Int} (h : x.sign ≠ y.sign) : cmpI x.sign y.sign = cmpI x y := by
  rcases Int.lt_trichotomy x 0 with hx | rfl | hx <;> rcases Int.lt_trichotomy y 0 with hy | rfl | hy <;>
    simp_all [Int.sign_eq_one_of_pos, Int.sign_eq_neg_one_of_neg, cmpI] <;> (repeat' split) <;> omega

theorem sgn_cases (b : Bool) (u : Nat) : ((u = 0 ∧ (sgn b u).sign = 0 ∧ sgn b u = 0) ∨ (0 < u ∧ (sgn b u).sign = 1 ∧ sgn b u = u)) ∨ (0 < u ∧ (sgn b u).sign = -1 ∧ sgn b u = -(u : Int)) := by
  by_cases h : u = 0
  · subst h; left; left; cases b <;> simp [sgn]
  · have h' : (0 : Int) < (u : Int) := by omega
    cases b
    · left; right; exact ⟨by omega, Int.sign_eq_one_of_pos h', rfl⟩
    · right; exact ⟨by omega, Int.sign_eq_neg_one_of_neg (by simp only [sgn_true]; omega), rfl⟩

theorem wrap_is (z : Int) : wrap64 z = IntKind.i64.wrap z := by
  simp [wrap64, IntKind.wrap, IntKind.bits, IntKind.signed]
  omega

theorem wrap_cmp (p q : Int) : IntKind.i64.wrap (1 * cmpI p q) = cmpI p q ∧ IntKind.i64.wrap (-1 * cmpI p q) = cmpI (-p) (-q) ∧ IntKind.i64.wrap (0 * cmpI p q) = 0 := by
  have w1 : IntKind.i64.wrap 1 = 1 := by decide
  have w2 : IntKind.i64.wrap (-1) = -1 := by decide
  have w3 : IntKind.i64.wrap 0 = 0 := by decide
  rcases Int.lt_trichotomy p q with h | h | h
  · rw [cmpI_lt h, cmpI_gt (show -q < -p by omega)]; exact ⟨w2, w1, w3⟩
  · rw [cmpI_eq h, cmpI_eq (show -p = -q by omega)]; exact ⟨w3, w3, w3⟩
  · rw [cmpI_gt h, cmpI_lt (show -p < -q by omega)]; exact ⟨w1, w2, w3⟩

theorem cmp_size {b c : Bool} {u v : Nat} (h : (sgn b u).sign = (sgn c v).sign) : IntKind.i64.wrap ((sgn b u).sign * cmpI u v) = cmpI (sgn b u) (sgn c v) := by
  obtain ⟨w1, w2, w3⟩ := wrap_cmp u v
  rcases sgn_cases b u with (⟨h1, h2, h3⟩ | ⟨h1, h2, h3⟩) | ⟨h1, h2, h3⟩ <;> rcases sgn_cases c v with (⟨k1, k2, k3⟩ | ⟨k1, k2, k3⟩) | ⟨k1, k2, k3⟩ <;> rw [h2, k2] at h <;> first | omega | skip
  · rw [h2, h3, k3, w3, cmpI_eq rfl]
  · rw [h2, h3, k3, w1]
  · rw [h2, h3, k3, w2]

/-- Quotient, rounded down, and rest; or zeros and false. -/
def IDivPost (x y : Int) (w : World) (e : Ending) (w' : World) : Prop :=
  Below w.heap.size w w' ∧ ((y = 0 ∧ e = .returned (.tuple #[.agg #[.bool false, .slice none 0 0], .agg #[.bool false, .slice none 0 0], .bool false])) ∨
    (y ≠ 0 ∧ ∃ b ao n nc c bo m mc, e = .returned (.tuple #[.agg #[.bool b, .slice ao n nc], .agg #[.bool c, .slice bo m mc], .bool true]) ∧ Right w' b ao n nc (x.fdiv y) ∧ Right w' c bo m mc (x.fmod y)))

theorem fdiv_is {x y q r : Int} (e : r + y * q = x) (h : (0 < y ∧ 0 ≤ r ∧ r < y) ∨ (y < 0 ∧ y < r ∧ r ≤ 0)) : x.fdiv y = q ∧ x.fmod y = r := by
  rcases h with ⟨h0, h1, h2⟩ | ⟨h0, h1, h2⟩
  · exact (Int.fdiv_fmod_unique h0).2 ⟨e, h1, h2⟩
  · exact (Int.fdiv_fmod_unique' h0).2 ⟨e, h1, h2⟩

theorem fdiv_same (b : Bool) {u v : Nat} (hv : v ≠ 0) : (sgn b u).fdiv (sgn b v) = sgn false (u / v) ∧ (sgn b u).fmod (sgn b v) = sgn b (u % v) := by
  have e : (v : Int) * ((u / v : Nat) : Int) + ((u % v : Nat) : Int) = u := by exact_mod_cast Nat.div_add_mod u v
  have l : u % v < v := Nat.mod_lt _ (by omega)
  cases b
  · exact fdiv_is (by simp only [sgn_false]; omega) (.inl ⟨by simp only [sgn_false]; omega, by simp only [sgn_false]; omega, by simp only [sgn_false]; omega⟩)
  · refine fdiv_is ?_ (.inr ⟨by simp only [sgn_true]; omega, by simp only [sgn_true]; omega, by simp only [sgn_true]; omega⟩)
    simp only [sgn_true, sgn_false, Int.neg_mul]; omega

theorem fdiv_even {b c : Bool} (h : b ≠ c) {u v : Nat} (hv : v ≠ 0) (hr : u % v = 0) : (sgn b u).fdiv (sgn c v) = sgn true (u / v) ∧ (sgn b u).fmod (sgn c v) = sgn c (u % v) := by
  have e : (v : Int) * ((u / v : Nat) : Int) + ((u % v : Nat) : Int) = u := by exact_mod_cast Nat.div_add_mod u v
  rw [hr] at e ⊢
  cases b <;> cases c <;> simp only [ne_eq, not_true, reduceCtorEq, not_false_iff] at h
  · refine fdiv_is ?_ (.inr ⟨by simp only [sgn_true]; omega, by simp only [sgn_true]; omega, by simp only [sgn_true]; omega⟩)
    simp only [sgn_true, sgn_false, Int.neg_mul, Int.mul_neg]; omega
  · refine fdiv_is ?_ (.inl ⟨by simp only [sgn_false]; omega, by simp only [sgn_false]; omega, by simp only [sgn_false]; omega⟩)
    simp only [sgn_true, sgn_false, Int.mul_neg]; omega

theorem fdiv_odd {b c : Bool} (h : b ≠ c) {u v : Nat} (hv : v ≠ 0) (hr : u % v ≠ 0) : (sgn b u).fdiv (sgn c v) = sgn true (u / v + 1) ∧ (sgn b u).fmod (sgn c v) = sgn c (v - u % v) := by
  have e : (v : Int) * ((u / v : Nat) : Int) + ((u % v : Nat) : Int) = u := by exact_mod_cast Nat.div_add_mod u v
  have l : u % v < v := Nat.mod_lt _ (by omega)
  have e2 : (v : Int) * ((u / v + 1 : Nat) : Int) = (v : Int) * ((u / v : Nat) : Int) + v := by rw [Int.natCast_add, Int.mul_add]; simp
  cases b <;> cases c <;> simp only [ne_eq, not_true, reduceCtorEq, not_false_iff] at h
  · refine fdiv_is ?_ (.inr ⟨by simp only [sgn_true]; omega, by simp only [sgn_true]; omega, by simp only [sgn_true]; omega⟩)
    simp only [sgn_true, sgn_false, Int.neg_mul, Int.mul_neg]; omega
  · refine fdiv_is ?_ (.inl ⟨by simp only [sgn_false]; omega, by simp only [sgn_false]; omega, by simp only [sgn_false]; omega⟩)
    simp only [sgn_true, sgn_false, Int.mul_neg]; omega

theorem small {v k : Nat} (hk : k ≤ 1000000) (h : v < pw k) : v < pw 1000000 := Nat.lt_of_lt_of_le h (pw_le hk)

theorem IDivPost.stored {w wk : World} {x y q r : Int} {b c : Bool} {ao bo : Option Addr} {n nc m mc B C : Nat} {b1 b2 : Bool} {p1 p2 : Option Addr} {k1 k2 l1 l2 : Nat} (hQ : Right wk b ao n nc q) (hR : Right wk c bo m mc r)
    (zB : Box wk B (.bool b1) (.slice p1 k1 l1)) (zC : Box wk C (.bool b2) (.slice p2 k2 l2)) (hne : B ≠ C) (hb : Below w.heap.size w wk) (hB : w.heap.size ≤ B) (hC : w.heap.size ≤ C) (hy : y ≠ 0) (e : x.fdiv y = q ∧ x.fmod y = r) :
    IDivPost x y w (.returned (.tuple #[.agg #[.bool b, .slice ao n nc], .agg #[.bool c, .slice bo m mc], .bool true])) ((((wk.setCell ⟨B, 0, none⟩ (.bool b)).setCell ⟨B, 1, none⟩ (.slice ao n nc)).setCell ⟨C, 0, none⟩ (.bool c)).setCell ⟨C, 1, none⟩ (.slice bo m mc)) := by
  rw [← e.1] at hQ; rw [← e.2] at hR
  exact ⟨below_set (below_set hb hB _ _) hC _ _, .inr ⟨hy, b, ao, n, nc, c, bo, m, mc, rfl, (hQ.box zB _ _).box (zC.other hne.symm _ _) _ _, (hR.box zB _ _).box (zC.other hne.symm _ _) _ _⟩⟩

theorem IDivPost.stored' {w wk : World} {x y q r : Int} {b c : Bool} {ao bo : Option Addr} {n nc m mc B C : Nat} {b1 b2 : Bool} {p1 p2 : Option Addr} {k1 k2 l1 l2 : Nat} (hQ : Right wk b ao n nc q) (hR : Right wk c bo m mc r)
    (zB : Box wk B (.bool b1) (.slice p1 k1 l1)) (zC : Box wk C (.bool b2) (.slice p2 k2 l2)) (hne : B ≠ C) (hb : Below w.heap.size w wk) (hB : w.heap.size ≤ B) (hC : w.heap.size ≤ C) (hy : y ≠ 0) (e : x.fdiv y = q ∧ x.fmod y = r) :
    IDivPost x y w (.returned (.tuple #[.agg #[.bool b, .slice ao n nc], .agg #[.bool c, .slice bo m mc], .bool true])) ((((wk.setCell ⟨C, 0, none⟩ (.bool c)).setCell ⟨C, 1, none⟩ (.slice bo m mc)).setCell ⟨B, 0, none⟩ (.bool b)).setCell ⟨B, 1, none⟩ (.slice ao n nc)) := by
  rw [← e.1] at hQ; rw [← e.2] at hR
  exact ⟨below_set (below_set hb hC _ _) hB _ _, .inr ⟨hy, b, ao, n, nc, c, bo, m, mc, rfl, (hQ.box zC _ _).box (zB.other hne _ _) _ _, (hR.box zC _ _).box (zB.other hne _ _) _ _⟩⟩

end Go.Proofs.YtokdaagjkhkinaaGreatDoor

namespace Go.Proofs.YtokdaagjkhkinaaGreatDoor
open Go.RowKit Num

attribute [local go_sem ↓] Go.wp_at_zero Go.wp_at_succ

set_option maxHeartbeats 1000000 in
theorem upper_any (ab : Bool) (ap aq : Option Addr) (an ac am ae : Nat) (w : World) :
    Calls Tryz.prog 44 #[.agg #[.bool ab, .slice ap an ac, .slice aq am ae]] w (Says (.agg #[.bool ab, .slice ap an ac]) w) := by
  go_enter Tryz.func44, Tryz.ntmps44
  go_wp2_with fail
  refine bodyPost_ret (v := .agg #[.bool ab, .slice ap an ac]) (by simp [results, Tryz.results44, go_sem]) rfl ?_
  exact ⟨rfl, ((Below.refl _ w).alloc (Nat.le_refl _) _).alloc (by simp) _⟩

set_option maxHeartbeats 1000000 in
theorem long_no (ao : Option Addr) (n nc : Nat) (w : World) (h : n ≤ 32) :
    Calls Tryz.prog 53 #[.slice ao n nc] w (Says (.bool false) w) := by
  have hd : decide ((32 : Int) < (n : Int)) = false := by rw [decide_eq_false_iff_not]; omega
  go_enter Tryz.func53, Tryz.ntmps53
  go_wp2_with fail
  go_ret
  exact ⟨rfl, Below.refl _ w⟩

set_option maxHeartbeats 1000000 in
theorem long_yes (ao : Option Addr) (n nc : Nat) (w : World) (h : 32 < n) :
    Calls Tryz.prog 53 #[.slice ao n nc] w (Says (.bool true) w) := by
  have hd : decide ((32 : Int) < (n : Int)) = true := by rw [decide_eq_true_iff]; omega
  go_enter Tryz.func53, Tryz.ntmps53
  go_wp2_with fail
  go_ret
  exact ⟨rfl, Below.refl _ w⟩

theorem make_bad {p q e : Int} {w w' : World} {E : Ending} (h : mkE p q = e) (he : e ≠ 0) (k : ResPost 0 0 e w E w') : MakePost p q w E w' := by
  subst h
  show ResPost (mkT p q) (mkB p q) (mkE p q) w E w'
  rw [(mk_bad he).1, (mk_bad he).2]
  exact k

theorem make_good {p q : Int} {w w' : World} {E : Ending} (h : mkE p q = 0) (k : ResPost (mkT p q) (mkB p q) 0 w E w') : MakePost p q w E w' := by
  show ResPost (mkT p q) (mkB p q) (mkE p q) w E w'
  rw [h]
  exact k

theorem whole_abs {w : World} {b : Bool} {ao : Option Addr} {n nc : Nat} {x : Int} (h : Whole w b ao n nc x) : ∃ f, Arg w ao n nc f ∧ val f n = x.natAbs := by
  obtain ⟨f, A, rfl⟩ := h.ex
  exact ⟨f, A, by rw [sgn_abs]⟩

theorem mkE_three {p q : Int} (h : q = 0) : mkE p q = 3 := mk_three.2 h

theorem mkE_seven {p q : Int} (h : q ≠ 0) (k : pw 32 ≤ p.natAbs / mkG p q ∨ pw 32 ≤ q.natAbs / mkG p q) : mkE p q = 7 := by
  unfold mkE
  rw [if_neg h, if_neg (by omega)]

theorem canon_long {v n : Nat} {f : Nat → Nat} (c : Canon v n f) (h : 32 < n) : pw 32 ≤ v := by
  apply Nat.le_of_not_lt
  intro hl
  have := c.len_le hl
  omega

theorem canon_short {v n : Nat} {f : Nat → Nat} (c : Canon v n f) (h : n ≤ 32) : v < pw 32 := Nat.lt_of_lt_of_le c.lt_pw (pw_le h)

theorem sign_small (p q : Int) : IntKind.i64.wrap (p.sign * q.sign) = p.sign * q.sign := by
  have e : (p * q).sign = p.sign * q.sign := Int.sign_mul ..
  rw [← e]
  rcases Int.lt_trichotomy (p * q) 0 with h | h | h
  · rw [Int.sign_eq_neg_one_of_neg h]; rfl
  · rw [h]; rfl
  · rw [Int.sign_eq_one_of_pos h]; rfl

set_option maxRecDepth 20000 in
set_option maxHeartbeats 4000000 in
theorem make_any (b c : Bool) (ao bo : Option Addr) (n nc m mc : Nat) (p q : Int) (w : World) (A : Whole w b ao n nc p) (B : Whole w c bo m mc q) :
    Calls Tryz.prog 24 #[.agg #[.bool b, .slice ao n nc], .agg #[.bool c, .slice bo m mc]] w (MakePost p q w) := by
  have A' := Lib.hid A; have B' := Lib.hid B
  clear A B
  go_enter Tryz.func24, Tryz.ntmps24
  go_wp2_with fail
  refine gen_calls (fun w' => Below w.heap.size w w' ∧ Box w' w.heap.size (.bool b) (.slice ao n nc) ∧ Box w' (w.heap.size + 1) (.bool c) (.slice bo m mc) ∧ Box3 w' (w.heap.size + 2) (.bool false) (.slice none 0 0) (.slice none 0 0))
    ⟨((((Below.refl _ _).alloc (Nat.le_refl _) _).alloc (by first | (simp; done) | (simp; omega)) _).alloc (by first | (simp; done) | (simp; omega)) _), (((Box.new _ _ _ rfl).alloc _).alloc _), ((Box.new _ _ _ (by first | (simp; done) | (simp; omega))).alloc _), (Box3.new _ _ _ _ (by first | (simp; done) | (simp; omega)))⟩ ?_
  rintro w0 ⟨hb0, x0, x1, x2⟩
  refine (wSign_any c bo m mc q _ (B'.out.below hb0)).mono ?_
  by_cases hq : q = 0
  · have hs : q.sign = 0 := by rw [hq]; rfl
    rw [hs]
    have hE := Lib.hid (mkE_three (p := p) hq)
    clear hs hq
    rintro e w1 ⟨rfl, hb⟩
    have x2 := x2.later hb
    have bb := Lib.hid (below_then hb0 (Nat.le_refl _) hb)
    have x2' := Lib.hid x2
    have q0 := x2.c0; have q1 := x2.c1; have q2 := x2.c2; have q3 := x2.fr 0; have q4 := x2.fr 1; have q5 := x2.fr 2
    have z := x2.set (.bool false) (.slice none 0 0) (.slice none 0 0)
    have e0 := z.c0; have e1 := z.c1; have e2 := z.c2
    clear x0 x1 x2 hb hb0 z A' B'
    go_wp2_with fail
    refine bodyPost_ret (v := .tuple #[.agg #[.bool false, .slice none 0 0, .slice none 0 0], .int .i64 3]) (by simp [results, Tryz.results24, go_sem, e0, e1, e2]) rfl ?_
    exact make_bad hE.out (by decide) (ResPost.stored (rt_zero _) x2'.out bb.out (by omega))
  have hs : ¬ q.sign = 0 := fun e => hq (Int.sign_eq_zero_iff_zero.1 e)
  have hq' := Lib.hid hq
  clear hq
  rintro e w1 ⟨rfl, hb⟩
  have x0 := x0.later hb; have x1 := x1.later hb; have x2 := Lib.hid (x2.later hb)
  have bb := Lib.hid (below_then hb0 (Nat.le_refl _) hb)
  have A1 := Lib.hid (A'.out.below bb.out); have B1 := Lib.hid (B'.out.below bb.out)
  have p0 := x0.c1; have p1 := x1.c1
  have x0' := Lib.hid x0; have x1' := Lib.hid x1
  clear hb hb0 A' B' x0 x1
  go_wp2_with fail
  clear p0 p1 hs
  obtain ⟨f, hF, hf⟩ := whole_abs A1.out
  obtain ⟨g, hG, hg⟩ := whole_abs B1.out
  have hF := Lib.hid hF; have hf := Lib.hid hf; have hG := Lib.hid hG; have hg := Lib.hid hg
  refine (gcd_any ao bo n nc m mc f g _ hF.out hG.out).mono ?_
  rw [hf.out, hg.out]
  rintro e w2 ⟨go, gn, gc, gf, rfl, g1, g2, g3, g4, hb⟩
  have g4 : Hid (Canon (mkG p q) gn gf) := Lib.hid g4
  have hfew : Hid (mkG p q < pw 1000000) := Lib.hid (Nat.lt_of_le_of_lt (Nat.le_of_dvd (by have := hq'.out; omega) (Nat.gcd_dvd_right _ _)) (by rw [← hg.out]; exact small2 hG.out.few (val_lt hG.out.lim)))
  have gA := Lib.hid (g4.out.arg g3 g1 g2 hfew.out)
  have bb := Lib.hid (below_then bb.out (Nat.le_refl _) hb)
  have x0 := x0'.out.later hb; have x1 := x1'.out.later hb; have x2 := Lib.hid (x2.out.later hb)
  have hF := Lib.hid (hF.out.below hb); have hG := Lib.hid (hG.out.below hb); have A1 := Lib.hid (A1.out.below hb); have B1 := Lib.hid (B1.out.below hb)
  have p0 := x0.c1
  have x0' := Lib.hid x0; have x1' := Lib.hid x1
  clear hb g3 hfew x0 x1
  go_wp2_with fail
  clear p0
  refine (divMod_any ao go n nc gn gc f gf _ hF.out gA.out).mono ?_
  rw [hf.out, g4.out.val]
  rintro e w3 ⟨hb, h⟩
  have hg0 : Hid (mkG p q ≠ 0) := Lib.hid (Nat.pos_iff_ne_zero.1 (mkG_pos hq'.out))
  rcases h with ⟨h, _⟩ | ⟨_, to_, tn, tc, tf, ro, rn, rc, rf, rfl, t1, t2, _, _, t3, t4, _, _⟩
  · exact absurd h hg0.out
  have t3 := Lib.hid t3; have t4 := Lib.hid t4
  have bb := Lib.hid (below_then bb.out (Nat.le_refl _) hb)
  have x0 := x0'.out.later hb; have x1 := x1'.out.later hb; have x2 := Lib.hid (x2.out.later hb)
  have hG := Lib.hid (hG.out.below hb); have A1 := Lib.hid (A1.out.below hb); have B1 := Lib.hid (B1.out.below hb); have gA := Lib.hid (gA.out.below hb)
  have p0 := x1.c1
  have x0' := Lib.hid x0; have x1' := Lib.hid x1
  clear hb x0 x1 hF
  go_wp2_with fail
  clear p0
  refine (divMod_any bo go m mc gn gc g gf _ hG.out gA.out).mono ?_
  rw [hg.out, g4.out.val]
  rintro e w4 ⟨hb, h⟩
  rcases h with ⟨h, _⟩ | ⟨_, uo, un, uc, uf, ro', rn', rc', rf', rfl, u1, u2, _, _, u3, u4, _, _⟩
  · exact absurd h hg0.out
  have u3 := Lib.hid u3; have u4 := Lib.hid u4; have t3 := Lib.hid (t3.out.below hb)
  have bb := Lib.hid (below_then bb.out (Nat.le_refl _) hb)
  have x0' := Lib.hid (x0'.out.later hb); have x1' := Lib.hid (x1'.out.later hb); have x2 := Lib.hid (x2.out.later hb)
  have A1 := Lib.hid (A1.out.below hb); have B1 := Lib.hid (B1.out.below hb)
  clear hb hG gA
  by_cases ht : 32 < tn
  · have hE := Lib.hid (mkE_seven hq'.out (.inl (canon_long t4.out ht)))
    go_wp2_with fail
    refine (long_yes to_ tn tc _ ht).mono ?_
    rintro e w5 ⟨rfl, hb⟩
    have bb := Lib.hid (below_then bb.out (Nat.le_refl _) hb)
    have x2 := x2.out.later hb
    have x2' := Lib.hid x2
    have q0 := x2.c0; have q1 := x2.c1; have q2 := x2.c2; have q3 := x2.fr 0; have q4 := x2.fr 1; have q5 := x2.fr 2
    have z := x2.set (.bool false) (.slice none 0 0) (.slice none 0 0)
    have e0 := z.c0; have e1 := z.c1; have e2 := z.c2
    clear x2 hb z ht
    go_wp2_with fail
    refine bodyPost_ret (v := .tuple #[.agg #[.bool false, .slice none 0 0, .slice none 0 0], .int .i64 7]) (by simp [results, Tryz.results24, go_sem, e0, e1, e2]) rfl ?_
    exact make_bad hE.out (by decide) (ResPost.stored (rt_zero _) x2'.out bb.out (by omega))
  have ht' := Lib.hid ht
  clear ht
  go_wp2_with fail
  refine (long_no to_ tn tc _ (Nat.le_of_not_lt ht'.out)).mono ?_
  rintro e w5 ⟨rfl, hb⟩
  have bb := Lib.hid (below_then bb.out (Nat.le_refl _) hb)
  have x0' := Lib.hid (x0'.out.later hb); have x1' := Lib.hid (x1'.out.later hb); have x2 := Lib.hid (x2.out.later hb)
  have A1 := Lib.hid (A1.out.below hb); have B1 := Lib.hid (B1.out.below hb); have t3 := Lib.hid (t3.out.below hb); have u3 := Lib.hid (u3.out.below hb)
  clear hb
  by_cases hu : 32 < un
  · have hE := Lib.hid (mkE_seven hq'.out (.inr (canon_long u4.out hu)))
    go_wp2_with fail
    refine (long_yes uo un uc _ hu).mono ?_
    rintro e w6 ⟨rfl, hb⟩
    have bb := Lib.hid (below_then bb.out (Nat.le_refl _) hb)
    have x2 := x2.out.later hb
    have x2' := Lib.hid x2
    have q0 := x2.c0; have q1 := x2.c1; have q2 := x2.c2; have q3 := x2.fr 0; have q4 := x2.fr 1; have q5 := x2.fr 2
    have z := x2.set (.bool false) (.slice none 0 0) (.slice none 0 0)
    have e0 := z.c0; have e1 := z.c1; have e2 := z.c2
    clear x2 hb z hu
    go_wp2_with fail
    refine bodyPost_ret (v := .tuple #[.agg #[.bool false, .slice none 0 0, .slice none 0 0], .int .i64 7]) (by simp [results, Tryz.results24, go_sem, e0, e1, e2]) rfl ?_
    exact make_bad hE.out (by decide) (ResPost.stored (rt_zero _) x2'.out bb.out (by omega))
  have hu' := Lib.hid hu
  clear hu
  go_wp2_with fail
  refine (long_no uo un uc _ (Nat.le_of_not_lt hu'.out)).mono ?_
  rintro e w6 ⟨rfl, hb⟩
  have bb := Lib.hid (below_then bb.out (Nat.le_refl _) hb)
  have x0' := Lib.hid (x0'.out.later hb); have x1' := Lib.hid (x1'.out.later hb); have x2 := Lib.hid (x2.out.later hb)
  have A1 := Lib.hid (A1.out.below hb); have B1 := Lib.hid (B1.out.below hb); have t3 := Lib.hid (t3.out.below hb); have u3 := Lib.hid (u3.out.below hb)
  have hE : Hid (mkE p q = 0) := Lib.hid (mkE_ok.2 ⟨hq'.out, canon_short t4.out (Nat.le_of_not_lt ht'.out), canon_short u4.out (Nat.le_of_not_lt hu'.out)⟩)
  clear hb
  go_wp2_with fail
  have bb := bb.out.drew; have x0 := x0'.out.drew; have x1 := x1'.out.drew; have x2 := x2.out.drew
  have A1 := A1.out.below (Below.refl _ _).drew; have B1 := B1.out.below (Below.refl _ _).drew
  have t3 := t3.out.below (Below.refl _ _).drew; have u3 := u3.out.below (Below.refl _ _).drew
  clear x0' x1'
  have sb0 := True.intro
  go_region_held3 (fun w' => w'.cell? ⟨w.heap.size, 0, none⟩ = some (.bool b) ∧ w'.cell? ⟨w.heap.size, 1, none⟩ = some (.slice ao n nc) ∧ w'.cell? ⟨(w.heap.size + 1), 0, none⟩ = some (.bool c) ∧ w'.cell? ⟨(w.heap.size + 1), 1, none⟩ = some (.slice bo m mc))
    (first | with_reducible exact ⟨x0.c0, x0.c1, x1.c0, x1.c1⟩ | with_reducible exact ⟨(x0.other3 (by omega) _ _ _).c0, (x0.other3 (by omega) _ _ _).c1, (x1.other3 (by omega) _ _ _).c0, (x1.other3 (by omega) _ _ _).c1⟩ | go_keep)
    (first
    | (go_at_call 50; clear sb0; refine (wSign_any b ao n nc p _ A1).mono ?_; rintro e w' ⟨rfl, hb⟩; have bb := below_then bb (Nat.le_refl _) hb; have x0 := x0.later hb; have x1 := x1.later hb; have x2 := x2.later hb; have A1 := A1.below hb; have B1 := B1.below hb; have t3 := t3.below hb; have u3 := u3.below hb; clear hb; have sb1 := True.intro)
    | (go_at_call 50; clear sb1; refine (wSign_any c bo m mc q _ B1).mono ?_; rintro e w' ⟨rfl, hb⟩; have bb := below_then bb (Nat.le_refl _) hb; have x0 := x0.later hb; have x1 := x1.later hb; have x2 := x2.later hb; have A1 := A1.below hb; have B1 := B1.below hb; have t3 := t3.below hb; have u3 := u3.below hb; clear hb; have q0 := x2.c0; have q1 := x2.c1; have q2 := x2.c2; have q3 := x2.fr 0; have q4 := x2.fr 1; have q5 := x2.fr 2; have sb2 := True.intro))
  have z := x2.set (.bool (decide (p.sign * q.sign < 0))) (.slice to_ tn tc) (.slice uo un uc)
  have e0 := z.c0; have e1 := z.c1; have e2 := z.c2
  have hR : Hid (Rt w' (decide (p.sign * q.sign < 0)) to_ tn tc uo un uc (mkT p q) (mkB p q)) := Lib.hid ⟨by
    rw [mkT_ok hE.out]
    refine canon_right t1 t2 t3 t4.out ?_
    by_cases h0 : 0 < tn
    · exact .inl h0
    · refine .inr ?_
      have : tn = 0 := by omega
      have e := t4.out.ne_zero.1 this
      have hp : p = 0 := by
        rcases Nat.div_eq_zero_iff.1 e with h | h
        · exact absurd h hg0.out
        · have hd : mkG p q ∣ p.natAbs := Nat.gcd_dvd_left _ _
          have := Nat.eq_zero_of_dvd_of_lt hd h
          omega
      rw [hp]; simp, by
    rw [mkB_ok hE.out]
    exact canon_right (b := false) u1 u2 u3 u4.out (.inr rfl)⟩
  have x2' := Lib.hid x2; have bb' := Lib.hid bb
  clear z x2 bb x0 x1 t3 u3 A1 B1
  go_wp2_with fail
  refine bodyPost_ret (v := .tuple #[.agg #[.bool (decide (p.sign * q.sign < 0)), .slice to_ tn tc, .slice uo un uc], .int .i64 0]) (by simp [results, Tryz.results24, go_sem, sign_small, e0, e1, e2]) rfl ?_
  have := ResPost.stored (E := 0) hR.out x2'.out bb'.out (Nat.le_add_right _ 2)
  refine make_good hE.out ?_
  simpa only [sign_small] using this

end Go.Proofs.YtokdaagjkhkinaaGreatDoor
