/-
  scrimref01.Meet; what an observer sees of a cell, plain.
  What the functions of package array are to tell (as hypotheses of the walks of the statements).
  scrimlaw08.awake.
  What the functions of package view are to tell (as hypotheses of the walks of the statements); scrimlaw09.one, awake.
  scrimlaw08.ArrayRight, walked.
  scrimlaw09: ViewAlike, ViewGoes, ViewLess, walked.
  label.Join; array.alone, Simple, Size, Depth, Total.
  slices.Clone over limbs, ints, cells, arrays; array.numAnew.
  Arrays and cells told anew, with other labels: what is made (mapT, mapC), rows whose elements are put anew one behind the other (Mapped), the three functions of labels; array.cellsBy.
  array.cellsBy: cells told anew, one behind the other.
  array.cellBy: a cell told anew.
-/
import Derived.Test.YtlfilpjiepdejaaMrgG
import Derived.Deep.RegionHeld3
import Derived.Lib.SliceRun
namespace Go.Proofs.Ytlfilpjiepdejaa
open Go.RowKit Num

/-- The meet of two labels. -/
def andL (a b : Nat) : Nat := a &&& b

theorem hasL_and (a b i : Nat) : hasL (andL a b) i = (hasL a i && hasL b i) := by
  rw [hasL_bit, hasL_bit, hasL_bit]
  exact Nat.testBit_and ..

theorem andL_is {a b : Nat} (ha : IsL a) : IsL (andL a b) := Nat.lt_of_le_of_lt Nat.and_le_left ha

theorem sees_and {a o p : Nat} (h : seesL a (andL o p) = true) : seesL a o = true := by
  rw [sees_iff] at h ⊢
  intro i hi ha
  have := h i hi ha
  rw [hasL_and, Bool.and_eq_true] at this
  exact this.1

set_option maxRecDepth 20000 in
set_option maxHeartbeats 2000000 in
theorem meet01_any (a b : Nat) (ha : IsL a) (hb : IsL b) (w : World) : Calls Try.prog 19 #[.int .u64 a, .int .u64 b] w fun e w' => e = .returned (.int .u64 (andL a b : Nat)) ∧ w = w' := by
  obtain ⟨x, hx⟩ : ∃ x, x = andL a b := ⟨_, rfl⟩
  have hxl : x < 18446744073709551616 := by rw [hx]; exact andL_is ha
  have hx' := Lib.hid hx
  rw [← hx]
  clear hx
  go_enter Try.func19, Try.ntmps19
  go_wp2_with fail
  go_loopw [5, 6] (fun m j wr => ∃ k : Nat, k ≤ 64 ∧ j = .int .i64 k ∧ m = .int .u64 ((x % 2 ^ k : Nat) : Int) ∧ wr = w) (fun _ j _ => 64 - (intOfZ j).toNat)
  case atStart => exact ⟨0, Nat.zero_le _, rfl, by rw [Nat.pow_zero, Nat.mod_one]; rfl, rfl⟩
  case round =>
    obtain ⟨k, hk, rfl, rfl, rfl⟩ := hrel
    by_cases hlt : k < 64
    · have hst := orL_step x k
      have hor := hasL_and a b k
      rw [← hx'.out] at hor
      have hle : x % 2 ^ (k + 1) ≤ x := Nat.mod_le _ _
      obtain ⟨y, hy⟩ : ∃ y, y = x % 2 ^ k := ⟨_, rfl⟩
      obtain ⟨p, hp⟩ : ∃ p, p = 2 ^ k := ⟨_, rfl⟩
      have hbit := Lib.hid (fun w => bit01_any k hlt w)
      rw [← hy] at hst ⊢
      rw [← hp] at hst hbit
      have hy' := Lib.hid hy
      clear hy hp
      by_cases h1 : hasL a k = true
      · by_cases h2 : hasL b k = true
        · rw [h1, h2, Bool.true_and] at hor
          rw [if_pos hor] at hst
          have hst' := Lib.hid hst
          have hsm : y + p < 18446744073709551616 := by omega
          clear hst hor hle
          go_wp2_with fail
          refine (has01_any a k ha hlt _).mono ?_
          rintro e w' ⟨rfl, rfl⟩
          rw [h1]
          go_wp2_with fail
          refine (has01_any b k hb hlt _).mono ?_
          rintro e w' ⟨rfl, rfl⟩
          rw [h2]
          go_wp2_with fail
          refine (hbit.out _).mono ?_
          rintro e w' ⟨rfl, rfl⟩
          go_wp2_with fail
          go_roundw
          case rel => exact ⟨k + 1, by omega, by go_num, by rw [hst'.out]; go_num, by trivial⟩
          case measure => simp [intOfZ]; omega
        · have h2f : hasL b k = false := by simpa using h2
          rw [h1, h2f, Bool.true_and] at hor
          rw [if_neg (by rw [hor]; decide), Nat.add_zero] at hst
          have hst' := Lib.hid hst
          clear hst hor hle h2
          go_wp2_with fail
          refine (has01_any a k ha hlt _).mono ?_
          rintro e w' ⟨rfl, rfl⟩
          rw [h1]
          go_wp2_with fail
          refine (has01_any b k hb hlt _).mono ?_
          rintro e w' ⟨rfl, rfl⟩
          rw [h2f]
          go_wp2_with fail
          go_roundw
          case rel => exact ⟨k + 1, by omega, by go_num, by rw [hst'.out]; rfl, by trivial⟩
          case measure => simp [intOfZ]; omega
      · have h1f : hasL a k = false := by simpa using h1
        rw [h1f, Bool.false_and] at hor
        rw [if_neg (by rw [hor]; decide), Nat.add_zero] at hst
        have hst' := Lib.hid hst
        clear hst hor hle h1
        go_wp2_with fail
        refine (has01_any a k ha hlt _).mono ?_
        rintro e w' ⟨rfl, rfl⟩
        rw [h1f]
        go_wp2_with fail
        go_roundw
        case rel => exact ⟨k + 1, by omega, by go_num, by rw [hst'.out]; rfl, by trivial⟩
        case measure => simp [intOfZ]; omega
    · obtain rfl : k = 64 := by omega
      have hm := Lib.hid (show x % 2 ^ 64 = x from Nat.mod_eq_of_lt hxl)
      go_wp2_with fail
      go_ret
      refine ⟨congrArg (fun b => Ending.returned (.int .u64 b)) ?_, rfl⟩
      exact congrArg (fun n : Nat => (n : Int)) hm.out

theorem CellR.within {w : World} {c : CellD} {e : Nat → Value} (h : CellR w c e) : CellDQ w (· < w.heap.size) c e := by
  obtain ⟨h0, hL, h1, hK, hn, h5, hC, io, kc, h6, hk, hrow⟩ := h
  refine ⟨h0, hL, h1, hK, hn.within, h5, hC, io, kc, h6, hk, ?_⟩
  rcases hrow with h | ⟨b, o, rfl, h⟩
  · exact .inl h
  · by_cases hk0 : c.k = 0
    · exact .inl hk0
    · refine .inr ⟨b, o, rfl, ?_, fun j hj => ?_⟩
      · obtain ⟨d0, d1, d2, h0, _⟩ := h 0 (by omega)
        exact World.block_lt_of_cell? w _ h0
      · obtain ⟨d0, d1, d2, h0, h1, h2, h3⟩ := h j hj
        exact ⟨d0, d1, d2, h0, h1, h2, ArrP.within _ _ _ _ h3⟩

theorem SlQ.plainly {w : World} {Q : Nat → Prop} {ao : Option Addr} {n : Nat} {f : Nat → Nat} (h : SlQ w Q ao n f) : Sl w ao n f := by
  rcases h with h | ⟨b, off, rfl, _, h⟩
  · exact .inl h
  · exact .inr ⟨b, off, rfl, h⟩

theorem CellDQ.plainly {w : World} {Q : Nat → Prop} {c : CellD} {e : Nat → Value} (h : CellDQ w Q c e) : CellR w c e := by
  obtain ⟨h0, hL, h1, hK, ⟨h2, ⟨ao, ac, h3, p1, p2, p3⟩, ⟨bo, bc, h4, p4, p5, p6⟩⟩, h5, hC, io, kc, h6, hk, hrow⟩ := h
  refine ⟨h0, hL, h1, hK, ⟨h2, ⟨ao, ac, h3, p1, p2.plainly, p3⟩, ⟨bo, bc, h4, p4, p5.plainly, p6⟩⟩, h5, hC, io, kc, h6, hk, ?_⟩
  rcases hrow with h | ⟨b, o, rfl, _, h⟩
  · exact .inl h
  · refine .inr ⟨b, o, rfl, fun j hj => ?_⟩
    obtain ⟨d0, d1, d2, h0, h1, h2, h3⟩ := h j hj
    exact ⟨d0, d1, d2, h0, h1, h2, h3.plainly⟩

theorem hideCell9_any (c : CellD) (o : Nat) (e : Nat → Value) (w : World) (h : CellR w c e) (ho : IsL o) (hf : partsT (scalarT c) ≤ 4000) :
    Calls Try.prog 15 #[.agg #[e 0, e 1, e 2, e 3, e 4, e 5, e 6], .int .u64 o] w (CellPost (hideC c o) w) := by
  have hk : ∀ j, j < c.k → partsT (c.sub j) ≤ 4000 := fun j hj => by
    have := parts_sub (S := 0) (n := 0) (m := 1) (sh := fun _ => 0) (L := fun _ => c.L) (K := fun _ => c.K) (C := fun _ => c.C) (N := fun _ => c.N) (k := fun _ => c.k) (sub := fun _ => c.sub) (i := 0) (j := j) (by decide) hj
    have e : partsT (scalarT c) = partsT (.arr 0 0 (fun _ => 0) 1 (fun _ => c.L) (fun _ => c.K) (fun _ => c.C) (fun _ => c.N) (fun _ => c.k) (fun _ => c.sub)) := rfl
    omega
  have hk40 : c.k ≤ 4000 := by
    have e : partsT (scalarT c) = 1 + 0 + (0 + (1 + c.N.an + c.N.am + sumN (fun j => partsT (c.sub j)) c.k)) := rfl
    have h4 := sumN_le (f := fun _ => 1) (g := fun j => partsT (c.sub j)) c.k fun j _ => parts_pos _
    rw [sumN_const] at h4
    omega
  refine (hideCell_of c o w.heap.size ho hk40 (fun j hj => hide8_t o w.heap.size ho _ (hk j hj)) e w h.within (Nat.le_refl _)).mono ?_
  rintro r w' ⟨⟨v, rfl, hv⟩, hb⟩
  exact ⟨v, rfl, hv.plainly, hb⟩

end Go.Proofs.Ytlfilpjiepdejaa

namespace Go.Proofs.Ytlfilpjiepdejaa
open Go.RowKit Num

theorem ArrP.later {w w' : World} {A : Tree} {c0 c1 c2 : Value} (h : ArrP w A c0 c1 c2) (hb : Below w.heap.size w w') : ArrP w' A c0 c1 c2 := ArrP.below _ _ _ _ h hb

theorem CellR.later {w w' : World} {c : CellD} {e : Nat → Value} (h : CellR w c e) (hb : Below w.heap.size w w') : CellR w' c e := CellP.below h hb fun _ _ _ _ _ hd => hd.later hb

/-- The number of a cell is n. -/
def OfZ (N : NumF) (n : Int) : Prop := N.neg = decide (n < 0) ∧ Canon n.natAbs N.an N.fa ∧ Canon 1 N.am N.ga

/-- A cell that is a number n: what of it is told. -/
def IntCell (n : Int) (w : World) (e : Ending) (w' : World) : Prop := ∃ N, OfZ N n ∧ CellPost ⟨0, 0, N, 0, 0, fun _ => .leaf⟩ w e w'

/-- Cells in a row. -/
def vecT (m : Nat) (cs : Nat → CellD) : Tree := .arr 0 1 (fun _ => m) m (fun i => (cs i).L) (fun i => (cs i).K) (fun i => (cs i).C) (fun i => (cs i).N) (fun i => (cs i).k) (fun i => (cs i).sub)

/-- Cells in a row, as they lie. -/
def CellsP (w : World) (co : Option Addr) (m : Nat) (cs : Nat → CellD) : Prop := m = 0 ∨ ∃ b o, co = some ⟨b, o, none⟩ ∧ ∀ i, i < m → ∃ e : Nat → Value, (∀ t, t < 7 → w.cell? ⟨b, o + i * 7 + t, none⟩ = some (e t)) ∧ CellR w (cs i) e

def CoverC : Prop := ∀ (A : Tree) (l : Nat) (c0 c1 c2 : Value) (w : World), ArrP w A c0 c1 c2 → FewT A → IsL l → Calls Try.prog 20 #[.agg #[c0, c1, c2], .int .u64 l] w (TreePost (coverT A l false) w)

def SameAC : Prop := ∀ (A B : Tree) (c0 c1 c2 d0 d1 d2 : Value) (w : World), ArrP w A c0 c1 c2 → ArrP w B d0 d1 d2 → FewT A → FewT B → Calls Try.prog 18 #[.agg #[c0, c1, c2], .agg #[d0, d1, d2]] w (BoolPost (SameT A B) w)

def ScalarC : Prop := ∀ (c : CellD) (e : Nat → Value) (w : World), CellR w c e → partsT (scalarT c) ≤ 5000 → Calls Try.prog 40 #[.agg #[e 0, e 1, e 2, e 3, e 4, e 5, e 6]] w (TreePost (scalarT c) w)

def IntAC : Prop := ∀ (n : Int) (w : World), IsZ n → Calls Try.prog 39 #[.int .i64 n] w (IntCell n w)

theorem BoolPost.tell {P : Prop} {b : Bool} {w w' : World} {e : Ending} (hb : b = true ↔ P) (h : BoolPost P w e w') : Tell (.bool b) w e w' := by
  obtain ⟨r, rfl, hr, hw⟩ := h
  obtain rfl : r = b := Bool.eq_iff_iff.2 (hr.trans hb.symm)
  exact ⟨rfl, hw⟩

/-- Covered, or without labels, an array has as many parts, and no more are within one another. -/
theorem parts_cover (l : Nat) (er : Bool) : ∀ A, partsT (coverT A l er) = partsT A := by
  intro A
  induction A with
  | leaf => rfl
  | arr S n sh m L K C N k sub ih =>
    show 1 + n + sumN (fun i => 1 + (N i).an + (N i).am + sumN (fun j => partsT (coverT (sub i j) l er)) (k i)) m = 1 + n + sumN (fun i => 1 + (N i).an + (N i).am + sumN (fun j => partsT (sub i j)) (k i)) m
    simp only [ih]

theorem nest_cover (l : Nat) (er : Bool) : ∀ A d, NestT A d → NestT (coverT A l er) d := by
  intro A
  induction A with
  | leaf => intro d h; exact h
  | arr S n sh m L K C N k sub ih =>
    intro d h
    cases d with
    | zero => exact h
    | succ d => exact fun i hi j hj => ih i j d (h i hi j hj)

theorem few_cover {A : Tree} (l : Nat) (er : Bool) (h : FewT A) : FewT (coverT A l er) := ⟨by rw [parts_cover]; exact h.1, nest_cover l er A 12 h.2⟩

theorem few_raise {A : Tree} (l : Nat) (h : FewT A) : FewT (raiseT A l) := by
  obtain _ | ⟨S, n, sh, m, L, K, C, N, k, sub⟩ := A
  · exact h
  · exact h

/-- A label that came in. -/
theorem label_in {n : Int} (h : (Lit.int .u64 n).wf = true) : ∃ l : Nat, IsL l ∧ n = (l : Int) := by
  have hb : 0 ≤ n ∧ n < 18446744073709551616 := by
    simp [Lit.wf, IntKind.min, IntKind.max, IntKind.signed, IntKind.bits] at h
    omega
  exact ⟨n.toNat, by unfold IsL; omega, by omega⟩

end Go.Proofs.Ytlfilpjiepdejaa

namespace Go.Proofs.Ytlfilpjiepdejaa
open Go.RowKit Num

theorem CellPost.form {c : CellD} {w w' : World} {e : Ending} (h : CellPost c w e w') : ∃ (bo co io : Option Addr) (bc cc kc : Nat),
    e = .returned (.agg #[.int .u64 c.L, .int .i64 c.K, .bool c.N.neg, .slice bo c.N.an bc, .slice co c.N.am cc, .int .i64 c.C, .slice io c.k kc]) ∧
    CellR w' c (fun t => (#[.int .u64 c.L, .int .i64 c.K, .bool c.N.neg, .slice bo c.N.an bc, .slice co c.N.am cc, .int .i64 c.C, .slice io c.k kc] : Array Value).getD t (.bool false)) ∧ Below w.heap.size w w' := by
  obtain ⟨v, rfl, hv, hb⟩ := h
  obtain ⟨h0, hL, h1, hK, ⟨h2, ⟨ao, ac, h3, ha⟩, ⟨bo, bc, h4, hb'⟩⟩, h5, hC, io, kc, h6, hk, hrow⟩ := hv
  rw [h0, h1, h2, h3, h4, h5, h6]
  exact ⟨ao, bo, io, ac, bc, kc, rfl, ⟨rfl, hL, rfl, hK, ⟨rfl, ⟨ao, ac, rfl, ha⟩, ⟨bo, bc, rfl, hb'⟩⟩, rfl, hC, io, kc, rfl, hk, hrow⟩, hb⟩

theorem TreePost.form {T : Tree} {w w' : World} {e : Ending} (h : TreePost T w e w') : ∃ (S n nc m mc : Nat) (ao co : Option Addr),
    e = .returned (.agg #[.int .u64 S, .slice ao n nc, .slice co m mc]) ∧ ArrP w' T (.int .u64 S) (.slice ao n nc) (.slice co m mc) ∧ Below w.heap.size w w' := by
  obtain ⟨d0, d1, d2, rfl, hA, hb⟩ := h
  obtain ⟨S, n, nc, m, mc, ao, co, rfl, rfl, rfl⟩ := (ArrP.within _ _ _ _ hA).form
  exact ⟨S, n, nc, m, mc, ao, co, rfl, hA, hb⟩

/-- The three cells of chapter 8's example. -/
def cs3 (M N : NumF) (i : Nat) : CellD := if i = 0 then ⟨0, 0, M, 0, 0, fun _ => .leaf⟩ else if i = 1 then ⟨4, 0, N, 0, 0, fun _ => .leaf⟩ else ⟨0, 1, zeroN, 65, 0, fun _ => .leaf⟩

theorem three_cells {R : Nat → Prop} (h0 : R 0) (h1 : R 1) (h2 : R 2) : ∀ i, i < 3 → R i := fun i hi => by
  have : i = 0 ∨ i = 1 ∨ i = 2 := by omega
  rcases this with rfl | rfl | rfl
  · exact h0
  · exact h1
  · exact h2

theorem OfZ.right {N : NumF} {n : Int} (h : OfZ N n) (hz : IsZ n) : RightF N := ⟨n, 1, low_one (int_32 hz.1 hz.2), h.1, h.2.1, h.2.2⟩

theorem OfZ.few {N : NumF} {n : Int} (h : OfZ N n) (hz : n.natAbs < pw 1) : N.an ≤ 1 ∧ N.am ≤ 1 := ⟨h.2.1.len_le hz, h.2.2.len_le (by decide)⟩

def vec2 (S : Nat) (M N : NumF) : Tree := .arr S 1 (fun _ => (3 : Nat)) 3 (fun i => (cs3 M N i).L) (fun i => (cs3 M N i).K) (fun i => (cs3 M N i).C) (fun i => (cs3 M N i).N) (fun i => (cs3 M N i).k) (fun i => (cs3 M N i).sub)

theorem vec_few {M N : NumF} (hM : OfZ M 3) (hN : OfZ N 1) : FewT (vec2 2 M N) := by
  obtain ⟨a1, a2⟩ := hM.few (by decide)
  obtain ⟨b1, b2⟩ := hN.few (by decide)
  refine ⟨?_, fun i hi j hj => ?_⟩
  · show 1 + 1 + (0 + (1 + M.an + M.am + 0) + (1 + N.an + N.am + 0) + (1 + 0 + 0 + 0)) ≤ 4000
    omega
  · have : ∀ i, i < 3 → (cs3 M N i).k = 0 := three_cells rfl rfl rfl
    have hk : j < (cs3 M N i).k := hj
    rw [this i hi] at hk
    exact absurd hk (Nat.not_lt_zero _)

theorem vec_parts {M N : NumF} (hM : OfZ M 3) (hN : OfZ N 1) : partsT (vecT 3 (cs3 M N)) ≤ 5000 := by
  obtain ⟨a1, a2⟩ := hM.few (by decide)
  obtain ⟨b1, b2⟩ := hN.few (by decide)
  show 1 + 1 + (0 + (1 + M.an + M.am + 0) + (1 + N.an + N.am + 0) + (1 + 0 + 0 + 0)) ≤ 5000
  omega

theorem vec_size (M N : NumF) : sizeT (vec2 2 M N) = 3 := rfl

theorem vec_depth (M N : NumF) : depthT (vec2 2 M N) = 1 := rfl

theorem vec_total (M N : NumF) : totalT (vec2 2 M N) = 6 := by show orL (orL (orL 2 0) 4) 0 = 6; decide

theorem vec_right {M N : NumF} (hM : OfZ M 3) (hN : OfZ N 1) : RightT (vec2 2 M N) 8 := by
  refine ⟨⟨by decide, fun _ _ => by decide, fun _ _ => by decide, by decide, by decide⟩, three_cells ?_ ?_ ?_⟩
  · exact .inl ⟨rfl, rfl, rfl, hM.right ⟨by decide, by decide⟩⟩
  · exact .inl ⟨rfl, rfl, rfl, hN.right ⟨by decide, by decide⟩⟩
  · exact .inr (.inl ⟨rfl, rfl, rfl, rfl⟩)

theorem flat3 {M N : NumF} : ∀ i, i < 3 → (fun i => (cs3 M N i).k) i = 0 := three_cells rfl rfl rfl

/-- Twenty-one cells of memory, told by their cells. -/
def row21 (e0 e1 e2 : Nat → Value) : Array Value := #[e0 0, e0 1, e0 2, e0 3, e0 4, e0 5, e0 6, e1 0, e1 1, e1 2, e1 3, e1 4, e1 5, e1 6, e2 0, e2 1, e2 2, e2 3, e2 4, e2 5, e2 6]

theorem cells_three {w' : World} {B : Nat} {M N : NumF} {e0 e1 e2 : Nat → Value} (hc : ∀ j u, (row21 e0 e1 e2)[j]? = some u → w'.cell? ⟨B, j, none⟩ = some u) (h0 : CellR w' (cs3 M N 0) e0) (h1 : CellR w' (cs3 M N 1) e1) (h2 : CellR w' (cs3 M N 2) e2) :
    CellsP w' (some ⟨B, 0, none⟩) 3 (cs3 M N) := by
  refine .inr ⟨B, 0, rfl, three_cells ⟨e0, fun t ht => ?_, h0⟩ ⟨e1, fun t ht => ?_, h1⟩ ⟨e2, fun t ht => ?_, h2⟩⟩
  all_goals
    have : t = 0 ∨ t = 1 ∨ t = 2 ∨ t = 3 ∨ t = 4 ∨ t = 5 ∨ t = 6 := by omega
    rcases this with rfl | rfl | rfl | rfl | rfl | rfl | rfl <;> exact hc _ _ rfl

theorem CellsP.later {w w' : World} {co : Option Addr} {m : Nat} {cs : Nat → CellD} (h : CellsP w co m cs) (hb : Below w.heap.size w w') : CellsP w' co m cs := by
  rcases h with h | ⟨b, o, rfl, h⟩
  · exact .inl h
  · refine .inr ⟨b, o, rfl, fun i hi => ?_⟩
    obtain ⟨e, h1, h2⟩ := h i hi
    exact ⟨e, fun t ht => cell_below (h1 t ht) hb, h2.later hb⟩

theorem cells_new {w : World} {B : Nat} {M N : NumF} {e0 e1 e2 : Nat → Value} (t : TypeId) (hB : B = w.heap.size) (h0 : CellR w (cs3 M N 0) e0) (h1 : CellR w (cs3 M N 1) e1) (h2 : CellR w (cs3 M N 2) e2) :
    CellsP (w.alloc (.cells (row21 e0 e1 e2) t)) (some ⟨B, 0, none⟩) 3 (cs3 M N) := by
  subst hB
  have hb : Below w.heap.size w (w.alloc (.cells (row21 e0 e1 e2) t)) := (Below.refl _ _).alloc (Nat.le_refl _) _
  exact cells_three (fun j u hj => by rw [World.cell?_alloc_new]; exact hj) (h0.later hb) (h1.later hb) (h2.later hb)

/-- Cells that cannot be an array's three are as they were when these are stored into. -/
theorem cell_aside {w : World} {B b t : Nat} {x : Int} {p q : Option Addr} {np cp nq cq : Nat} {v : Value} (z : Box3 w B (.int .u64 x) (.slice p np cp) (.slice q nq cq)) (u0 u1 u2 : Value) (h : w.cell? ⟨b, t, none⟩ = some v)
    (hv : t = 0 → b = B → v ≠ .int .u64 x) (hs : t = 1 ∨ t = 2 → ∀ a n c, v ≠ .slice a n c) : (((w.setCell ⟨B, 0, none⟩ u0).setCell ⟨B, 1, none⟩ u1).setCell ⟨B, 2, none⟩ u2).cell? ⟨b, t, none⟩ = some v := by
  have ne : ∀ j, ¬ (b = B ∧ t = j) → (⟨b, t, none⟩ : Addr) ≠ ⟨B, j, none⟩ := fun j hn e => hn (by injection e with e1 e2; exact ⟨e1, e2⟩)
  have n0 : ¬ (b = B ∧ t = 0) := fun ⟨e1, e2⟩ => by
    subst e1; subst e2
    have := h.symm.trans z.c0
    injection this with e
    exact hv rfl rfl e
  have n1 : ¬ (b = B ∧ t = 1) := fun ⟨e1, e2⟩ => by
    subst e1; subst e2
    have := h.symm.trans z.c1
    injection this with e
    exact hs (.inl rfl) _ _ _ e
  have n2 : ¬ (b = B ∧ t = 2) := fun ⟨e1, e2⟩ => by
    subst e1; subst e2
    have := h.symm.trans z.c2
    injection this with e
    exact hs (.inr rfl) _ _ _ e
  rw [cell_set_ne (ne 2 n2), cell_set_ne (ne 1 n1), cell_set_ne (ne 0 n0)]
  exact h

/-- Of a block's first cell and the next two alone something may have turned. -/
def AsideP (w w' : World) (B : Nat) (x : Int) : Prop := ∀ (b t : Nat) (v : Value), w.cell? ⟨b, t, none⟩ = some v → (t = 0 → b = B → v ≠ .int .u64 x) → (t = 1 ∨ t = 2 → ∀ a n c, v ≠ .slice a n c) → w'.cell? ⟨b, t, none⟩ = some v

theorem aside_three {w : World} {B : Nat} {x : Int} {p q : Option Addr} {np cp nq cq : Nat} (z : Box3 w B (.int .u64 x) (.slice p np cp) (.slice q nq cq)) (u0 u1 u2 : Value) : AsideP w (((w.setCell ⟨B, 0, none⟩ u0).setCell ⟨B, 1, none⟩ u1).setCell ⟨B, 2, none⟩ u2) B x :=
  fun _ _ _ h hv hs => cell_aside z u0 u1 u2 h hv hs

theorem aside_one {w : World} {B : Nat} {x : Int} {p q : Option Addr} {np cp nq cq : Nat} (z : Box3 w B (.int .u64 x) (.slice p np cp) (.slice q nq cq)) (u0 : Value) : AsideP w (w.setCell ⟨B, 0, none⟩ u0) B x := by
  intro b t v h hv _
  have n0 : ¬ (b = B ∧ t = 0) := fun ⟨e1, e2⟩ => by
    subst e1; subst e2
    have := h.symm.trans z.c0
    injection this with e
    exact hv rfl rfl e
  rw [cell_set_ne fun e => n0 (by injection e with e1 e2; exact ⟨e1, e2⟩)]
  exact h

theorem ArrP.aside_flat {w w' : World} {B S n m : Nat} {sh : Nat → Int} {L : Nat → Nat} {K C : Nat → Int} {N : Nat → NumF} {k : Nat → Nat} {sub : Nat → Nat → Tree} {c0 c1 c2 : Value} (h : ArrP w (.arr S n sh m L K C N k sub) c0 c1 c2) (hk : ∀ i, i < m → k i = 0)
    {x : Int} {p q : Option Addr} {np cp nq cq : Nat} (z : Box3 w B (.int .u64 x) (.slice p np cp) (.slice q nq cq)) (H : AsideP w w' B x) : ArrP w' (.arr S n sh m L K C N k sub) c0 c1 c2 := by
  have hi : ∀ {b t : Nat} {i : Int}, w.cell? ⟨b, t, none⟩ = some (.int .i64 i) → w'.cell? ⟨b, t, none⟩ = some (.int .i64 i) := fun h => H _ _ _ h (fun _ _ e => by cases e) fun _ _ _ _ e => by cases e
  have hl : ∀ {b t : Nat} {i : Int}, w.cell? ⟨b, t, none⟩ = some (.int .u32 i) → w'.cell? ⟨b, t, none⟩ = some (.int .u32 i) := fun h => H _ _ _ h (fun _ _ e => by cases e) fun _ _ _ _ e => by cases e
  have hS : ∀ {ao : Option Addr} {n : Nat} {f : Nat → Nat}, Sl w ao n f → Sl w' ao n f := by
    rintro ao n f (h | ⟨b, off, rfl, h⟩)
    · exact .inl h
    · exact .inr ⟨b, off, rfl, fun j hj => hl (h j hj)⟩
  obtain ⟨h0, h1, ⟨ao, nc, h2, h3, h4, h5⟩, co, mc, h6, h7, h8⟩ := h
  refine ⟨h0, h1, ⟨ao, nc, h2, h3, ?_, h5⟩, co, mc, h6, h7, ?_⟩
  · rcases h4 with h4 | ⟨b, off, rfl, h4⟩
    · exact .inl h4
    · exact .inr ⟨b, off, rfl, fun j hj => hi (h4 j hj)⟩
  · rcases h8 with h8 | ⟨b, o, rfl, h8⟩
    · exact .inl h8
    · refine .inr ⟨b, o, rfl, fun i hm => ?_⟩
      obtain ⟨e, h9, h10, hL, h11, hK, ⟨h12, ⟨ao', ac, h13, ha, hsa, hla⟩, ⟨bo, bc, h14, hb, hsb, hlb⟩⟩, h15, hC, io, kc, h16, hkk, hrow⟩ := h8 i hm
      refine ⟨e, fun t ht => ?_, h10, hL, h11, hK, ⟨h12, ⟨ao', ac, h13, ha, hS hsa, hla⟩, ⟨bo, bc, h14, hb, hS hsb, hlb⟩⟩, h15, hC, io, kc, h16, hkk, .inl (hk i hm)⟩
      refine H _ _ _ (h9 t ht) (fun e0 eb => ?_) (fun e12 a n c ee => ?_)
      · subst eb
        have h1' := h9 1 (by decide)
        have : o + i * 7 = 0 ∧ t = 0 := by omega
        rw [this.1] at h1'
        have := h1'.symm.trans z.c1
        injection this with e
        rw [h11] at e
        cases e
      · have : t = 0 ∨ t = 1 ∨ t = 2 := by omega
        rcases this with rfl | rfl | rfl
        · rw [h10] at ee; cases ee
        · rw [h11] at ee; cases ee
        · rw [h12] at ee; cases ee

end Go.Proofs.Ytlfilpjiepdejaa

namespace Go.Proofs.Ytlfilpjiepdejaa
open Go.RowKit Num

def HideC : Prop := ∀ (A : Tree) (o : Nat) (c0 c1 c2 : Value) (w : World), ArrP w A c0 c1 c2 → FewT A → IsL o → Calls Try.prog 10 #[.agg #[c0, c1, c2], .int .u64 o] w (TreePost (hideT A o) w)

def CellVC : Prop := ∀ (c : CellD) (o : Nat) (e : Nat → Value) (w : World), CellR w c e → FewT (scalarT c) → IsL o → Calls Try.prog 14 #[.agg #[e 0, e 1, e 2, e 3, e 4, e 5, e 6], .int .u64 o] w (CellPost (hideC c o) w)

def AlikeVC : Prop := ∀ (A B : Tree) (o : Nat) (c0 c1 c2 d0 d1 d2 : Value) (w : World), ArrP w A c0 c1 c2 → ArrP w B d0 d1 d2 → FewT A → FewT B → IsL o → Calls Try.prog 16 #[.agg #[c0, c1, c2], .agg #[d0, d1, d2], .int .u64 o] w (BoolPost (AlikeT A B o) w)

/-- A number alone, with a label. -/
def oneT (N : NumF) (l : Nat) : Tree := scalarT ⟨l, 0, N, 0, 0, fun _ => .leaf⟩

def OnePost (n : Int) (l : Nat) (w : World) (e : Ending) (w' : World) : Prop := ∃ N, OfZ N n ∧ TreePost (oneT N l) w e w'

theorem one_few {N : NumF} {n : Int} {l : Nat} (h : OfZ N n) (hz : n.natAbs < pw 1) : FewT (oneT N l) := by
  obtain ⟨a1, a2⟩ := h.few hz
  refine ⟨?_, fun i hi j hj => absurd hj (Nat.not_lt_zero _)⟩
  show 1 + 0 + (0 + (1 + N.an + N.am + 0)) ≤ 4000
  omega

theorem one_parts {N : NumF} {n : Int} {l : Nat} (h : OfZ N n) (hn : IsZ n) : partsT (scalarT ⟨l, 0, N, 0, 0, fun _ => .leaf⟩) ≤ 5000 := by
  have a := h.2.1.len_le (int_32 hn.1 hn.2)
  have b := h.2.2.len_le (k := 1) (by decide)
  show 1 + 0 + (0 + (1 + N.an + N.am + 0)) ≤ 5000
  omega

set_option maxRecDepth 20000 in
set_option maxHeartbeats 4000000 in
theorem one_any (hI : IntAC) (hL : ScalarC) (n : Int) (l : Nat) (w : World) (hn : IsZ n) (hl : IsL l) : Calls Try.prog 23 #[.int .i64 n, .int .u64 l] w (OnePost n l w) := by
  replace hI := Lib.hid hI; replace hL := Lib.hid hL; replace hl := Lib.hid hl
  go_enter Try.func23, Try.ntmps23
  go_wp2_with fail
  refine told_calls (fun w' => Below w.heap.size w w' ∧ Box3 w' w.heap.size (.int .u64 0) (.slice none 0 0) (.slice none 0 0)) ⟨(Below.refl _ _).alloc (Nat.le_refl _) _, Box3.new _ _ _ _ rfl⟩ ?_
  rintro w0 ⟨bb, z⟩
  refine (hI.out n w0 hn).mono ?_
  rintro e w1 ⟨N, hN, hp⟩
  obtain ⟨bo, co, io, bc, cc, kc, rfl, hc, hb⟩ := hp.form
  replace bb := Lib.hid (below_then bb (Nat.le_refl _) hb); replace z := Lib.hid (z.later hb); replace hc := Lib.hid hc; replace hN := Lib.hid hN
  clear hp hb
  go_upto_region 3 with fail
  refine told_wp (fun w' => Below w.heap.size w w' ∧ Box3 w' w.heap.size (.int .u64 0) (.slice none 0 0) (.slice none 0 0) ∧ Box7 w' w1.heap.size (.int .u64 l) (.int .i64 0) (.bool N.neg) (.slice bo N.an bc) (.slice co N.am cc) (.int .i64 0) (.slice io 0 kc) ∧
      CellR w' ⟨l, 0, N, 0, 0, fun _ => .leaf⟩ (fun t => (#[.int .u64 l, .int .i64 0, .bool N.neg, .slice bo N.an bc, .slice co N.am cc, .int .i64 0, .slice io 0 kc] : Array Value).getD t (.bool false))) ⟨bb.out.alloc bb.out.size _, z.out.alloc _, Box7.new _ _ _ _ _ _ _ _ rfl, ?_⟩ ?_
  · have h2 := hc.out.later ((Below.refl w1.heap.size w1).alloc (Nat.le_refl _) (.cells #[.int .u64 l, .int .i64 0, .bool N.neg, .slice bo N.an bc, .slice co N.am cc, .int .i64 0, .slice io 0 kc] 32))
    obtain ⟨_, _, h2⟩ := h2
    exact ⟨rfl, hl.out, h2⟩
  clear hc bb z
  rintro w2 ⟨bb, z, x, c1⟩
  have x0 := x.c0; have x1 := x.c1; have x2 := x.c2; have x3 := x.c3; have x4 := x.c4; have x5 := x.c5; have x6 := x.c6
  replace bb := Lib.hid bb; replace z := Lib.hid z; replace c1 := Lib.hid c1
  go_wp2_with fail
  refine (hL.out ⟨l, 0, N, 0, 0, fun _ => .leaf⟩ _ w2 c1.out (one_parts hN.out hn)).mono ?_
  rintro e w3 hp
  obtain ⟨S, n', nc, m, mc, ao, co3, rfl, hA, hb⟩ := hp.form
  have b3 := below_then bb.out (Nat.le_refl _) hb
  have z3 := z.out.later hb
  have f0 := z3.fr 0; have f1 := z3.fr 1; have f2 := z3.fr 2
  have g0 := z3.c0; have g1 := z3.c1; have g2 := z3.c2
  have y := z3.set (.int .u64 S) (.slice ao n' nc) (.slice co3 m mc)
  have y0 := y.c0; have y1 := y.c1; have y2 := y.c2
  have hA3 := Lib.hid (hA.aside_flat (fun i _ => rfl) z3 (aside_three z3 (.int .u64 S) (.slice ao n' nc) (.slice co3 m mc)))
  have b4 := Lib.hid (below_set3 b3 (Nat.le_refl w.heap.size) (.int .u64 S) (.slice ao n' nc) (.slice co3 m mc))
  clear x0 x1 x2 x3 x4 x5 x6 x c1 bb z hp hb b3 z3 y hA
  go_wp2_with fail
  refine bodyPost_ret (v := .agg #[.int .u64 S, .slice ao n' nc, .slice co3 m mc]) (by simp [results, Try.results23, go_sem, y0, y1, y2]) rfl ?_
  exact ⟨N, hN.out, _, _, _, rfl, hA3.out, b4.out⟩

theorem alike_one1 (M N : NumF) : AlikeT (oneT M 2) (oneT N 3) 1 := by
  refine .inr ⟨by decide, by decide, rfl, ⟨rfl, fun _ _ => rfl⟩, rfl, fun i hi => .inl ⟨by show seesL 2 1 = false; decide, by show seesL 3 1 = false; decide⟩⟩

theorem alike_one2 (M N : NumF) : ¬ AlikeT (oneT M 2) (oneT N 3) 3 := by
  rintro (⟨a, _⟩ | ⟨_, _, _, _, _, h⟩)
  · exact absurd a (by decide)
  · rcases h 0 (by decide) with ⟨a, _⟩ | ⟨_, _, h, _⟩
    · exact absurd (show seesL 2 3 = false from a) (by decide)
    · exact absurd (show (2 : Nat) = 3 from h) (by decide)

theorem alike_one3 {M N : NumF} (hM : OfZ M 5) (hN : OfZ N 6) : ¬ AlikeT (oneT M 0) (oneT N 0) 0 := by
  rintro (⟨a, _⟩ | ⟨_, _, _, _, _, h⟩)
  · exact absurd a (by decide)
  · rcases h 0 (by decide) with ⟨a, _⟩ | ⟨_, _, _, _, _, h, _⟩
    · exact absurd (show seesL 0 0 = false from a) (by decide)
    · have h' : SameF M N := h
      have e1 := hM.2.1.val
      have e2 := hN.2.1.val
      rw [← h'.2.1.1, ← val_congr h'.2.1.2, e1] at e2
      exact absurd e2 (by decide)

set_option maxRecDepth 20000 in
set_option maxHeartbeats 4000000 in
theorem awake9_any (hI : IntAC) (hL : ScalarC) (hK : AlikeVC) (w : World) : Calls Try.prog 9 #[] w (Tell (.bool true) w) := by
  replace hI := Lib.hid hI; replace hL := Lib.hid hL; replace hK := Lib.hid hK
  go_enter Try.func9, Try.ntmps9
  have bb := Lib.hid (Below.refl w.heap.size w)
  go_wp2_with fail
  refine (one_any hI.out hL.out 5 2 w ⟨by decide, by decide⟩ (by unfold IsL; decide)).mono ?_
  rintro e w1 ⟨Ma0, ha0, hp⟩
  obtain ⟨Sa0, na0, nca0, ma0, mca0, aoa0, coa0, rfl, a0, hb⟩ := hp.form
  replace bb := Lib.hid (below_then bb.out (Nat.le_refl _) hb); skip
  replace ha0 := Lib.hid ha0; replace a0 := Lib.hid a0
  clear hp hb
  go_wp2_with fail
  refine (one_any hI.out hL.out 6 3 w1 ⟨by decide, by decide⟩ (by unfold IsL; decide)).mono ?_
  rintro e w2 ⟨Mb0, hb0, hp⟩
  obtain ⟨Sb0, nb0, ncb0, mb0, mcb0, aob0, cob0, rfl, b0, hb⟩ := hp.form
  replace bb := Lib.hid (below_then bb.out (Nat.le_refl _) hb); replace a0 := Lib.hid (a0.out.later hb)
  replace hb0 := Lib.hid hb0; replace b0 := Lib.hid b0
  clear hp hb
  go_wp2_with fail
  refine ((hK.out _ _ 1 _ _ _ _ _ _ w2 a0.out b0.out (one_few ha0.out (by decide)) (one_few hb0.out (by decide)) (by unfold IsL; decide)).mono fun _ _ h => BoolPost.tell (b := true) ⟨fun _ => alike_one1 _ _, fun _ => rfl⟩ h).mono ?_
  rintro e w3 ⟨rfl, hb⟩
  replace bb := Lib.hid (below_then bb.out (Nat.le_refl _) hb)
  clear hb a0 b0 ha0 hb0
  go_wp2_with fail
  refine (one_any hI.out hL.out 5 2 w3 ⟨by decide, by decide⟩ (by unfold IsL; decide)).mono ?_
  rintro e w4 ⟨Ma1, ha1, hp⟩
  obtain ⟨Sa1, na1, nca1, ma1, mca1, aoa1, coa1, rfl, a1, hb⟩ := hp.form
  replace bb := Lib.hid (below_then bb.out (Nat.le_refl _) hb); skip
  replace ha1 := Lib.hid ha1; replace a1 := Lib.hid a1
  clear hp hb
  go_wp2_with fail
  refine (one_any hI.out hL.out 6 3 w4 ⟨by decide, by decide⟩ (by unfold IsL; decide)).mono ?_
  rintro e w5 ⟨Mb1, hb1, hp⟩
  obtain ⟨Sb1, nb1, ncb1, mb1, mcb1, aob1, cob1, rfl, b1, hb⟩ := hp.form
  replace bb := Lib.hid (below_then bb.out (Nat.le_refl _) hb); replace a1 := Lib.hid (a1.out.later hb)
  replace hb1 := Lib.hid hb1; replace b1 := Lib.hid b1
  clear hp hb
  go_wp2_with fail
  refine ((hK.out _ _ 3 _ _ _ _ _ _ w5 a1.out b1.out (one_few ha1.out (by decide)) (one_few hb1.out (by decide)) (by unfold IsL; decide)).mono fun _ _ h => BoolPost.tell (b := false) ⟨fun h => (Bool.false_ne_true h).elim, fun h => absurd h (alike_one2 _ _)⟩ h).mono ?_
  rintro e w6 ⟨rfl, hb⟩
  replace bb := Lib.hid (below_then bb.out (Nat.le_refl _) hb)
  clear hb a1 b1 ha1 hb1
  go_wp2_with fail
  refine (one_any hI.out hL.out 5 0 w6 ⟨by decide, by decide⟩ (by unfold IsL; decide)).mono ?_
  rintro e w7 ⟨Ma2, ha2, hp⟩
  obtain ⟨Sa2, na2, nca2, ma2, mca2, aoa2, coa2, rfl, a2, hb⟩ := hp.form
  replace bb := Lib.hid (below_then bb.out (Nat.le_refl _) hb); skip
  replace ha2 := Lib.hid ha2; replace a2 := Lib.hid a2
  clear hp hb
  go_wp2_with fail
  refine (one_any hI.out hL.out 6 0 w7 ⟨by decide, by decide⟩ (by unfold IsL; decide)).mono ?_
  rintro e w8 ⟨Mb2, hb2, hp⟩
  obtain ⟨Sb2, nb2, ncb2, mb2, mcb2, aob2, cob2, rfl, b2, hb⟩ := hp.form
  replace bb := Lib.hid (below_then bb.out (Nat.le_refl _) hb); replace a2 := Lib.hid (a2.out.later hb)
  replace hb2 := Lib.hid hb2; replace b2 := Lib.hid b2
  clear hp hb
  go_wp2_with fail
  refine ((hK.out _ _ 0 _ _ _ _ _ _ w8 a2.out b2.out (one_few ha2.out (by decide)) (one_few hb2.out (by decide)) (by unfold IsL; decide)).mono fun _ _ h => BoolPost.tell (b := false) ⟨fun h => (Bool.false_ne_true h).elim, fun h => absurd h (alike_one3 ha2.out hb2.out)⟩ h).mono ?_
  rintro e w9 ⟨rfl, hb⟩
  replace bb := Lib.hid (below_then bb.out (Nat.le_refl _) hb)
  clear hb a2 b2 ha2 hb2
  go_wp2_with fail
  go_ret
  exact ⟨rfl, bb.out⟩

end Go.Proofs.Ytlfilpjiepdejaa

namespace Go.Proofs.Ytlfilpjiepdejaa
open Go.RowKit Num

theorem ArrP.drew {w : World} {A : Tree} {c0 c1 c2 : Value} (h : ArrP w A c0 c1 c2) : ArrP w.drew A c0 c1 c2 := h.later (Below.refl _ _).drew

theorem CellR.drew {w : World} {c : CellD} {e : Nat → Value} (h : CellR w c e) : CellR w.drew c e := h.later (Below.refl _ _).drew

theorem bool_of (P : Prop) : ∃ b : Bool, b = true ↔ P := by
  by_cases h : P
  · exact ⟨true, fun _ => h, fun _ => rfl⟩
  · exact ⟨false, fun e => (Bool.false_ne_true e).elim, fun k => absurd k h⟩

end Go.Proofs.Ytlfilpjiepdejaa

namespace Go.Proofs.Ytlfilpjiepdejaa
open Go.RowKit Num

def Awake9C : Prop := ∀ w : World, Calls Try.prog 9 #[] w (Tell (.bool true) w)

set_option maxRecDepth 20000 in
set_option maxHeartbeats 16000000 in
theorem alike9_walk (hA : Awake9C) (hK : AlikeVC) (A B : Tree) (o : Nat) (a0 a1 a2 b0 b1 b2 : Value) (w : World) (ha : ArrP w A a0 a1 a2) (hb : ArrP w B b0 b1 b2) (ho : IsL o) :
    Calls Try.prog 4 #[.agg #[a0, a1, a2], .agg #[b0, b1, b2], .int .u64 o] w (Tell (.bool true) w) := by
  replace hA := Lib.hid hA; replace hK := Lib.hid hK; replace ho := Lib.hid ho
  obtain ⟨Sa, na, nca, ma, mca, aoa, coa, rfl, rfl, rfl⟩ := (ArrP.within _ _ _ _ ha).form
  replace ha := Lib.hid ha
  obtain ⟨Sb, nb, ncb, mb, mcb, aob, cob, rfl, rfl, rfl⟩ := (ArrP.within _ _ _ _ hb).form
  replace hb := Lib.hid hb
  go_enter Try.func4, Try.ntmps4
  go_upto_region 1 with fail
  refine told_wp (fun w' => Below w.heap.size w w' ∧ Box3 w' w.heap.size (.int .u64 Sa) (.slice aoa na nca) (.slice coa ma mca) ∧ Box3 w' (w.heap.size + 1) (.int .u64 Sb) (.slice aob nb ncb) (.slice cob mb mcb))
    ⟨(((Below.refl _ _).alloc (Nat.le_refl _) _).alloc (by first | (simp; done) | (simp; omega)) _), ((Box3.new _ _ _ _ rfl).alloc _), (Box3.new _ _ _ _ (by first | (simp; done) | (simp; omega)))⟩ ?_
  rintro w0 ⟨bb, xa, xb⟩
  replace bb := Lib.hid bb; replace xa := Lib.hid xa; replace xb := Lib.hid xb
  have q0 := xa.out.c0; have q1 := xa.out.c1; have q2 := xa.out.c2
  go_wp2_with fail
  refine (few8_any A _ _ _ w0 (ha.out.later bb.out)).mono ?_
  rintro e w1 ⟨⟨r, rfl, hr⟩, hb⟩
  clear q0 q1 q2
  cases r with
  | false =>
    replace bb := Lib.hid (below_then bb.out (Nat.le_refl _) hb)
    clear hb hr xa xb
    go_wp2_with fail
    refine (hA.out _).mono ?_
    rintro e wz ⟨rfl, hb⟩
    replace bb := Lib.hid (below_then bb.out (Nat.le_refl _) hb)
    clear hb
    go_wp2_with fail
    go_ret
    exact ⟨rfl, bb.out⟩
  | true =>
    have hFa := Lib.hid (hr rfl)
    replace bb := Lib.hid (below_then bb.out (Nat.le_refl _) hb); replace xa := Lib.hid (xa.out.later hb); replace xb := Lib.hid (xb.out.later hb)
    clear hb hr
    have q0 := xb.out.c0; have q1 := xb.out.c1; have q2 := xb.out.c2
    go_wp2_with fail
    refine (few8_any B _ _ _ w1 (hb.out.later bb.out)).mono ?_
    rintro e w2 ⟨⟨r, rfl, hr⟩, hb⟩
    clear q0 q1 q2
    cases r with
    | false =>
      replace bb := Lib.hid (below_then bb.out (Nat.le_refl _) hb)
      clear hb hr xa xb
      go_wp2_with fail
      refine (hA.out _).mono ?_
      rintro e wz ⟨rfl, hb⟩
      replace bb := Lib.hid (below_then bb.out (Nat.le_refl _) hb)
      clear hb
      go_wp2_with fail
      go_ret
      exact ⟨rfl, bb.out⟩
    | true =>
      have hFb := Lib.hid (hr rfl)
      replace bb := Lib.hid (below_then bb.out (Nat.le_refl _) hb); replace xa := Lib.hid (xa.out.later hb); replace xb := Lib.hid (xb.out.later hb)
      clear hb hr
      replace bb := bb.out; replace xa := xa.out; replace xb := xb.out
      have a := ha.out.later bb
      have b := hb.out.later bb
      obtain ⟨bK, hbK⟩ := bool_of (AlikeT A B o)
      replace hbK := Lib.hid hbK
      go_upto_region 3 with fail
      have sa0 := True.intro
      go_region_held3 (fun w' => w'.cell? ⟨w.heap.size, 0, none⟩ = some (.int .u64 Sa) ∧ w'.cell? ⟨w.heap.size, 1, none⟩ = some (.slice aoa na nca) ∧ w'.cell? ⟨w.heap.size, 2, none⟩ = some (.slice coa ma mca) ∧ w'.cell? ⟨w.heap.size + 1, 0, none⟩ = some (.int .u64 Sb) ∧ w'.cell? ⟨w.heap.size + 1, 1, none⟩ = some (.slice aob nb ncb) ∧ w'.cell? ⟨w.heap.size + 1, 2, none⟩ = some (.slice cob mb mcb))
        (first | with_reducible exact ⟨xa.drew.c0, xa.drew.c1, xa.drew.c2, xb.drew.c0, xb.drew.c1, xb.drew.c2⟩ | with_reducible exact ⟨xa.c0, xa.c1, xa.c2, xb.c0, xb.c1, xb.c2⟩ | go_keep)
        (first
        | (go_at_call 16; clear sa0; have bb := bb.drew; have xa := xa.drew; have xb := xb.drew; have a := a.drew; have b := b.drew; refine ((hK.out _ _ o _ _ _ _ _ _ _ a b hFa.out hFb.out ho.out).mono fun _ _ h => BoolPost.tell hbK.out h).mono ?_; rintro e w' ⟨rfl, hb⟩; have bb := below_then bb (Nat.le_refl _) hb; have xa := xa.later hb; have xb := xb.later hb; have a := a.later hb; have b := b.later hb; clear hb; have sa1 := True.intro)
        | (go_at_call 17; clear sa1; refine ((alike9_any o ho.out _ _ _ _ _ _ _ _ _ a b).mono fun _ _ h => BoolPost.tell hbK.out h).mono ?_; rintro e w' ⟨rfl, hb⟩; have bb := below_then bb (Nat.le_refl _) hb; have xa := xa.later hb; have xb := xb.later hb; have a := a.later hb; have b := b.later hb; clear hb; have sa2 := True.intro)
        | (go_at_call 9; clear sa2; refine (hA.out _).mono ?_; rintro e w' ⟨rfl, hb⟩; have bb := below_then bb (Nat.le_refl _) hb; have xa := xa.later hb; have xb := xb.later hb; have a := a.later hb; have b := b.later hb; clear hb; have sa3 := True.intro))
      go_wp2_with fail
      go_ret
      exact ⟨rfl, bb⟩

set_option maxRecDepth 20000 in
set_option maxHeartbeats 16000000 in
theorem goes9_walk (hA : Awake9C) (hK : AlikeVC) (A B G : Tree) (o : Nat) (a0 a1 a2 b0 b1 b2 c0 c1 c2 : Value) (w : World) (ha : ArrP w A a0 a1 a2) (hb : ArrP w B b0 b1 b2) (hc : ArrP w G c0 c1 c2) (ho : IsL o) :
    Calls Try.prog 5 #[.agg #[a0, a1, a2], .agg #[b0, b1, b2], .agg #[c0, c1, c2], .int .u64 o] w (Tell (.bool true) w) := by
  replace hA := Lib.hid hA; replace hK := Lib.hid hK; replace ho := Lib.hid ho
  obtain ⟨Sa, na, nca, ma, mca, aoa, coa, rfl, rfl, rfl⟩ := (ArrP.within _ _ _ _ ha).form
  replace ha := Lib.hid ha
  obtain ⟨Sb, nb, ncb, mb, mcb, aob, cob, rfl, rfl, rfl⟩ := (ArrP.within _ _ _ _ hb).form
  replace hb := Lib.hid hb
  obtain ⟨Sc, nc, ncc, mc, mcc, aoc, coc, rfl, rfl, rfl⟩ := (ArrP.within _ _ _ _ hc).form
  replace hc := Lib.hid hc
  go_enter Try.func5, Try.ntmps5
  go_upto_region 1 with fail
  refine told_wp (fun w' => Below w.heap.size w w' ∧ Box3 w' w.heap.size (.int .u64 Sa) (.slice aoa na nca) (.slice coa ma mca) ∧ Box3 w' (w.heap.size + 1) (.int .u64 Sb) (.slice aob nb ncb) (.slice cob mb mcb) ∧ Box3 w' (w.heap.size + 2) (.int .u64 Sc) (.slice aoc nc ncc) (.slice coc mc mcc))
    ⟨((((Below.refl _ _).alloc (Nat.le_refl _) _).alloc (by first | (simp; done) | (simp; omega)) _).alloc (by first | (simp; done) | (simp; omega)) _), (((Box3.new _ _ _ _ rfl).alloc _).alloc _), ((Box3.new _ _ _ _ (by first | (simp; done) | (simp; omega))).alloc _), (Box3.new _ _ _ _ (by first | (simp; done) | (simp; omega)))⟩ ?_
  rintro w0 ⟨bb, xa, xb, xc⟩
  replace bb := Lib.hid bb; replace xa := Lib.hid xa; replace xb := Lib.hid xb; replace xc := Lib.hid xc
  have q0 := xa.out.c0; have q1 := xa.out.c1; have q2 := xa.out.c2
  go_wp2_with fail
  refine (few8_any A _ _ _ w0 (ha.out.later bb.out)).mono ?_
  rintro e w1 ⟨⟨r, rfl, hr⟩, hb⟩
  clear q0 q1 q2
  cases r with
  | false =>
    replace bb := Lib.hid (below_then bb.out (Nat.le_refl _) hb)
    clear hb hr xa xb xc
    go_wp2_with fail
    refine (hA.out _).mono ?_
    rintro e wz ⟨rfl, hb⟩
    replace bb := Lib.hid (below_then bb.out (Nat.le_refl _) hb)
    clear hb
    go_wp2_with fail
    go_ret
    exact ⟨rfl, bb.out⟩
  | true =>
    have hFa := Lib.hid (hr rfl)
    replace bb := Lib.hid (below_then bb.out (Nat.le_refl _) hb); replace xa := Lib.hid (xa.out.later hb); replace xb := Lib.hid (xb.out.later hb); replace xc := Lib.hid (xc.out.later hb)
    clear hb hr
    have q0 := xb.out.c0; have q1 := xb.out.c1; have q2 := xb.out.c2
    go_wp2_with fail
    refine (few8_any B _ _ _ w1 (hb.out.later bb.out)).mono ?_
    rintro e w2 ⟨⟨r, rfl, hr⟩, hb⟩
    clear q0 q1 q2
    cases r with
    | false =>
      replace bb := Lib.hid (below_then bb.out (Nat.le_refl _) hb)
      clear hb hr xa xb xc
      go_wp2_with fail
      refine (hA.out _).mono ?_
      rintro e wz ⟨rfl, hb⟩
      replace bb := Lib.hid (below_then bb.out (Nat.le_refl _) hb)
      clear hb
      go_wp2_with fail
      go_ret
      exact ⟨rfl, bb.out⟩
    | true =>
      have hFb := Lib.hid (hr rfl)
      replace bb := Lib.hid (below_then bb.out (Nat.le_refl _) hb); replace xa := Lib.hid (xa.out.later hb); replace xb := Lib.hid (xb.out.later hb); replace xc := Lib.hid (xc.out.later hb)
      clear hb hr
      have q0 := xc.out.c0; have q1 := xc.out.c1; have q2 := xc.out.c2
      go_wp2_with fail
      refine (few8_any G _ _ _ w2 (hc.out.later bb.out)).mono ?_
      rintro e w3 ⟨⟨r, rfl, hr⟩, hb⟩
      clear q0 q1 q2
      cases r with
      | false =>
        replace bb := Lib.hid (below_then bb.out (Nat.le_refl _) hb)
        clear hb hr xa xb xc
        go_wp2_with fail
        refine (hA.out _).mono ?_
        rintro e wz ⟨rfl, hb⟩
        replace bb := Lib.hid (below_then bb.out (Nat.le_refl _) hb)
        clear hb
        go_wp2_with fail
        go_ret
        exact ⟨rfl, bb.out⟩
      | true =>
        have hFc := Lib.hid (hr rfl)
        replace bb := Lib.hid (below_then bb.out (Nat.le_refl _) hb); replace xa := Lib.hid (xa.out.later hb); replace xb := Lib.hid (xb.out.later hb); replace xc := Lib.hid (xc.out.later hb)
        clear hb hr
        replace bb := bb.out; replace xa := xa.out; replace xb := xb.out; replace xc := xc.out
        have a := ha.out.later bb
        have b := hb.out.later bb
        have c := hc.out.later bb
        obtain ⟨bK, hbK⟩ := bool_of (AlikeT A B o)
        obtain ⟨bJ, hbJ⟩ := bool_of (AlikeT B G o)
        replace hbK := Lib.hid hbK; replace hbJ := Lib.hid hbJ
        go_upto_region 3 with fail
        have sb0 := True.intro
        go_region_held3 (fun w' => w'.cell? ⟨w.heap.size, 0, none⟩ = some (.int .u64 Sa) ∧ w'.cell? ⟨w.heap.size, 1, none⟩ = some (.slice aoa na nca) ∧ w'.cell? ⟨w.heap.size, 2, none⟩ = some (.slice coa ma mca) ∧ w'.cell? ⟨w.heap.size + 1, 0, none⟩ = some (.int .u64 Sb) ∧ w'.cell? ⟨w.heap.size + 1, 1, none⟩ = some (.slice aob nb ncb) ∧ w'.cell? ⟨w.heap.size + 1, 2, none⟩ = some (.slice cob mb mcb) ∧ w'.cell? ⟨w.heap.size + 2, 0, none⟩ = some (.int .u64 Sc) ∧ w'.cell? ⟨w.heap.size + 2, 1, none⟩ = some (.slice aoc nc ncc) ∧ w'.cell? ⟨w.heap.size + 2, 2, none⟩ = some (.slice coc mc mcc))
          (first | with_reducible exact ⟨xa.drew.c0, xa.drew.c1, xa.drew.c2, xb.drew.c0, xb.drew.c1, xb.drew.c2, xc.drew.c0, xc.drew.c1, xc.drew.c2⟩ | with_reducible exact ⟨xa.c0, xa.c1, xa.c2, xb.c0, xb.c1, xb.c2, xc.c0, xc.c1, xc.c2⟩ | go_keep)
          (first
          | (go_at_call 16; clear sb0; have bb := bb.drew; have xa := xa.drew; have xb := xb.drew; have xc := xc.drew; have a := a.drew; have b := b.drew; have c := c.drew; refine ((hK.out _ _ o _ _ _ _ _ _ _ a b hFa.out hFb.out ho.out).mono fun _ _ h => BoolPost.tell hbK.out h).mono ?_; rintro e w' ⟨rfl, hb⟩; have bb := below_then bb (Nat.le_refl _) hb; have xa := xa.later hb; have xb := xb.later hb; have xc := xc.later hb; have a := a.later hb; have b := b.later hb; have c := c.later hb; clear hb; have sb1 := True.intro)
          | (go_at_call 16; clear sb1; refine ((hK.out _ _ o _ _ _ _ _ _ _ b c hFb.out hFc.out ho.out).mono fun _ _ h => BoolPost.tell hbJ.out h).mono ?_; rintro e w' ⟨rfl, hb⟩; have bb := below_then bb (Nat.le_refl _) hb; have xa := xa.later hb; have xb := xb.later hb; have xc := xc.later hb; have a := a.later hb; have b := b.later hb; have c := c.later hb; clear hb; have sb2 := True.intro))
        have hsy := Lib.hid (show bK = true ↔ AlikeT B A o from hbK.out.trans ⟨alike_symm o A B, alike_symm o B A⟩)
        replace bb := Lib.hid bb; replace xa := Lib.hid xa; replace xb := Lib.hid xb; replace xc := Lib.hid xc; replace a := Lib.hid a; replace b := Lib.hid b; replace c := Lib.hid c
        go_upto_region 4 with fail
        have q0 := xa.out.c0; have q1 := xa.out.c1; have q2 := xa.out.c2
        go_wp2_with fail
        refine ((hK.out _ _ o _ _ _ _ _ _ _ a.out a.out hFa.out hFa.out ho.out).mono fun _ _ h => BoolPost.tell (b := true) ⟨fun _ => alike_refl o _ (ArrP.full _ _ _ _ a.out), fun _ => rfl⟩ h).mono ?_
        rintro e v1 ⟨rfl, hb⟩
        clear q0 q1 q2
        replace bb := Lib.hid (below_then bb.out (Nat.le_refl _) hb); replace xa := Lib.hid (xa.out.later hb); replace xb := Lib.hid (xb.out.later hb); replace xc := Lib.hid (xc.out.later hb); replace a := Lib.hid (a.out.later hb); replace b := Lib.hid (b.out.later hb); replace c := Lib.hid (c.out.later hb)
        clear hb
        have q0 := xb.out.c0; have q1 := xb.out.c1; have q2 := xb.out.c2; have r0 := xa.out.c0; have r1 := xa.out.c1; have r2 := xa.out.c2
        go_wp2_with fail
        refine ((hK.out _ _ o _ _ _ _ _ _ _ b.out a.out hFb.out hFa.out ho.out).mono fun _ _ h => BoolPost.tell hsy.out h).mono ?_
        rintro e v2 ⟨rfl, hb⟩
        clear q0 q1 q2 r0 r1 r2
        replace bb := Lib.hid (below_then bb.out (Nat.le_refl _) hb); replace xa := Lib.hid (xa.out.later hb); replace xb := Lib.hid (xb.out.later hb); replace xc := Lib.hid (xc.out.later hb); replace a := Lib.hid (a.out.later hb); replace b := Lib.hid (b.out.later hb); replace c := Lib.hid (c.out.later hb)
        clear hb
        cases bK <;> cases bJ
        · go_wp2_with fail
          refine (hA.out _).mono ?_
          rintro e wz ⟨rfl, hb⟩
          replace bb := Lib.hid (below_then bb.out (Nat.le_refl _) hb)
          clear hb
          go_wp2_with fail
          go_ret
          exact ⟨rfl, bb.out⟩
        · go_wp2_with fail
          refine (hA.out _).mono ?_
          rintro e wz ⟨rfl, hb⟩
          replace bb := Lib.hid (below_then bb.out (Nat.le_refl _) hb)
          clear hb
          go_wp2_with fail
          go_ret
          exact ⟨rfl, bb.out⟩
        · go_wp2_with fail
          refine (hA.out _).mono ?_
          rintro e wz ⟨rfl, hb⟩
          replace bb := Lib.hid (below_then bb.out (Nat.le_refl _) hb)
          clear hb
          go_wp2_with fail
          go_ret
          exact ⟨rfl, bb.out⟩
        · have q0 := xa.out.c0; have q1 := xa.out.c1; have q2 := xa.out.c2; have r0 := xc.out.c0; have r1 := xc.out.c1; have r2 := xc.out.c2
          go_wp2_with fail
          refine ((hK.out _ _ o _ _ _ _ _ _ _ a.out c.out hFa.out hFc.out ho.out).mono fun _ _ h => BoolPost.tell (b := true) ⟨fun _ => alike_trans o _ _ _ (hbK.out.1 (by first | exact rfl | trivial)) (hbJ.out.1 (by first | exact rfl | trivial)), fun _ => rfl⟩ h).mono ?_
          rintro e v3 ⟨rfl, hb⟩
          clear q0 q1 q2 r0 r1 r2
          replace bb := Lib.hid (below_then bb.out (Nat.le_refl _) hb); replace xa := Lib.hid (xa.out.later hb); replace xb := Lib.hid (xb.out.later hb); replace xc := Lib.hid (xc.out.later hb); replace a := Lib.hid (a.out.later hb); replace b := Lib.hid (b.out.later hb); replace c := Lib.hid (c.out.later hb)
          clear hb
          go_wp2_with fail
          refine (hA.out _).mono ?_
          rintro e wz ⟨rfl, hb⟩
          replace bb := Lib.hid (below_then bb.out (Nat.le_refl _) hb)
          clear hb
          go_wp2_with fail
          go_ret
          exact ⟨rfl, bb.out⟩

set_option maxRecDepth 20000 in
set_option maxHeartbeats 16000000 in
theorem less9_walk (hA : Awake9C) (hK : AlikeVC) (hS : SameAC) (A B : Tree) (o p : Nat) (a0 a1 a2 b0 b1 b2 : Value) (w : World) (ha : ArrP w A a0 a1 a2) (hb : ArrP w B b0 b1 b2) (ho : IsL o) (hp : IsL p) :
    Calls Try.prog 6 #[.agg #[a0, a1, a2], .agg #[b0, b1, b2], .int .u64 o, .int .u64 p] w (Tell (.bool true) w) := by
  replace hA := Lib.hid hA; replace hK := Lib.hid hK; replace hS := Lib.hid hS; replace ho := Lib.hid ho; replace hp := Lib.hid hp
  obtain ⟨Sa, na, nca, ma, mca, aoa, coa, rfl, rfl, rfl⟩ := (ArrP.within _ _ _ _ ha).form
  replace ha := Lib.hid ha
  obtain ⟨Sb, nb, ncb, mb, mcb, aob, cob, rfl, rfl, rfl⟩ := (ArrP.within _ _ _ _ hb).form
  replace hb := Lib.hid hb
  go_enter Try.func6, Try.ntmps6
  go_upto_region 1 with fail
  refine told_wp (fun w' => Below w.heap.size w w' ∧ Box3 w' w.heap.size (.int .u64 Sa) (.slice aoa na nca) (.slice coa ma mca) ∧ Box3 w' (w.heap.size + 1) (.int .u64 Sb) (.slice aob nb ncb) (.slice cob mb mcb))
    ⟨(((Below.refl _ _).alloc (Nat.le_refl _) _).alloc (by first | (simp; done) | (simp; omega)) _), ((Box3.new _ _ _ _ rfl).alloc _), (Box3.new _ _ _ _ (by first | (simp; done) | (simp; omega)))⟩ ?_
  rintro w0 ⟨bb, xa, xb⟩
  replace bb := Lib.hid bb; replace xa := Lib.hid xa; replace xb := Lib.hid xb
  have q0 := xa.out.c0; have q1 := xa.out.c1; have q2 := xa.out.c2
  go_wp2_with fail
  refine (few8_any A _ _ _ w0 (ha.out.later bb.out)).mono ?_
  rintro e w1 ⟨⟨r, rfl, hr⟩, hb⟩
  clear q0 q1 q2
  cases r with
  | false =>
    replace bb := Lib.hid (below_then bb.out (Nat.le_refl _) hb)
    clear hb hr xa xb
    go_wp2_with fail
    refine (hA.out _).mono ?_
    rintro e wz ⟨rfl, hb⟩
    replace bb := Lib.hid (below_then bb.out (Nat.le_refl _) hb)
    clear hb
    go_wp2_with fail
    go_ret
    exact ⟨rfl, bb.out⟩
  | true =>
    have hFa := Lib.hid (hr rfl)
    replace bb := Lib.hid (below_then bb.out (Nat.le_refl _) hb); replace xa := Lib.hid (xa.out.later hb); replace xb := Lib.hid (xb.out.later hb)
    clear hb hr
    have q0 := xb.out.c0; have q1 := xb.out.c1; have q2 := xb.out.c2
    go_wp2_with fail
    refine (few8_any B _ _ _ w1 (hb.out.later bb.out)).mono ?_
    rintro e w2 ⟨⟨r, rfl, hr⟩, hb⟩
    clear q0 q1 q2
    cases r with
    | false =>
      replace bb := Lib.hid (below_then bb.out (Nat.le_refl _) hb)
      clear hb hr xa xb
      go_wp2_with fail
      refine (hA.out _).mono ?_
      rintro e wz ⟨rfl, hb⟩
      replace bb := Lib.hid (below_then bb.out (Nat.le_refl _) hb)
      clear hb
      go_wp2_with fail
      go_ret
      exact ⟨rfl, bb.out⟩
    | true =>
      have hFb := Lib.hid (hr rfl)
      replace bb := Lib.hid (below_then bb.out (Nat.le_refl _) hb); replace xa := Lib.hid (xa.out.later hb); replace xb := Lib.hid (xb.out.later hb)
      clear hb hr
      replace bb := bb.out; replace xa := xa.out; replace xb := xb.out
      have a := ha.out.later bb
      have b := hb.out.later bb
      obtain ⟨bS, hbS⟩ := bool_of (SameT A B)
      obtain ⟨bK, hbK⟩ := bool_of (AlikeT A B o)
      have hsec := Lib.hid (show bS = true ↔ AlikeT A B 18446744073709551615 from hbS.trans (alike_all (fun l => sees_true fun i hi _ => secL_has i hi) A B).symm)
      replace hbK := Lib.hid hbK; replace hbS := Lib.hid hbS
      go_upto_region 3 with fail
      have sc0 := True.intro
      go_region_held3 (fun w' => w'.cell? ⟨w.heap.size, 0, none⟩ = some (.int .u64 Sa) ∧ w'.cell? ⟨w.heap.size, 1, none⟩ = some (.slice aoa na nca) ∧ w'.cell? ⟨w.heap.size, 2, none⟩ = some (.slice coa ma mca) ∧ w'.cell? ⟨w.heap.size + 1, 0, none⟩ = some (.int .u64 Sb) ∧ w'.cell? ⟨w.heap.size + 1, 1, none⟩ = some (.slice aob nb ncb) ∧ w'.cell? ⟨w.heap.size + 1, 2, none⟩ = some (.slice cob mb mcb))
        (first | with_reducible exact ⟨xa.drew.c0, xa.drew.c1, xa.drew.c2, xb.drew.c0, xb.drew.c1, xb.drew.c2⟩ | with_reducible exact ⟨xa.c0, xa.c1, xa.c2, xb.c0, xb.c1, xb.c2⟩ | go_keep)
        (first
        | (go_at_call 16; clear sc0; have bb := bb.drew; have xa := xa.drew; have xb := xb.drew; have a := a.drew; have b := b.drew; refine ((hK.out _ _ 18446744073709551615 _ _ _ _ _ _ _ a b hFa.out hFb.out secL_is).mono fun _ _ h => BoolPost.tell hsec.out h).mono ?_; rintro e w' ⟨rfl, hb⟩; have bb := below_then bb (Nat.le_refl _) hb; have xa := xa.later hb; have xb := xb.later hb; have a := a.later hb; have b := b.later hb; clear hb; have sc1 := True.intro)
        | (go_at_call 18; clear sc1; refine ((hS.out _ _ _ _ _ _ _ _ _ a b hFa.out hFb.out).mono fun _ _ h => BoolPost.tell hbS.out h).mono ?_; rintro e w' ⟨rfl, hb⟩; have bb := below_then bb (Nat.le_refl _) hb; have xa := xa.later hb; have xb := xb.later hb; have a := a.later hb; have b := b.later hb; clear hb; have sc2 := True.intro))
      go_upto_region 5 with fail
      refine told_wp (fun w' => Below w.heap.size w w' ∧ Box3 w' w.heap.size (.int .u64 Sa) (.slice aoa na nca) (.slice coa ma mca) ∧ Box3 w' (w.heap.size + 1) (.int .u64 Sb) (.slice aob nb ncb) (.slice cob mb mcb) ∧ ArrP w' A (.int .u64 Sa) (.slice aoa na nca) (.slice coa ma mca) ∧ ArrP w' B (.int .u64 Sb) (.slice aob nb ncb) (.slice cob mb mcb)) ⟨bb, xa, xb, a, b⟩ ?_
      clear bb xa xb a b
      rintro u0 ⟨bb, xa, xb, a, b⟩
      cases bK
      · have xa := xa.drew; have xb := xb.drew; have a := a.drew; have b := b.drew; have bb := bb.drew
        have hSS : (fun w' => w'.cell? ⟨w.heap.size, 0, none⟩ = some (.int .u64 Sa) ∧ w'.cell? ⟨w.heap.size, 1, none⟩ = some (.slice aoa na nca) ∧ w'.cell? ⟨w.heap.size, 2, none⟩ = some (.slice coa ma mca) ∧ w'.cell? ⟨w.heap.size + 1, 0, none⟩ = some (.int .u64 Sb) ∧ w'.cell? ⟨w.heap.size + 1, 1, none⟩ = some (.slice aob nb ncb) ∧ w'.cell? ⟨w.heap.size + 1, 2, none⟩ = some (.slice cob mb mcb)) u0.drew := ⟨xa.c0, xa.c1, xa.c2, xb.c0, xb.c1, xb.c2⟩
        refine wp_region_held_drew (S := (fun w' => w'.cell? ⟨w.heap.size, 0, none⟩ = some (.int .u64 Sa) ∧ w'.cell? ⟨w.heap.size, 1, none⟩ = some (.slice aoa na nca) ∧ w'.cell? ⟨w.heap.size, 2, none⟩ = some (.slice coa ma mca) ∧ w'.cell? ⟨w.heap.size + 1, 0, none⟩ = some (.int .u64 Sb) ∧ w'.cell? ⟨w.heap.size + 1, 1, none⟩ = some (.slice aob nb ncb) ∧ w'.cell? ⟨w.heap.size + 1, 2, none⟩ = some (.slice cob mb mcb))) (by kernel_rfl) (hSS) (fun _ => ?_)
        refine wpAnyH_take (i := 0) (v := (.agg #[.int .u64 Sa, .slice aoa na nca, .slice coa ma mca])) rfl (by kernel_rfl) (by kernel_rfl) (by kernel_rfl) (fun _ _ _ h => h) (Or.inl ⟨by rfl, ?_⟩) (by assumption) (show wpAnyH _ _ _ _ _ _ _ (Act.put _ (some 25) _) _ from ?_)
        · intro w hSw; (try dsimp only at hSw); go_split_ands; go_simp
        simp only [Act.put, List.setIfInBounds_toArray, List.set_cons_zero, List.set_cons_succ]
        refine wpAnyH_take (i := 1) (v := (.agg #[.int .u64 Sb, .slice aob nb ncb, .slice cob mb mcb])) rfl (by kernel_rfl) (by kernel_rfl) (by kernel_rfl) (fun _ _ _ h => h) (Or.inl ⟨by rfl, ?_⟩) (by assumption) (show wpAnyH _ _ _ _ _ _ _ (Act.put _ (some 26) _) _ from ?_)
        · intro w hSw; (try dsimp only at hSw); go_split_ands; go_simp
        simp only [Act.put, List.setIfInBounds_toArray, List.set_cons_zero, List.set_cons_succ]
        refine wpAnyH_take (i := 2) (v := (.int .u64 o)) rfl (by kernel_rfl) (by kernel_rfl) (by kernel_rfl) (fun _ _ _ h => h) (Or.inl ⟨by rfl, ?_⟩) (by assumption) (show wpAnyH _ _ _ _ _ _ _ (Act.put _ (some 27) _) _ from ?_)
        · intro w hSw; go_simp
        simp only [Act.put, List.setIfInBounds_toArray, List.set_cons_zero, List.set_cons_succ]
        refine wpAnyH_ready (rs := [3]) (by kernel_rfl) (by simp) ?_
        refine AllReadyH.cons rfl (fun Kq hKq => ?_) AllReadyH.nil
        go_simp
        refine ((hK.out _ _ o _ _ _ _ _ _ _ a b hFa.out hFb.out ho.out).mono fun _ _ h => BoolPost.tell hbK.out h).mono ?_
        rintro e w' ⟨rfl, hb⟩
        have bb := below_then bb (Nat.le_refl _) hb; have xa := xa.later hb; have xb := xb.later hb; clear hb
        have hSS : (fun w' => w'.cell? ⟨w.heap.size, 0, none⟩ = some (.int .u64 Sa) ∧ w'.cell? ⟨w.heap.size, 1, none⟩ = some (.slice aoa na nca) ∧ w'.cell? ⟨w.heap.size, 2, none⟩ = some (.slice coa ma mca) ∧ w'.cell? ⟨w.heap.size + 1, 0, none⟩ = some (.int .u64 Sb) ∧ w'.cell? ⟨w.heap.size + 1, 1, none⟩ = some (.slice aob nb ncb) ∧ w'.cell? ⟨w.heap.size + 1, 2, none⟩ = some (.slice cob mb mcb)) w' := ⟨xa.c0, xa.c1, xa.c2, xb.c0, xb.c1, xb.c2⟩
        go_wp2_with fail
        refine hKq.out _ _ hSS (fun _ => ?_)
        clear hKq Kq
        refine wpAnyH_take (i := 4) (v := (.bool true)) rfl (by kernel_rfl) (by kernel_rfl) (by kernel_rfl) (fun _ _ _ h => h) (Or.inl ⟨by rfl, ?_⟩) (by assumption) (show wpAnyH _ _ _ _ _ _ _ (Act.put _ (some 29) _) _ from ?_)
        · intro w hSw; go_simp
        simp only [Act.put, List.setIfInBounds_toArray, List.set_cons_zero, List.set_cons_succ]
        refine wpAnyH_take (i := 5) (v := (.bool true)) rfl (by kernel_rfl) (by kernel_rfl) (by kernel_rfl) (fun _ _ _ h => h) (Or.inl ⟨by rfl, ?_⟩) (by assumption) (show wpAnyH _ _ _ _ _ _ _ (Act.put _ (some 30) _) _ from ?_)
        · intro w hSw; go_simp
        simp only [Act.put, List.setIfInBounds_toArray, List.set_cons_zero, List.set_cons_succ]
        refine wpAnyH_take (i := 6) (v := undef) rfl (by kernel_rfl) (by kernel_rfl) (by kernel_rfl) (fun _ _ _ h => h) (Or.inr ⟨by rfl, rfl⟩) (by assumption) (show wpAnyH _ _ _ _ _ _ _ (Act.put _ (some 31) _) _ from ?_)
        simp only [Act.put, List.setIfInBounds_toArray, List.set_cons_zero, List.set_cons_succ]
        refine wpAnyH_take (i := 7) (v := undef) rfl (by kernel_rfl) (by kernel_rfl) (by kernel_rfl) (fun _ _ _ h => h) (Or.inr ⟨by rfl, rfl⟩) (by assumption) (show wpAnyH _ _ _ _ _ _ _ (Act.put _ (some 32) _) _ from ?_)
        simp only [Act.put, List.setIfInBounds_toArray, List.set_cons_zero, List.set_cons_succ]
        refine wpAnyH_take (i := 8) (v := undef) rfl (by kernel_rfl) (by kernel_rfl) (by kernel_rfl) (fun _ _ _ h => h) (Or.inr ⟨by rfl, rfl⟩) (by assumption) (show wpAnyH _ _ _ _ _ _ _ (Act.put _ (some 33) _) _ from ?_)
        simp only [Act.put, List.setIfInBounds_toArray, List.set_cons_zero, List.set_cons_succ]
        refine wpAnyH_take (i := 9) (v := undef) rfl (by kernel_rfl) (by kernel_rfl) (by kernel_rfl) (fun _ _ _ h => h) (Or.inr ⟨by rfl, rfl⟩) (by assumption) (show wpAnyH _ _ _ _ _ _ _ (Act.put _ (some 34) _) _ from ?_)
        simp only [Act.put, List.setIfInBounds_toArray, List.set_cons_zero, List.set_cons_succ]
        refine wpAnyH_take (i := 10) (v := undef) rfl (by kernel_rfl) (by kernel_rfl) (by kernel_rfl) (fun _ _ _ h => h) (Or.inr ⟨by rfl, rfl⟩) (by assumption) (show wpAnyH _ _ _ _ _ _ _ (Act.put _ (some 35) _) _ from ?_)
        simp only [Act.put, List.setIfInBounds_toArray, List.set_cons_zero, List.set_cons_succ]
        refine wpAnyH_take (i := 11) (v := undef) rfl (by kernel_rfl) (by kernel_rfl) (by kernel_rfl) (fun _ _ _ h => h) (Or.inr ⟨by rfl, rfl⟩) (by assumption) (show wpAnyH _ _ _ _ _ _ _ (Act.put _ (some 36) _) _ from ?_)
        simp only [Act.put, List.setIfInBounds_toArray, List.set_cons_zero, List.set_cons_succ]
        refine wpAnyH_take (i := 12) (v := (.bool true)) rfl (by kernel_rfl) (by kernel_rfl) (by kernel_rfl) (fun _ _ _ h => h) (Or.inl ⟨by rfl, ?_⟩) (by assumption) (show wpAnyH _ _ _ _ _ _ _ (Act.put _ (some 37) _) _ from ?_)
        · intro w hSw; go_simp
        simp only [Act.put, List.setIfInBounds_toArray, List.set_cons_zero, List.set_cons_succ]
        refine wpAnyH_take (i := 13) (v := (.bool true)) rfl (by kernel_rfl) (by kernel_rfl) (by kernel_rfl) (fun _ _ _ h => h) (Or.inl ⟨by rfl, ?_⟩) (by assumption) (show wpAnyH _ _ _ _ _ _ _ (Act.put _ (some 38) _) _ from ?_)
        · intro w hSw; go_simp
        simp only [Act.put, List.setIfInBounds_toArray, List.set_cons_zero, List.set_cons_succ]
        refine wpAnyH_ready (rs := [14]) (by kernel_rfl) (by simp) ?_
        refine AllReadyH.cons rfl (fun Kq hKq => ?_) AllReadyH.nil
        go_simp
        refine (hA.out _).mono ?_
        rintro e w' ⟨rfl, hb⟩
        have bb := below_then bb (Nat.le_refl _) hb; have xa := xa.later hb; have xb := xb.later hb; clear hb
        have hSS : (fun w' => w'.cell? ⟨w.heap.size, 0, none⟩ = some (.int .u64 Sa) ∧ w'.cell? ⟨w.heap.size, 1, none⟩ = some (.slice aoa na nca) ∧ w'.cell? ⟨w.heap.size, 2, none⟩ = some (.slice coa ma mca) ∧ w'.cell? ⟨w.heap.size + 1, 0, none⟩ = some (.int .u64 Sb) ∧ w'.cell? ⟨w.heap.size + 1, 1, none⟩ = some (.slice aob nb ncb) ∧ w'.cell? ⟨w.heap.size + 1, 2, none⟩ = some (.slice cob mb mcb)) w' := ⟨xa.c0, xa.c1, xa.c2, xb.c0, xb.c1, xb.c2⟩
        go_wp2_with fail
        refine hKq.out _ _ hSS (fun _ => ?_)
        clear hKq Kq
        refine wpAnyH_take (i := 15) (v := (.bool true)) rfl (by kernel_rfl) (by kernel_rfl) (by kernel_rfl) (fun _ _ _ h => h) (Or.inl ⟨by rfl, ?_⟩) (by assumption) (show wpAnyH _ _ _ _ _ _ _ (Act.put _ (some 40) _) _ from ?_)
        · intro w hSw; go_simp
        simp only [Act.put, List.setIfInBounds_toArray, List.set_cons_zero, List.set_cons_succ]
        refine wpAnyH_take (i := 16) (v := (.bool true)) rfl (by kernel_rfl) (by kernel_rfl) (by kernel_rfl) (fun _ _ _ h => h) (Or.inl ⟨by rfl, ?_⟩) (by assumption) (show wpAnyH _ _ _ _ _ _ _ (Act.put _ (some 8) _) _ from ?_)
        · intro w hSw; go_simp
        simp only [Act.put, List.setIfInBounds_toArray, List.set_cons_zero, List.set_cons_succ]
        refine wpAnyH_done (by kernel_rfl) ?_ _
        go_wp2_with fail
        go_ret
        exact ⟨rfl, bb⟩
      · have hAK := Lib.hid (alike_less (fun l h => sees_and h) A B (hbK.out.1 (by first | exact rfl | trivial)) : AlikeT A B (andL o p))
        have sd0 := True.intro
        go_region_held3 (fun w' => w'.cell? ⟨w.heap.size, 0, none⟩ = some (.int .u64 Sa) ∧ w'.cell? ⟨w.heap.size, 1, none⟩ = some (.slice aoa na nca) ∧ w'.cell? ⟨w.heap.size, 2, none⟩ = some (.slice coa ma mca) ∧ w'.cell? ⟨w.heap.size + 1, 0, none⟩ = some (.int .u64 Sb) ∧ w'.cell? ⟨w.heap.size + 1, 1, none⟩ = some (.slice aob nb ncb) ∧ w'.cell? ⟨w.heap.size + 1, 2, none⟩ = some (.slice cob mb mcb))
          (first | with_reducible exact ⟨xa.drew.c0, xa.drew.c1, xa.drew.c2, xb.drew.c0, xb.drew.c1, xb.drew.c2⟩ | with_reducible exact ⟨xa.c0, xa.c1, xa.c2, xb.c0, xb.c1, xb.c2⟩ | go_keep)
          (first
          | (go_at_call 16; clear sd0; have bb := bb.drew; have xa := xa.drew; have xb := xb.drew; have a := a.drew; have b := b.drew; refine ((hK.out _ _ o _ _ _ _ _ _ _ a b hFa.out hFb.out ho.out).mono fun _ _ h => BoolPost.tell hbK.out h).mono ?_; rintro e w' ⟨rfl, hb⟩; have bb := below_then bb (Nat.le_refl _) hb; have xa := xa.later hb; have xb := xb.later hb; have a := a.later hb; have b := b.later hb; clear hb; have sd1 := True.intro)
          | (go_at_call 19; clear sd1; refine ((meet01_any o p ho.out hp.out _).mono fun _ _ h => tell_of_same h).mono ?_; rintro e w' ⟨rfl, hb⟩; have bb := below_then bb (Nat.le_refl _) hb; have xa := xa.later hb; have xb := xb.later hb; have a := a.later hb; have b := b.later hb; clear hb; have sd2 := True.intro)
          | (go_at_call 16; clear sd2; refine ((hK.out _ _ _ _ _ _ _ _ _ _ a b hFa.out hFb.out (andL_is ho.out)).mono fun _ _ h => BoolPost.tell (b := true) ⟨fun _ => hAK.out, fun _ => rfl⟩ h).mono ?_; rintro e w' ⟨rfl, hb⟩; have bb := below_then bb (Nat.le_refl _) hb; have xa := xa.later hb; have xb := xb.later hb; have a := a.later hb; have b := b.later hb; clear hb; have sd3 := True.intro)
          | (go_at_call 9; clear sd3; refine (hA.out _).mono ?_; rintro e w' ⟨rfl, hb⟩; have bb := below_then bb (Nat.le_refl _) hb; have xa := xa.later hb; have xb := xb.later hb; have a := a.later hb; have b := b.later hb; clear hb; have sd4 := True.intro))
        go_wp2_with fail
        go_ret
        exact ⟨rfl, bb⟩

end Go.Proofs.Ytlfilpjiepdejaa

namespace Go.Proofs.Ytlfilpjiepdejaa
open Go.RowKit Num

set_option maxRecDepth 20000 in
theorem join_any (a b : Nat) (ha : IsL a) (hb : IsL b) (w : World) : Calls Try.prog 38 #[.int .u64 a, .int .u64 b] w fun e w' => e = .returned (.int .u64 (orL a b : Nat)) ∧ w = w' := by
  have h : bits .or .u64 (a : Int) (b : Int) = ((orL a b : Nat) : Int) := or64 a b ha hb
  go_enter Try.func38, Try.ntmps38
  go_wp2_with fail
  go_ret
  exact ⟨rfl, rfl⟩

/-- One cell without axes. -/
def aloneT : Tree → Bool
  | .leaf => false
  | .arr _ n _ m _ _ _ _ _ _ => decide (n = 0) && decide (m = 1)

theorem fold_one {g h : Nat → Nat → Nat} {s : Nat} : ∀ n, (∀ i x, h i (x + 1) = g i x + 1) → foldN h (s + 1) n = foldN g s n + 1
  | 0, _ => rfl
  | n + 1, e => by
    show h n (foldN h (s + 1) n) = g n (foldN g s n) + 1
    rw [fold_one n e, e]

theorem depth_one {m : Nat} {k : Nat → Nat} {sub : Nat → Nat → Tree} : foldN (fun i s => foldN (fun j s => max s (depthT (sub i j) + 1)) s (k i)) 1 m = foldN (fun i s => foldN (fun j s => max s (depthT (sub i j))) s (k i)) 0 m + 1 :=
  fold_one m fun i x => fold_one (k i) fun j y => by omega

end Go.Proofs.Ytlfilpjiepdejaa

namespace Go.Proofs.Ytlfilpjiepdejaa
open Go.RowKit Num

/-- Cells of memory in a row behind an address. -/
def LiesL (w : World) (ao : Option Addr) (L : List Value) : Prop := L = [] ∨ ∃ b o, ao = some ⟨b, o, none⟩ ∧ ∀ j u, L[j]? = some u → w.cell? ⟨b, o + j, none⟩ = some u

theorem LiesL.below {w w' : World} {ao : Option Addr} {L : List Value} (h : LiesL w ao L) (hb : Below w.heap.size w w') : LiesL w' ao L := by
  rcases h with h | ⟨b, o, e, h⟩
  · exact .inl h
  · exact .inr ⟨b, o, e, fun j u hu => cell_below (h j u hu) hb⟩

theorem wpList_append_lie {P : Program} {w : World} {ops : Array Oper} {rest : List Oper} {o : Oper} {a : Act} {Q : Exit → Act → World → Prop} (hgd : o.guard = none) (s x : Operand) (t : TypeId)
    (ho : o.op = .call { callee := .builtin .append, args := #[s, x], argTypes := #[t, t] })
    (base : Nat) (e : TypeId) (i : TypeInfo) (z : Value) (size bytes : Nat) (ht : P.underlying t = some (.slice e)) (hi : P.info? e = some i) (hz : i.zero = some z) (hsize : i.size = size) (hby : i.bytes = bytes) (hzs : z.cells.size = size) (hsz : 0 < size)
    (v : Value) (n : Nat) (xs : List Value) (hs : a.eval s = v) (hown : w.ownsRow base e size v n xs) (ad : Addr) (m c : Nat) (L : List Value) (hx : a.eval x = .slice (some ad) m c) (hl : L.length = m * size) (hf : LiesL w (some ad) L) (h1 : ∀ u ∈ L, u.oneCell' = true)
    (h63 : n + m ≤ maxLen) (hbytes : (n + m) * bytes ≤ 140737488355328) (hbase : base ≤ w.heap.size)
    (h : ∀ v' w', w'.ownsRow base e size v' (n + m) (xs ++ L) → w.grownBy w' v.ownBlock → wpList P ops Q rest (a.put o.dst v') w') : wpList P ops Q (o :: rest) a w := by
  refine wpList_plain hgd fun K hK => ?_
  have hnews : ∀ j u, L[j]? = some u → w.cell? (ad.add j) = some u := by
    intro j u hu
    rcases hf with h | ⟨b, off, e1, hc⟩
    · rw [h] at hu; simp at hu
    · cases e1
      rw [← hc j u hu, Addr.add_lit]
  obtain ⟨v', w', hr, h2, h3, _⟩ := run_append_own (P := P) w base t o.type e i z size bytes ht hi hz hsize hby hzs hsz v n xs hown ad m c L hl hnews h1 h63 hbytes hbase
  unfold Oper.wp execOp
  simp only [ho, resolve, invoke, builtin, Sem.run_bind, Sem.run_pure, Result.andThen_ok, List.map_toArray, List.map_cons, List.map_nil, hs, hx, hr]
  exact hK _ _ (h v' w' h2 h3)

/-- A row of its own, as a slice. -/
structure Row (w : World) (B : Nat) (E : TypeId) (s : Nat) (ao : Option Addr) (n cap : Nat) (L : List Value) : Prop where
  own : w.ownsRow B E s (.slice ao n cap) n L

theorem Row.later {w w' : World} {B : Nat} {E : TypeId} {s : Nat} {ao : Option Addr} {n cap : Nat} {L : List Value} (h : Row w B E s ao n cap L) (hb : Below w.heap.size w w') : Row w' B E s ao n cap L := ⟨owns_later h.own hb⟩

/-- What Clone tells. -/
def ClonePost (E : TypeId) (s n : Nat) (L : List Value) (w : World) (e : Ending) (w' : World) : Prop :=
  ∃ ao cap, e = .returned (.slice ao n cap) ∧ Row w' w.heap.size E s ao n cap L ∧ Below w.heap.size w w'

theorem clone_post {E : TypeId} {s n : Nat} {L : List Value} {w w' : World} {v : Value} (h : w'.ownsRow w.heap.size E s v n L) (hb : Below w.heap.size w w') : ClonePost E s n L w (.returned v) w' := by
  obtain ⟨ao, cap, rfl, _⟩ := own_form h
  exact ⟨ao, cap, rfl, ⟨h⟩, hb⟩

theorem lies_none {w : World} {L : List Value} (h : LiesL w none L) : L = [] := by
  rcases h with h | ⟨b, o, e, _⟩
  · exact h
  · cases e

theorem infoU32 : (Try.prog.info? 68).map (fun i => (i.zero, i.size, i.bytes)) = some (some (.int .u32 0), 1, 4) := by kernel_rfl

theorem eqlNilU (w : World) (a : Option Addr) (n c n' c' : Nat) : (binOp .eql 27 (.slice a n c) (.slice none n' c')).run Try.prog w = .ok (.bool a.isNone) w :=
  Lib.run_eql_slice_nil w _ _ a n c n' c' Try.underlying27

set_option maxRecDepth 20000 in
set_option maxHeartbeats 1000000 in
theorem cloneU_any (ao : Option Addr) (n nc : Nat) (L : List Value) (w : World) (hn : n ≤ 6000) (hl : L.length = n * 1) (hf : LiesL w ao L) (h1 : ∀ u ∈ L, u.oneCell' = true) :
    Calls Try.prog 51 #[.slice ao n nc] w (ClonePost 68 1 n L w) := by
  obtain ⟨iE, hi0, hz0, hz1, hz2⟩ := info_parts infoU32
  have hq := eqlNilU
  have hl' := Lib.hid hl; have h1' := Lib.hid h1
  cases ao with
  | none =>
    have e := lies_none hf
    have hn0 : n = 0 := by rw [e] at hl; simp at hl; omega
    subst hn0
    have e' := Lib.hid e
    clear hl hf h1 e
    go_enter Try.func51, Try.ntmps51
    go_wp2_with fail
    go_ret
    rw [e'.out]
    exact clone_post (World.ownsRow_nil _ _ _ _) (Below.refl _ _)
  | some ad =>
    have hf' := Lib.hid (hf.below (w' := w.alloc (.cells #[] 68)) ((Below.refl _ _).alloc (Nat.le_refl _) _))
    clear hl hf h1
    go_enter Try.func51, Try.ntmps51
    go_wp2_with (at_builtin; refine wpList_append_lie rfl (.tmp 5) (.tmp 6) 27 rfl w.heap.size 68 iE (.int .u32 0) 1 4 Try.underlying27 hi0 hz0 hz1 hz2 rfl (by decide) _ 0 [] rfl (World.ownsRow_made w #[] 0 (Nat.le_refl _) (Nat.zero_le _) rfl) ad n nc L rfl hl'.out hf'.out h1'.out (by unfold maxLen; omega) (by omega) (by simp) ?_)
    intro v' w1 hown hgr
    have ho1 := Lib.hid hown
    have hb1 := Lib.hid (((Below.refl _ w).alloc (Nat.le_refl _) _).grown hgr (by simp) (by intro k hk; simp [Value.ownBlock] at hk; omega))
    clear hown hgr hq
    go_wp2_with fail
    go_ret
    exact clone_post ho1.out hb1.out

theorem eqlNilI (w : World) (a : Option Addr) (n c n' c' : Nat) : (binOp .eql 23 (.slice a n c) (.slice none n' c')).run Try.prog w = .ok (.bool a.isNone) w :=
  Lib.run_eql_slice_nil w _ _ a n c n' c' Try.underlying23

set_option maxRecDepth 20000 in
set_option maxHeartbeats 1000000 in
theorem cloneI_any (ao : Option Addr) (n nc : Nat) (L : List Value) (w : World) (hn : n ≤ 6000) (hl : L.length = n * 1) (hf : LiesL w ao L) (h1 : ∀ u ∈ L, u.oneCell' = true) :
    Calls Try.prog 26 #[.slice ao n nc] w (ClonePost 3 1 n L w) := by
  obtain ⟨iE, hi0, hz0, hz1, hz2⟩ := info_parts info64
  have hq := eqlNilI
  have hl' := Lib.hid hl; have h1' := Lib.hid h1
  cases ao with
  | none =>
    have e := lies_none hf
    have hn0 : n = 0 := by rw [e] at hl; simp at hl; omega
    subst hn0
    have e' := Lib.hid e
    clear hl hf h1 e
    go_enter Try.func26, Try.ntmps26
    go_wp2_with fail
    go_ret
    rw [e'.out]
    exact clone_post (World.ownsRow_nil _ _ _ _) (Below.refl _ _)
  | some ad =>
    have hf' := Lib.hid (hf.below (w' := w.alloc (.cells #[] 3)) ((Below.refl _ _).alloc (Nat.le_refl _) _))
    clear hl hf h1
    go_enter Try.func26, Try.ntmps26
    go_wp2_with (at_builtin; refine wpList_append_lie rfl (.tmp 5) (.tmp 6) 23 rfl w.heap.size 3 iE (.int .i64 0) 1 8 Try.underlying23 hi0 hz0 hz1 hz2 rfl (by decide) _ 0 [] rfl (World.ownsRow_made w #[] 0 (Nat.le_refl _) (Nat.zero_le _) rfl) ad n nc L rfl hl'.out hf'.out h1'.out (by unfold maxLen; omega) (by omega) (by simp) ?_)
    intro v' w1 hown hgr
    have ho1 := Lib.hid hown
    have hb1 := Lib.hid (((Below.refl _ w).alloc (Nat.le_refl _) _).grown hgr (by simp) (by intro k hk; simp [Value.ownBlock] at hk; omega))
    clear hown hgr hq
    go_wp2_with fail
    go_ret
    exact clone_post ho1.out hb1.out

theorem eqlNilC (w : World) (a : Option Addr) (n c n' c' : Nat) : (binOp .eql 24 (.slice a n c) (.slice none n' c')).run Try.prog w = .ok (.bool a.isNone) w :=
  Lib.run_eql_slice_nil w _ _ a n c n' c' Try.underlying24

set_option maxRecDepth 20000 in
set_option maxHeartbeats 1000000 in
theorem cloneC_any (ao : Option Addr) (n nc : Nat) (L : List Value) (w : World) (hn : n ≤ 6000) (hl : L.length = n * 7) (hf : LiesL w ao L) (h1 : ∀ u ∈ L, u.oneCell' = true) :
    Calls Try.prog 25 #[.slice ao n nc] w (ClonePost 32 7 n L w) := by
  obtain ⟨iE, hi0, hz0, hz1, hz2⟩ := info_parts infoCell
  have hq := eqlNilC
  have hl' := Lib.hid hl; have h1' := Lib.hid h1
  cases ao with
  | none =>
    have e := lies_none hf
    have hn0 : n = 0 := by rw [e] at hl; simp at hl; omega
    subst hn0
    have e' := Lib.hid e
    clear hl hf h1 e
    go_enter Try.func25, Try.ntmps25
    go_wp2_with fail
    go_ret
    rw [e'.out]
    exact clone_post (World.ownsRow_nil _ _ _ _) (Below.refl _ _)
  | some ad =>
    have hf' := Lib.hid (hf.below (w' := w.alloc (.cells #[] 32)) ((Below.refl _ _).alloc (Nat.le_refl _) _))
    clear hl hf h1
    go_enter Try.func25, Try.ntmps25
    go_wp2_with (at_builtin; refine wpList_append_lie rfl (.tmp 5) (.tmp 6) 24 rfl w.heap.size 32 iE (.agg #[.int .u64 0, .int .i64 0, .bool false, .slice none 0 0, .slice none 0 0, .int .i64 0, .slice none 0 0]) 7 104 Try.underlying24 hi0 hz0 hz1 hz2 rfl (by decide) _ 0 [] rfl (World.ownsRow_made w #[] 0 (Nat.le_refl _) (Nat.zero_le _) rfl) ad n nc L rfl hl'.out hf'.out h1'.out (by unfold maxLen; omega) (by omega) (by simp) ?_)
    intro v' w1 hown hgr
    have ho1 := Lib.hid hown
    have hb1 := Lib.hid (((Below.refl _ w).alloc (Nat.le_refl _) _).grown hgr (by simp) (by intro k hk; simp [Value.ownBlock] at hk; omega))
    clear hown hgr hq
    go_wp2_with fail
    go_ret
    exact clone_post ho1.out hb1.out

theorem eqlNilA (w : World) (a : Option Addr) (n c n' c' : Nat) : (binOp .eql 30 (.slice a n c) (.slice none n' c')).run Try.prog w = .ok (.bool a.isNone) w :=
  Lib.run_eql_slice_nil w _ _ a n c n' c' Try.underlying30

set_option maxRecDepth 20000 in
set_option maxHeartbeats 1000000 in
theorem cloneA_any (ao : Option Addr) (n nc : Nat) (L : List Value) (w : World) (hn : n ≤ 6000) (hl : L.length = n * 3) (hf : LiesL w ao L) (h1 : ∀ u ∈ L, u.oneCell' = true) :
    Calls Try.prog 29 #[.slice ao n nc] w (ClonePost 26 3 n L w) := by
  obtain ⟨iE, hi0, hz0, hz1, hz2⟩ := info_parts infoArr
  have hq := eqlNilA
  have hl' := Lib.hid hl; have h1' := Lib.hid h1
  cases ao with
  | none =>
    have e := lies_none hf
    have hn0 : n = 0 := by rw [e] at hl; simp at hl; omega
    subst hn0
    have e' := Lib.hid e
    clear hl hf h1 e
    go_enter Try.func29, Try.ntmps29
    go_wp2_with fail
    go_ret
    rw [e'.out]
    exact clone_post (World.ownsRow_nil _ _ _ _) (Below.refl _ _)
  | some ad =>
    have hf' := Lib.hid (hf.below (w' := w.alloc (.cells #[] 26)) ((Below.refl _ _).alloc (Nat.le_refl _) _))
    clear hl hf h1
    go_enter Try.func29, Try.ntmps29
    go_wp2_with (at_builtin; refine wpList_append_lie rfl (.tmp 5) (.tmp 6) 30 rfl w.heap.size 26 iE (.agg #[.int .u64 0, .slice none 0 0, .slice none 0 0]) 3 56 Try.underlying30 hi0 hz0 hz1 hz2 rfl (by decide) _ 0 [] rfl (World.ownsRow_made w #[] 0 (Nat.le_refl _) (Nat.zero_le _) rfl) ad n nc L rfl hl'.out hf'.out h1'.out (by unfold maxLen; omega) (by omega) (by simp) ?_)
    intro v' w1 hown hgr
    have ho1 := Lib.hid hown
    have hb1 := Lib.hid (((Below.refl _ w).alloc (Nat.le_refl _) _).grown hgr (by simp) (by intro k hk; simp [Value.ownBlock] at hk; omega))
    clear hown hgr hq
    go_wp2_with fail
    go_ret
    exact clone_post ho1.out hb1.out

theorem Sl.lies {w : World} {ao : Option Addr} {n : Nat} {f : Nat → Nat} (h : Sl w ao n f) : LiesL w ao (limbCells f n) := by
  rcases h with h | ⟨b, o, e, h⟩
  · subst h; exact .inl rfl
  · refine .inr ⟨b, o, e, fun j u hu => ?_⟩
    have hj : j < n := by
      have := (List.getElem?_eq_some_iff.1 hu).1
      rwa [limbCells_length] at this
    rw [limbCells_get f n j hj] at hu
    rw [← hu]
    exact h j hj

theorem SlZ.lies {w : World} {ao : Option Addr} {n : Nat} {f : Nat → Int} (h : SlZ w ao n f) : LiesL w ao (intCells f n) := by
  rcases h with h | ⟨b, o, e, h⟩
  · subst h; exact .inl rfl
  · refine .inr ⟨b, o, e, fun j u hu => ?_⟩
    have hj : j < n := by
      have := (List.getElem?_eq_some_iff.1 hu).1
      rwa [intCells_length] at this
    rw [intCells_get f n j hj] at hu
    rw [← hu]
    exact h j hj

theorem intCells_one (f : Nat → Int) (n : Nat) : ∀ u ∈ intCells f n, u.oneCell' = true := by intro u hu; obtain ⟨x, _, rfl⟩ := List.mem_map.1 hu; rfl

theorem Row.slQ {w : World} {B : Nat} {E : TypeId} {ao : Option Addr} {n cap : Nat} {f : Nat → Nat} (h : Row w B E 1 ao n cap (limbCells f n)) (hn : n ≤ 6000) : IsN n cap ∧ SlQ w (B ≤ ·) ao n f := by
  obtain ⟨ao', cap', e, h1, h2, h3⟩ := own_form h.own
  injection e with e1 e2 e3
  subst e1; subst e3
  refine ⟨⟨h1, h2, by omega⟩, ?_⟩
  rcases h3 with h0 | ⟨g, rfl, _, hg, _⟩
  · exact .inl h0
  · refine .inr ⟨g, 0, rfl, hg, fun j hj => ?_⟩
    rw [Nat.zero_add, h.own.cellAt j (by omega), limbCells_get f n j hj]

theorem Row.slzQ {w : World} {B : Nat} {E : TypeId} {ao : Option Addr} {n cap : Nat} {f : Nat → Int} (h : Row w B E 1 ao n cap (intCells f n)) (hn : n ≤ 6000) : IsN n cap ∧ SlZQ w (B ≤ ·) ao n f := by
  obtain ⟨ao', cap', e, h1, h2, h3⟩ := own_form h.own
  injection e with e1 e2 e3
  subst e1; subst e3
  refine ⟨⟨h1, h2, by omega⟩, ?_⟩
  rcases h3 with h0 | ⟨g, rfl, _, hg, _⟩
  · exact .inl h0
  · refine .inr ⟨g, 0, rfl, hg, fun j hj => ?_⟩
    rw [Nat.zero_add, h.own.cellAt j (by omega), intCells_get f n j hj]

theorem heap_set3 {w : World} {B b : Nat} (h : b ≠ B) (u0 u1 u2 : Value) : (((w.setCell ⟨B, 0, none⟩ u0).setCell ⟨B, 1, none⟩ u1).setCell ⟨B, 2, none⟩ u2).heap[b]? = w.heap[b]? := by
  rw [Below.heap_setCell _ _ _ _ h, Below.heap_setCell _ _ _ _ h, Below.heap_setCell _ _ _ _ h]

theorem heap_set7 {w : World} {B b : Nat} (h : b ≠ B) (u0 u1 u2 u3 u4 u5 u6 : Value) : (((((((w.setCell ⟨B, 0, none⟩ u0).setCell ⟨B, 1, none⟩ u1).setCell ⟨B, 2, none⟩ u2).setCell ⟨B, 3, none⟩ u3).setCell ⟨B, 4, none⟩ u4).setCell ⟨B, 5, none⟩ u5).setCell ⟨B, 6, none⟩ u6).heap[b]? = w.heap[b]? := by
  rw [Below.heap_setCell _ _ _ _ h, Below.heap_setCell _ _ _ _ h, Below.heap_setCell _ _ _ _ h, Below.heap_setCell _ _ _ _ h, Below.heap_setCell _ _ _ _ h, Below.heap_setCell _ _ _ _ h, Below.heap_setCell _ _ _ _ h]

/-- A number, told anew. -/
def NumNew (N : NumF) (w : World) (e : Ending) (w' : World) : Prop :=
  ∃ ao ac bo bc, e = .returned (.agg #[.bool N.neg, .slice ao N.an ac, .slice bo N.am bc]) ∧ NumQ w' (w.heap.size ≤ ·) N (.bool N.neg) (.slice ao N.an ac) (.slice bo N.am bc) ∧ Below w.heap.size w w'

set_option maxRecDepth 20000 in
set_option maxHeartbeats 2000000 in
theorem numAnew_any (N : NumF) (c0 c1 c2 : Value) (w : World) (h : NumP w N c0 c1 c2) (ha6 : N.an ≤ 6000) (hb6 : N.am ≤ 6000) :
    Calls Try.prog 42 #[.agg #[c0, c1, c2]] w (NumNew N w) := by
  obtain ⟨rfl, ⟨ao, ac, rfl, hn, hs, hl⟩, ⟨bo, bc, rfl, hm, hs', hl'⟩⟩ := h
  have n1 := hn.1; have n2 := hn.2.1; have m1 := hm.1; have m2 := hm.2.1
  have hsL := Lib.hid hs.lies; have htL := Lib.hid hs'.lies
  have hlim := Lib.hid hl; have hlim' := Lib.hid hl'
  have hx := (Box3.new (w := w) (B := w.heap.size) (.bool N.neg) (.slice ao N.an ac) (.slice bo N.am bc) 29 rfl).alloc (.cells #[.bool false, .slice none 0 0, .slice none 0 0] 29)
  have hy := Box3.new (w := w.alloc (.cells #[.bool N.neg, .slice ao N.an ac, .slice bo N.am bc] 29)) (B := w.heap.size + 1) (.bool false) (.slice none 0 0) (.slice none 0 0) 29 (by simp)
  have hbel := (((Below.refl w.heap.size w).alloc (Nat.le_refl _) (.cells #[.bool N.neg, .slice ao N.an ac, .slice bo N.am bc] 29)).alloc (by simp) (.cells #[.bool false, .slice none 0 0, .slice none 0 0] 29))
  clear hs hs' hl hl' hn hm
  go_enter Try.func42, Try.ntmps42
  go_upto_region 1 with fail
  refine told_wp (fun w' => Below w.heap.size w w' ∧ Box3 w' w.heap.size (.bool N.neg) (.slice ao N.an ac) (.slice bo N.am bc) ∧ Box3 w' (w.heap.size + 1) (.bool false) (.slice none 0 0) (.slice none 0 0)) ⟨hbel, hx, hy⟩ ?_
  clear hbel hx hy
  rintro w2 ⟨bb, x0, y0⟩
  have sa0 := True.intro
  go_region_held3 (fun w' => w'.cell? ⟨w.heap.size, 0, none⟩ = some (.bool N.neg) ∧ w'.cell? ⟨w.heap.size, 1, none⟩ = some (.slice ao N.an ac) ∧ w'.cell? ⟨w.heap.size, 2, none⟩ = some (.slice bo N.am bc))
    (first | with_reducible exact ⟨x0.drew.c0, x0.drew.c1, x0.drew.c2⟩ | with_reducible exact ⟨x0.c0, x0.c1, x0.c2⟩ | go_keep)
    (first
    | (go_at_call 51; clear sa0; have bb := bb.drew; have x0 := x0.drew; have y0 := y0.drew; refine (cloneU_any ao N.an ac (limbCells N.fa N.an) _ ha6 (by rw [limbCells_length, Nat.mul_one]) (hsL.out.below bb) (limbCells_one _ _)).mono ?_; rintro e w' ⟨po, pc, rfl, hr1, hb⟩; have hB1 := y0.lt; have bb := below_then bb (Nat.le_refl _) hb; have x0 := x0.later hb; have y0 := y0.later hb; clear hb; have sa1 := True.intro)
    | (go_at_call 51; clear sa1; refine (cloneU_any bo N.am bc (limbCells N.ga N.am) _ hb6 (by rw [limbCells_length, Nat.mul_one]) (htL.out.below bb) (limbCells_one _ _)).mono ?_; rintro e w' ⟨qo, qc, rfl, hr2, hb2⟩; have hB2 := y0.lt; have bb := below_then bb (Nat.le_refl _) hb2; have x0 := x0.later hb2; have y0 := y0.later hb2; have hr1 := hr1.later hb2; clear hb2; have q0 := y0.c0; have q1 := y0.c1; have q2 := y0.c2; have q3 := y0.fr 0; have q4 := y0.fr 1; have q5 := y0.fr 2; have sa2 := True.intro))
  have z := y0.set (.bool N.neg) (.slice po N.an pc) (.slice qo N.am qc)
  have e0 := z.c0; have e1 := z.c1; have e2 := z.c2
  have hbw := Lib.hid (below_set3 bb (B := w.heap.size + 1) (by omega) (.bool N.neg) (.slice po N.an pc) (.slice qo N.am qc))
  obtain ⟨hp1, hp2⟩ := hr1.slQ ha6
  obtain ⟨hq1, hq2⟩ := hr2.slQ hb6
  have hne := fun b (hb : w.heap.size + 1 < b) => heap_set3 (w := w') (B := w.heap.size + 1) (b := b) (by omega) (.bool N.neg) (.slice po N.an pc) (.slice qo N.am qc)
  have hres := Lib.hid (show NumQ (((w'.setCell ⟨w.heap.size + 1, 0, none⟩ (.bool N.neg)).setCell ⟨w.heap.size + 1, 1, none⟩ (.slice po N.an pc)).setCell ⟨w.heap.size + 1, 2, none⟩ (.slice qo N.am qc)) (w.heap.size ≤ ·) N (.bool N.neg) (.slice po N.an pc) (.slice qo N.am qc) from
    ⟨rfl, ⟨po, pc, rfl, hp1, hp2.keep (fun b hb _ => hne b (by omega)) (fun b hb _ => by omega), hlim.out⟩, ⟨qo, qc, rfl, hq1, hq2.keep (fun b hb _ => hne b (by omega)) (fun b hb _ => by omega), hlim'.out⟩⟩)
  clear z y0 bb hr1 hr2 hp1 hp2 hq1 hq2 hne
  go_wp2_with fail
  refine bodyPost_ret (v := .agg #[.bool N.neg, .slice po N.an pc, .slice qo N.am qc]) (by simp [results, Try.results42, go_sem, e0, e1, e2]) rfl ?_
  exact ⟨_, _, _, _, rfl, hres.out, hbw.out⟩

end Go.Proofs.Ytlfilpjiepdejaa

namespace Go.Proofs.Ytlfilpjiepdejaa
open Go.RowKit Num

/-- Which label another one becomes: the same; none; its join with the one that lies in a block. -/
inductive Md where
  | same
  | join (B l : Nat)

def Md.fn : Md → Value
  | .same => .func (.func 50) #[] #[]
  | .join B _ => .func (.func 37) #[] #[.pointer (some ⟨B, 0, Option.none⟩)]

def Md.g : Md → Nat → Nat
  | .same, x => x
  | .join _ l, x => orL x l

def Md.Env (w : World) : Md → Prop
  | .join B l => w.cell? ⟨B, 0, Option.none⟩ = some (.int .u64 l) ∧ IsL l
  | _ => True

theorem Md.Env.later {w w' : World} {md : Md} (h : md.Env w) (hb : Below w.heap.size w w') : md.Env w' := by
  cases md with
  | join B l => exact ⟨cell_below h.1 hb, h.2⟩
  | _ => trivial

theorem Md.g_is {w : World} {md : Md} (h : md.Env w) {x : Nat} (hx : IsL x) : IsL (md.g x) := by
  cases md <;> first
    | exact hx
    | exact orL_is hx h.2
    | (show (0 : Nat) < 18446744073709551616; decide)

def mapT (g : Nat → Nat) : Tree → Tree
  | .leaf => .leaf
  | .arr S n sh m L K C N k sub => .arr (g S) n sh m (fun i => g (L i)) K C N k (fun i j => mapT g (sub i j))

def mapC (g : Nat → Nat) (c : CellD) : CellD := ⟨g c.L, c.K, c.N, c.C, c.k, fun j => mapT g (c.sub j)⟩

def partsC (c : CellD) : Nat := 1 + c.N.an + c.N.am + sumN (fun j => partsT (c.sub j)) c.k

theorem map_same : ∀ A, mapT Md.same.g A = A := by
  intro A
  induction A with
  | leaf => rfl
  | arr S n sh m L K C N k sub ih =>
    have e : (fun i j => mapT Md.same.g (sub i j)) = sub := funext fun i => funext fun j => ih i j
    show Tree.arr S n sh m (fun i => L i) K C N k (fun i j => mapT Md.same.g (sub i j)) = _
    rw [e]

theorem map_join (B l : Nat) : ∀ A, mapT (Md.join B l).g A = coverT A l false := by
  intro A
  induction A with
  | leaf => rfl
  | arr S n sh m L K C N k sub ih =>
    have e : (fun i j => mapT (Md.join B l).g (sub i j)) = fun i j => coverT (sub i j) l false := funext fun i => funext fun j => ih i j
    show Tree.arr (orL S l) n sh m (fun i => orL (L i) l) K C N k (fun i j => mapT (Md.join B l).g (sub i j)) = _
    rw [e]; rfl

theorem mapC_same (c : CellD) : mapC Md.same.g c = c := by
  have e : (fun j => mapT Md.same.g (c.sub j)) = c.sub := funext fun j => map_same _
  show CellD.mk c.L c.K c.N c.C c.k (fun j => mapT Md.same.g (c.sub j)) = c
  rw [e]

set_option maxRecDepth 20000 in
theorem asItIs_any (x : Nat) (w : World) : Calls Try.prog 50 #[.int .u64 x] w (Tell (.int .u64 (Md.same.g x : Nat)) w) := by
  go_enter Try.func50, Try.ntmps50
  go_wp2_with fail
  go_ret
  exact ⟨rfl, Below.refl _ _⟩

set_option maxRecDepth 20000 in
theorem cover1_any (x B l : Nat) (w : World) (hx : IsL x) (h : (Md.join B l).Env w) : Calls Try.prog 37 #[.int .u64 x, .pointer (some ⟨B, 0, none⟩)] w (Tell (.int .u64 ((Md.join B l).g x : Nat)) w) := by
  have h1 : w.cell? ⟨B, 0, none⟩ = some (.int .u64 l) := h.1
  have hl := Lib.hid h.2
  clear h
  go_enter Try.func37, Try.ntmps37
  go_wp2_with fail
  refine (join_any x l hx hl.out _).mono ?_
  rintro e w' ⟨rfl, rfl⟩
  go_wp2_with fail
  go_ret
  exact ⟨rfl, Below.refl _ _⟩

/-- Cells as they lie, in the blocks that Q tells. -/
def CellRQ (w : World) (Q : Nat → Prop) (c : CellD) (e : Nat → Value) : Prop := CellQ w Q c.L c.K c.N c.C c.k (fun j d0 d1 d2 => ArrQ w Q (c.sub j) d0 d1 d2) e

def CellsQ (w : World) (Q : Nat → Prop) (co : Option Addr) (m : Nat) (cs : Nat → CellD) : Prop :=
  m = 0 ∨ ∃ b o, co = some ⟨b, o, none⟩ ∧ Q b ∧ ∀ i, i < m → ∃ e : Nat → Value, (∀ t, t < 7 → w.cell? ⟨b, o + i * 7 + t, none⟩ = some (e t)) ∧ CellRQ w Q (cs i) e

theorem CellRQ.keep {w w' : World} {Q Q' : Nat → Prop} {c : CellD} {e : Nat → Value} (h : CellRQ w Q c e) (hk : ∀ b, Q b → b < w.heap.size → w'.heap[b]? = w.heap[b]?) (hq : ∀ b, Q b → b < w.heap.size → Q' b) : CellRQ w' Q' c e :=
  CellQ.keep h hk hq fun _ d0 d1 d2 hd => ArrQ.keep hk hq _ d0 d1 d2 hd

def TreeNew (T : Tree) (w : World) (e : Ending) (w' : World) : Prop := ∃ d0 d1 d2, e = .returned (.agg #[d0, d1, d2]) ∧ ArrQ w' (w.heap.size ≤ ·) T d0 d1 d2 ∧ Below w.heap.size w w'

def CellNew (c : CellD) (w : World) (e : Ending) (w' : World) : Prop := ∃ v : Nat → Value, e = .returned (.agg #[v 0, v 1, v 2, v 3, v 4, v 5, v 6]) ∧ CellRQ w' (w.heap.size ≤ ·) c v ∧ Below w.heap.size w w'

def CellsNew (m : Nat) (cs : Nat → CellD) (w : World) (e : Ending) (w' : World) : Prop := ∃ co mc, e = .returned (.slice co m mc) ∧ IsN m mc ∧ CellsQ w' (w.heap.size ≤ ·) co m cs ∧ Below w.heap.size w w'

/-- The seven values of a cell. -/
def seven (v : Nat → Value) : List Value := [v 0, v 1, v 2, v 3, v 4, v 5, v 6]

theorem TreeNew.form {T : Tree} {w w' : World} {e : Ending} (h : TreeNew T w e w') : ∃ (S n nc m mc : Nat) (ao co : Option Addr),
    e = .returned (.agg #[.int .u64 S, .slice ao n nc, .slice co m mc]) ∧ ArrQ w' (w.heap.size ≤ ·) T (.int .u64 S) (.slice ao n nc) (.slice co m mc) ∧ Below w.heap.size w w' := by
  obtain ⟨d0, d1, d2, rfl, hA, hb⟩ := h
  obtain ⟨S, n, nc, m, mc, ao, co, rfl, rfl, rfl⟩ := hA.form
  exact ⟨S, n, nc, m, mc, ao, co, rfl, hA, hb⟩

theorem CellNew.form {c : CellD} {w w' : World} {e : Ending} (h : CellNew c w e w') : ∃ (bo co io : Option Addr) (bc cc kc : Nat),
    e = .returned (.agg #[.int .u64 c.L, .int .i64 c.K, .bool c.N.neg, .slice bo c.N.an bc, .slice co c.N.am cc, .int .i64 c.C, .slice io c.k kc]) ∧
    CellRQ w' (w.heap.size ≤ ·) c (fun q => [Value.int .u64 c.L, .int .i64 c.K, .bool c.N.neg, .slice bo c.N.an bc, .slice co c.N.am cc, .int .i64 c.C, .slice io c.k kc].getD q undef) ∧ Below w.heap.size w w' := by
  obtain ⟨v, rfl, hv, hb⟩ := h
  obtain ⟨h0, hL, h1, hK, ⟨h2, ⟨ao, ac, h3, ha⟩, ⟨bo, bc, h4, hb'⟩⟩, h5, hC, io, kc, h6, hk, hrow⟩ := hv
  rw [h0, h1, h2, h3, h4, h5, h6]
  exact ⟨ao, bo, io, ac, bc, kc, rfl, ⟨rfl, hL, rfl, hK, ⟨rfl, ⟨ao, ac, rfl, ha⟩, ⟨bo, bc, rfl, hb'⟩⟩, rfl, hC, io, kc, rfl, hk, hrow⟩, hb⟩

def ArrBy (md : Md) (A : Tree) : Prop := ∀ (c0 c1 c2 : Value) (w : World), ArrP w A c0 c1 c2 → md.Env w → partsT A ≤ 5000 → Calls Try.prog 36 #[.agg #[c0, c1, c2], md.fn] w (TreeNew (mapT md.g A) w)

def CellBy (md : Md) (c : CellD) : Prop := ∀ (e : Nat → Value) (w : World), CellR w c e → md.Env w → partsC c ≤ 5000 → Calls Try.prog 49 #[.agg #[e 0, e 1, e 2, e 3, e 4, e 5, e 6], md.fn] w (CellNew (mapC md.g c) w)

def CellsBy (md : Md) (m : Nat) (cs : Nat → CellD) : Prop := ∀ (co : Option Addr) (mc : Nat) (w : World), IsN m mc → CellsP w co m cs → md.Env w → m ≤ 5000 → (∀ i, i < m → partsC (cs i) ≤ 5000) → Calls Try.prog 47 #[.slice co m mc, md.fn] w (CellsNew m (fun i => mapC md.g (cs i)) w)

theorem rowsN_at {es : Nat → List Value} {s m : Nat} (hl : ∀ i, i < m → (es i).length = s) (hs : 0 < s) (j : Nat) (hj : j < m * s) : (rowsN es m)[j]? = (es (j / s))[j % s]? := by
  have e : j / s * s + j % s = j := by rw [Nat.mul_comm]; exact Nat.div_add_mod j s
  have hd : j / s < m := by rw [Nat.div_lt_iff_lt_mul hs]; exact hj
  have := rowsN_get m hl (j / s) (j % s) hd (Nat.mod_lt _ hs)
  rwa [e] at this

/-- A row whose first t elements are put anew (as P tells), in blocks of their own. -/
structure Mapped (P : CellF) (w wr : World) (E : TypeId) (s g : Nat) (ao : Option Addr) (m cap t : Nat) (es es0 : Nat → List Value) : Prop where
  row : wr.ownsRow w.heap.size E s (.slice ao m cap) m (rowsN es m)
  len : ∀ x, x < m → (es x).length = s
  done : ∀ x, x < t → P x wr (fun b => w.heap.size ≤ b ∧ b ≠ g) (fun q => (es x).getD q undef)
  todo : ∀ x, t ≤ x → x < m → es x = es0 x
  bel : Below w.heap.size w wr

theorem Mapped.later {P : CellF} (hP : KeepF P) {w wr w' : World} {E : TypeId} {s g : Nat} {ao : Option Addr} {m cap t : Nat} {es es0 : Nat → List Value} (h : Mapped P w wr E s g ao m cap t es es0) (hb : Below wr.heap.size wr w') : Mapped P w w' E s g ao m cap t es es0 :=
  ⟨owns_later h.row hb, h.len, fun x hx => hP x _ _ _ _ _ (h.done x hx) (fun b _ hlt => hb.block b hlt) (fun _ hq _ => hq), h.todo, h.bel.trans (hb.mono h.bel.size)⟩

theorem Mapped.put {P : CellF} (hP : KeepF P) {w wr W : World} {E : TypeId} {s g m cap t : Nat} {es es0 : Nat → List Value} (h : Mapped P w wr E s g (some ⟨g, 0, none⟩) m cap t es es0) (x : List Value) (hx : x.length = s) (hW : ∀ b, b ≠ g → W.heap[b]? = wr.heap[b]?)
    (hown : W.ownsRow w.heap.size E s (.slice (some ⟨g, 0, none⟩) m cap) m (rowsN (putL es t x) m)) (hbel : Below w.heap.size w W) (hnew : P t wr (fun b => w.heap.size ≤ b ∧ b ≠ g) (fun q => x.getD q undef)) :
    Mapped P w W E s g (some ⟨g, 0, none⟩) m cap (t + 1) (putL es t x) es0 := by
  refine ⟨hown, fun y hy => ?_, fun y hy => ?_, fun y hy1 hy2 => ?_, hbel⟩
  · unfold putL; split
    · exact hx
    · exact h.len y hy
  · by_cases e : y = t
    · subst e
      unfold putL; rw [if_pos rfl]
      exact hP y _ _ _ _ _ hnew (fun b hq _ => hW b hq.2) (fun _ hq _ => hq)
    · unfold putL; rw [if_neg e]
      exact hP y _ _ _ _ _ (h.done y (by omega)) (fun b hq _ => hW b hq.2) (fun _ hq _ => hq)
  · unfold putL; rw [if_neg (by omega)]; exact h.todo y (by omega) hy2

theorem Mapped.cell {P : CellF} {w wr : World} {E : TypeId} {s g m cap t : Nat} {es es0 : Nat → List Value} (h : Mapped P w wr E s g (some ⟨g, 0, none⟩) m cap t es es0) {q : Nat} (ht : t < m) (hq : q < s) {v : Value} (hv : (es0 t)[q]? = some v) : wr.cell? ⟨g, t * s + q, none⟩ = some v := by
  have hlt : t * s + q < m * s := by
    have := Nat.mul_le_mul_right s (show t + 1 ≤ m by omega)
    rw [Nat.succ_mul] at this
    omega
  rw [h.row.cellAt _ hlt, rowsN_get m h.len t q ht hq, h.todo t (Nat.le_refl _) ht, hv]

/-- Seven stores into a row are one element put anew. -/
theorem own_put7 {w : World} {B : Nat} {E : TypeId} {g m cap t : Nat} {es : Nat → List Value} (h : w.ownsRow B E 7 (.slice (some ⟨g, 0, none⟩) m cap) m (rowsN es m)) (hl : ∀ i, i < m → (es i).length = 7) (v0 v1 v2 v3 v4 v5 v6 : Value) :
    (((((((w.setCell ⟨g, t * 7, none⟩ v0).setCell ⟨g, t * 7 + 1, none⟩ v1).setCell ⟨g, t * 7 + 2, none⟩ v2).setCell ⟨g, t * 7 + 3, none⟩ v3).setCell ⟨g, t * 7 + 4, none⟩ v4).setCell ⟨g, t * 7 + 5, none⟩ v5).setCell ⟨g, t * 7 + 6, none⟩ v6).ownsRow B E 7 (.slice (some ⟨g, 0, none⟩) m cap) m (rowsN (putL es t [v0, v1, v2, v3, v4, v5, v6]) m) := by
  have k := ((((((((h.stored (t * 7) v0).1).stored (t * 7 + 1) v1).1).stored (t * 7 + 2) v2).1.stored (t * 7 + 3) v3).1.stored (t * 7 + 4) v4).1.stored (t * 7 + 5) v5).1.stored (t * 7 + 6) v6 |>.1
  have e : (((((((rowsN es m).set (t * 7) v0).set (t * 7 + 1) v1).set (t * 7 + 2) v2).set (t * 7 + 3) v3).set (t * 7 + 4) v4).set (t * 7 + 5) v5).set (t * 7 + 6) v6 = rowsN (putL es t [v0, v1, v2, v3, v4, v5, v6]) m := by
    have hl' : ∀ i, i < m → (putL es t [v0, v1, v2, v3, v4, v5, v6] i).length = 7 := fun i hi => by
      unfold putL; split
      · rfl
      · exact hl i hi
    have n1 := rowsN_length m hl; have n2 := rowsN_length m hl'
    refine List.ext_getElem? fun j => ?_
    by_cases hj : j < m * 7
    · rw [rowsN_at hl' (by decide) j hj]
      have ho := rowsN_at hl (by decide) j hj
      have hjl : j < (rowsN es m).length := by omega
      by_cases hd : j / 7 = t
      · have hr : j % 7 = 0 ∨ j % 7 = 1 ∨ j % 7 = 2 ∨ j % 7 = 3 ∨ j % 7 = 4 ∨ j % 7 = 5 ∨ j % 7 = 6 := by omega
        rw [hd]
        unfold putL
        rw [if_pos rfl]
        rcases hr with r | r | r | r | r | r | r
        · have e : j = t * 7 := by omega
          rw [r]; subst e; simp only [List.getElem?_set, List.length_set]; simp [hjl]
        · have e : j = t * 7 + 1 := by omega
          rw [r]; subst e; simp only [List.getElem?_set, List.length_set]; simp [hjl]
        · have e : j = t * 7 + 2 := by omega
          rw [r]; subst e; simp only [List.getElem?_set, List.length_set]; simp [hjl]
        · have e : j = t * 7 + 3 := by omega
          rw [r]; subst e; simp only [List.getElem?_set, List.length_set]; simp [hjl]
        · have e : j = t * 7 + 4 := by omega
          rw [r]; subst e; simp only [List.getElem?_set, List.length_set]; simp [hjl]
        · have e : j = t * 7 + 5 := by omega
          rw [r]; subst e; simp only [List.getElem?_set, List.length_set]; simp [hjl]
        · have e : j = t * 7 + 6 := by omega
          rw [r]; subst e; simp only [List.getElem?_set, List.length_set]; simp [hjl]
      · have hp : putL es t [v0, v1, v2, v3, v4, v5, v6] (j / 7) = es (j / 7) := by unfold putL; rw [if_neg hd]
        rw [hp, ← ho]
        simp only [List.getElem?_set]
        rw [if_neg (by omega), if_neg (by omega), if_neg (by omega), if_neg (by omega), if_neg (by omega), if_neg (by omega), if_neg (by omega)]
    · rw [List.getElem?_eq_none (by simp only [List.length_set]; omega), List.getElem?_eq_none (by omega)]
  rw [e] at k
  exact k

theorem own_put3 {w : World} {B : Nat} {E : TypeId} {g m cap t : Nat} {es : Nat → List Value} (h : w.ownsRow B E 3 (.slice (some ⟨g, 0, none⟩) m cap) m (rowsN es m)) (hl : ∀ i, i < m → (es i).length = 3) (v0 v1 v2 : Value) :
    (((w.setCell ⟨g, t * 3, none⟩ v0).setCell ⟨g, t * 3 + 1, none⟩ v1).setCell ⟨g, t * 3 + 2, none⟩ v2).ownsRow B E 3 (.slice (some ⟨g, 0, none⟩) m cap) m (rowsN (putL es t [v0, v1, v2]) m) := by
  have k := ((((h.stored (t * 3) v0).1).stored (t * 3 + 1) v1).1).stored (t * 3 + 2) v2 |>.1
  have e : (((rowsN es m).set (t * 3) v0).set (t * 3 + 1) v1).set (t * 3 + 2) v2 = rowsN (putL es t [v0, v1, v2]) m := by
    have hl' : ∀ i, i < m → (putL es t [v0, v1, v2] i).length = 3 := fun i hi => by
      unfold putL; split
      · rfl
      · exact hl i hi
    have n1 := rowsN_length m hl; have n2 := rowsN_length m hl'
    refine List.ext_getElem? fun j => ?_
    by_cases hj : j < m * 3
    · rw [rowsN_at hl' (by decide) j hj]
      have ho := rowsN_at hl (by decide) j hj
      have hjl : j < (rowsN es m).length := by omega
      by_cases hd : j / 3 = t
      · have hr : j % 3 = 0 ∨ j % 3 = 1 ∨ j % 3 = 2 := by omega
        rw [hd]
        unfold putL
        rw [if_pos rfl]
        rcases hr with r | r | r
        · have e : j = t * 3 := by omega
          rw [r]; subst e; simp only [List.getElem?_set, List.length_set]; simp [hjl]
        · have e : j = t * 3 + 1 := by omega
          rw [r]; subst e; simp only [List.getElem?_set, List.length_set]; simp [hjl]
        · have e : j = t * 3 + 2 := by omega
          rw [r]; subst e; simp only [List.getElem?_set, List.length_set]; simp [hjl]
      · have hp : putL es t [v0, v1, v2] (j / 3) = es (j / 3) := by unfold putL; rw [if_neg hd]
        rw [hp, ← ho]
        simp only [List.getElem?_set]
        rw [if_neg (by omega), if_neg (by omega), if_neg (by omega)]
    · rw [List.getElem?_eq_none (by simp only [List.length_set]; omega), List.getElem?_eq_none (by omega)]
  rw [e] at k
  exact k

theorem far7 {w : World} {g o b : Nat} (h : b ≠ g) (v0 v1 v2 v3 v4 v5 v6 : Value) :
    (((((((w.setCell ⟨g, o, none⟩ v0).setCell ⟨g, o + 1, none⟩ v1).setCell ⟨g, o + 2, none⟩ v2).setCell ⟨g, o + 3, none⟩ v3).setCell ⟨g, o + 4, none⟩ v4).setCell ⟨g, o + 5, none⟩ v5).setCell ⟨g, o + 6, none⟩ v6).heap[b]? = w.heap[b]? := by
  rw [Below.heap_setCell _ _ _ _ h, Below.heap_setCell _ _ _ _ h, Below.heap_setCell _ _ _ _ h, Below.heap_setCell _ _ _ _ h, Below.heap_setCell _ _ _ _ h, Below.heap_setCell _ _ _ _ h, Below.heap_setCell _ _ _ _ h]

theorem far3 {w : World} {g o b : Nat} (h : b ≠ g) (v0 v1 v2 : Value) : (((w.setCell ⟨g, o, none⟩ v0).setCell ⟨g, o + 1, none⟩ v1).setCell ⟨g, o + 2, none⟩ v2).heap[b]? = w.heap[b]? := by
  rw [Below.heap_setCell _ _ _ _ h, Below.heap_setCell _ _ _ _ h, Below.heap_setCell _ _ _ _ h]

theorem below_far7 {w w' : World} {A g o : Nat} (h : Below A w w') (hg : A ≤ g) (v0 v1 v2 v3 v4 v5 v6 : Value) :
    Below A w (((((((w'.setCell ⟨g, o, none⟩ v0).setCell ⟨g, o + 1, none⟩ v1).setCell ⟨g, o + 2, none⟩ v2).setCell ⟨g, o + 3, none⟩ v3).setCell ⟨g, o + 4, none⟩ v4).setCell ⟨g, o + 5, none⟩ v5).setCell ⟨g, o + 6, none⟩ v6) :=
  ((((((h.setCell (p := ⟨g, o, none⟩) hg v0).setCell (p := ⟨g, o + 1, none⟩) hg v1).setCell (p := ⟨g, o + 2, none⟩) hg v2).setCell (p := ⟨g, o + 3, none⟩) hg v3).setCell (p := ⟨g, o + 4, none⟩) hg v4).setCell (p := ⟨g, o + 5, none⟩) hg v5).setCell (p := ⟨g, o + 6, none⟩) hg v6

theorem below_far3 {w w' : World} {A g o : Nat} (h : Below A w w') (hg : A ≤ g) (v0 v1 v2 : Value) : Below A w (((w'.setCell ⟨g, o, none⟩ v0).setCell ⟨g, o + 1, none⟩ v1).setCell ⟨g, o + 2, none⟩ v2) :=
  ((h.setCell (p := ⟨g, o, none⟩) hg v0).setCell (p := ⟨g, o + 1, none⟩) hg v1).setCell (p := ⟨g, o + 2, none⟩) hg v2

/-- Cells that came, each by its values. -/
theorem CellsP.vals {w : World} {co : Option Addr} {m : Nat} {cs : Nat → CellD} (h : CellsP w co m cs) : ∃ E : Nat → Nat → Value, (∀ i, i < m → CellR w (cs i) (E i)) ∧ LiesL w co (rowsN (fun i => seven (E i)) m) := by
  rcases h with rfl | ⟨b, o, rfl, h⟩
  · exact ⟨fun _ _ => undef, fun i hi => by omega, .inl rfl⟩
  · refine ⟨fun i => if hi : i < m then (h i hi).choose else fun _ => undef, fun i hi => ?_, .inr ⟨b, o, rfl, fun j u hu => ?_⟩⟩
    · simp only [dif_pos hi]; exact (h i hi).choose_spec.2
    · have hl : ∀ i, i < m → ((fun i => seven ((fun i => if hi : i < m then (h i hi).choose else fun _ => undef) i)) i).length = 7 := fun i hi => rfl
      have hj : j < m * 7 := by
        have := (List.getElem?_eq_some_iff.1 hu).1
        rwa [rowsN_length m hl] at this
      rw [rowsN_at hl (by decide) j hj] at hu
      have hd : j / 7 < m := by omega
      have hc := (h (j / 7) hd).choose_spec.1
      have e : o + j = o + j / 7 * 7 + j % 7 := by omega
      rw [e, hc (j % 7) (by omega), ← hu]
      simp only [dif_pos hd]
      have hr : j % 7 = 0 ∨ j % 7 = 1 ∨ j % 7 = 2 ∨ j % 7 = 3 ∨ j % 7 = 4 ∨ j % 7 = 5 ∨ j % 7 = 6 := by omega
      rcases hr with r | r | r | r | r | r | r <;> rw [r] <;> rfl

theorem CellR.ones {w : World} {c : CellD} {e : Nat → Value} (h : CellR w c e) : ∀ u ∈ seven e, u.oneCell' = true := by
  obtain ⟨h0, hL, h1, hK, ⟨h2, ⟨ao, ac, h3, ha⟩, ⟨bo, bc, h4, hb'⟩⟩, h5, hC, io, kc, h6, hk, hrow⟩ := h
  intro u hu
  unfold seven at hu
  rw [h0, h1, h2, h3, h4, h5, h6] at hu
  simp at hu
  rcases hu with rfl | rfl | rfl | rfl | rfl | rfl | rfl <;> rfl

theorem rows_ones {es : Nat → List Value} {m : Nat} (h : ∀ i, i < m → ∀ u ∈ es i, u.oneCell' = true) : ∀ u ∈ rowsN es m, u.oneCell' = true := by
  intro u hu
  obtain ⟨i, hi, hu⟩ := List.mem_flatMap.1 hu
  exact h i (List.mem_range.1 hi) u hu

def cellsF (cs : Nat → CellD) : CellF := fun x w Q e => CellRQ w Q (cs x) e

theorem cellsF_keep (cs : Nat → CellD) : KeepF (cellsF cs) := fun _ _ _ _ _ _ h hk hq => h.keep hk hq

end Go.Proofs.Ytlfilpjiepdejaa

namespace Go.Proofs.Ytlfilpjiepdejaa
open Go.RowKit Num

theorem Mapped.start {P : CellF} {w w' : World} {E : TypeId} {s g : Nat} {ao : Option Addr} {m cap : Nat} {es : Nat → List Value} (h : Row w' w.heap.size E s ao m cap (rowsN es m)) (hl : ∀ i, i < m → (es i).length = s) (hb : Below w.heap.size w w') : Mapped P w w' E s g ao m cap 0 es es :=
  ⟨h.own, hl, fun _ hx => absurd hx (Nat.not_lt_zero _), fun _ _ _ => rfl, hb⟩

theorem Mapped.cellsQ {w wr : World} {E : TypeId} {g m cap : Nat} {ao : Option Addr} {es es0 : Nat → List Value} {cs : Nat → CellD} (h : Mapped (cellsF cs) w wr E 7 g ao m cap m es es0) : CellsQ wr (w.heap.size ≤ ·) ao m cs := by
  obtain ⟨ao', cap', e, _, _, hf⟩ := own_form h.row
  injection e with e1 e2 e3
  subst e1; subst e3
  rcases hf with h0 | ⟨g', rfl, _, hg, _⟩
  · exact .inl h0
  · refine .inr ⟨g', 0, rfl, hg, fun i hi => ?_⟩
    refine ⟨fun q => (es i).getD q undef, fun q hq => ?_, (h.done i hi).keep (fun _ _ _ => rfl) fun _ hq _ => hq.1⟩
    have hlt : i * 7 + q < m * 7 := by omega
    rw [Nat.zero_add, h.row.cellAt (i * 7 + q) hlt, rowsN_get m h.len i q hi hq]
    show (es i)[q]? = some ((es i).getD q undef)
    have := h.len i hi
    rw [List.getD_eq_getElem?_getD, List.getElem?_eq_getElem (by omega)]
    rfl

set_option maxRecDepth 20000 in
set_option maxHeartbeats 4000000 in
theorem cellsBy_of (md : Md) (m : Nat) (cs : Nat → CellD) (hcs : ∀ i, i < m → CellBy md (cs i)) : CellsBy md m cs := by
  intro co mc w hm hc hE h50 hp
  obtain ⟨E, hE1, hE2⟩ := hc.vals
  have m1 := hm.1; have m2 := hm.2.1
  have hcs' := Lib.hid hcs; have hE1' := Lib.hid hE1; have hE2' := Lib.hid hE2; have hp' := Lib.hid hp; have hEnv := Lib.hid hE
  have hl : ∀ i, i < m → ((fun i => seven (E i)) i).length = 7 := fun _ _ => rfl
  obtain ⟨F, hF⟩ : ∃ F, F = md.fn := ⟨_, rfl⟩
  have hF' := Lib.hid hF
  rw [← hF]
  clear hcs hc hE hE1 hE2 hp hF hm
  go_enter Try.func47, Try.ntmps47
  go_wp2_with fail
  refine (cloneC_any co m mc (rowsN (fun i => seven (E i)) m) _ (by omega) (rowsN_length m hl) hE2'.out (rows_ones fun i hi => (hE1'.out i hi).ones)).mono ?_
  rintro e w1 ⟨ao, cap, rfl, hrow, hb1⟩
  obtain ⟨ao', cap', e', hcap1, hcap2, hform⟩ := own_form hrow.own
  injection e' with e1 e2 e3
  subst e1; subst e3
  obtain ⟨g, hg⟩ : ∃ g, m = 0 ∨ (ao = some ⟨g, 0, none⟩ ∧ w.heap.size ≤ g ∧ g < w1.heap.size) := by
    rcases hform with h | ⟨g, h1, _, h2, h3⟩
    · exact ⟨0, .inl h⟩
    · exact ⟨g, .inr ⟨h1, h2, h3⟩⟩
  have hP := cellsF_keep (fun i => mapC md.g (cs i))
  have hM0 := Lib.hid (Mapped.start (P := cellsF (fun i => mapC md.g (cs i))) (g := g) hrow hl hb1)
  have hg' := Lib.hid hg
  have hsz1 := Lib.hid (Nat.le_refl w1.heap.size)
  clear hform hrow hb1 hg
  go_wp2_with fail
  go_loopw [12] (fun i wr => ∃ (t : Nat) (es : Nat → List Value), t ≤ m ∧ i = .int .i64 t ∧ Hid (Mapped (cellsF (fun i => mapC md.g (cs i))) w wr 32 7 g ao m cap t es (fun i => seven (E i))) ∧ Hid (w1.heap.size ≤ wr.heap.size)) (fun i _ => m - (intOfZ i).toNat)
  case atStart => exact ⟨0, _, Nat.zero_le _, rfl, hM0, hsz1⟩
  case round =>
    obtain ⟨t, es, ht, rfl, hM, hsz⟩ := hrel
    clear hM0 hsz1
    by_cases hlt : t < m
    · rcases hg'.out with h0 | ⟨rfl, hg1, hg2⟩
      · omega
      have hR := hE1'.out t hlt
      have hRb := Lib.hid (hR.later hM.out.bel)
      obtain ⟨q0, qL, q1, qK, ⟨q2, ⟨a1, ac, q3, ha, _, _⟩, ⟨b1, bc, q4, hb', _, _⟩⟩, q5, qC, io, kc, q6, hk, _⟩ := hR
      have y0 := hM.out.cell (q := 0) hlt (by decide) (v := E t 0) rfl
      have y1 := hM.out.cell (q := 1) hlt (by decide) (v := E t 1) rfl
      have y2 := hM.out.cell (q := 2) hlt (by decide) (v := E t 2) rfl
      have y3 := hM.out.cell (q := 3) hlt (by decide) (v := E t 3) rfl
      have y4 := hM.out.cell (q := 4) hlt (by decide) (v := E t 4) rfl
      have y5 := hM.out.cell (q := 5) hlt (by decide) (v := E t 5) rfl
      have y6 := hM.out.cell (q := 6) hlt (by decide) (v := E t 6) rfl
      have hv := Lib.hid (show (Value.agg #[.int .u64 (cs t).L, .int .i64 (cs t).K, .bool (cs t).N.neg, .slice a1 (cs t).N.an ac, .slice b1 (cs t).N.am bc, .int .i64 (cs t).C, .slice io (cs t).k kc]) = .agg #[E t 0, E t 1, E t 2, E t 3, E t 4, E t 5, E t 6] from by rw [q0, q1, q2, q3, q4, q5, q6])
      have hq := Lib.hid (And.intro q0 (And.intro q1 (And.intro q2 (And.intro q3 (And.intro q4 (And.intro q5 q6))))))
      rw [q0, Nat.add_zero] at y0; rw [q1] at y1; rw [q2] at y2; rw [q3] at y3; rw [q4] at y4; rw [q5] at y5; rw [q6] at y6
      have hbz := (Below.refl wr.heap.size wr).alloc (Nat.le_refl _) (.cells #[.int .u64 (cs t).L, .int .i64 (cs t).K, .bool (cs t).N.neg, .slice a1 (cs t).N.an ac, .slice b1 (cs t).N.am bc, .int .i64 (cs t).C, .slice io (cs t).k kc] 32)
      have hM2 := hM.out.later hP hbz
      have hR2 := hRb.out.later hbz
      have hx7 := Box7.new (w := wr) (B := wr.heap.size) (.int .u64 (cs t).L) (.int .i64 (cs t).K) (.bool (cs t).N.neg) (.slice a1 (cs t).N.an ac) (.slice b1 (cs t).N.am bc) (.int .i64 (cs t).C) (.slice io (cs t).k kc) 32 rfl
      have hsz2 : w1.heap.size ≤ (wr.alloc (.cells #[.int .u64 (cs t).L, .int .i64 (cs t).K, .bool (cs t).N.neg, .slice a1 (cs t).N.an ac, .slice b1 (cs t).N.am bc, .int .i64 (cs t).C, .slice io (cs t).k kc] 32)).heap.size := Nat.le_trans hsz.out hbz.size
      obtain ⟨U, hU⟩ : ∃ U, U = wr.heap.size := ⟨_, rfl⟩
      clear q0 qL q1 qK q2 q3 q4 q5 qC q6 ha hb' hk
      go_upto_region 5 with fail
      rw [← hU] at hx7 ⊢
      refine told_wp (fun w' => Mapped (cellsF (fun i => mapC md.g (cs i))) w w' 32 7 g (some ⟨g, 0, none⟩) m cap t es (fun i => seven (E i)) ∧ CellR w' (cs t) (E t) ∧ Box7 w' U (.int .u64 (cs t).L) (.int .i64 (cs t).K) (.bool (cs t).N.neg) (.slice a1 (cs t).N.an ac) (.slice b1 (cs t).N.am bc) (.int .i64 (cs t).C) (.slice io (cs t).k kc) ∧ w1.heap.size ≤ w'.heap.size) ⟨hM2, hR2, hx7, hsz2⟩ ?_
      clear hM hRb hM2 hR2 hx7 hsz2 hbz y0 y1 y2 y3 y4 y5 y6 hU hsz
      rintro wa ⟨hMa, hRa, hxa, hsa⟩
      have g0 := hxa.c0; have g1 := hxa.c1; have g2 := hxa.c2; have g3 := hxa.c3; have g4 := hxa.c4; have g5 := hxa.c5; have g6 := hxa.c6
      have hM := Lib.hid hMa
      have hcall := Lib.hid (hcs'.out t hlt (E t) wa hRa (hEnv.out.later (by have := hMa.bel; exact this)) (hp'.out t hlt))
      have hga := Lib.hid (show g < wa.heap.size by omega)
      replace hcall := hcall.out
      rw [← hv.out, ← hF'.out] at hcall
      replace hcall := Lib.hid hcall
      clear hMa hRa hxa
      go_wp2_with fail
      refine hcall.out.mono ?_
      intro e w2 hnew
      obtain ⟨bo, co', io', bc', cc', kc', rfl, hres, hb2⟩ := hnew.form
      have hMb := hM.out.later hP hb2
      obtain ⟨q0, q1, q2, q3, q4, q5, q6⟩ := hq.out
      have y0 := hMb.cell (q := 0) hlt (by decide) (v := E t 0) rfl
      have y1 := hMb.cell (q := 1) hlt (by decide) (v := E t 1) rfl
      have y2 := hMb.cell (q := 2) hlt (by decide) (v := E t 2) rfl
      have y3 := hMb.cell (q := 3) hlt (by decide) (v := E t 3) rfl
      have y4 := hMb.cell (q := 4) hlt (by decide) (v := E t 4) rfl
      have y5 := hMb.cell (q := 5) hlt (by decide) (v := E t 5) rfl
      have y6 := hMb.cell (q := 6) hlt (by decide) (v := E t 6) rfl
      rw [q0, Nat.add_zero] at y0; rw [q1] at y1; rw [q2] at y2; rw [q3] at y3; rw [q4] at y4; rw [q5] at y5; rw [q6] at y6
      clear q0 q1 q2 q3 q4 q5 q6
      have f0 := hMb.row.frozenAt (t * 7); have f1 := hMb.row.frozenAt (t * 7 + 1); have f2 := hMb.row.frozenAt (t * 7 + 2); have f3 := hMb.row.frozenAt (t * 7 + 3)
      have f4 := hMb.row.frozenAt (t * 7 + 4); have f5 := hMb.row.frozenAt (t * 7 + 5); have f6 := hMb.row.frozenAt (t * 7 + 6)
      obtain ⟨X, hX⟩ : ∃ X : List Value, X = [.int .u64 (mapC md.g (cs t)).L, .int .i64 (mapC md.g (cs t)).K, .bool (mapC md.g (cs t)).N.neg, .slice bo (mapC md.g (cs t)).N.an bc', .slice co' (mapC md.g (cs t)).N.am cc', .int .i64 (mapC md.g (cs t)).C, .slice io' (mapC md.g (cs t)).k kc'] := ⟨_, rfl⟩
      have hfar := fun b (hb : b ≠ g) => far7 (w := w2) (o := t * 7) hb (.int .u64 (mapC md.g (cs t)).L) (.int .i64 (mapC md.g (cs t)).K) (.bool (mapC md.g (cs t)).N.neg) (.slice bo (mapC md.g (cs t)).N.an bc') (.slice co' (mapC md.g (cs t)).N.am cc') (.int .i64 (mapC md.g (cs t)).C) (.slice io' (mapC md.g (cs t)).k kc')
      have hput := own_put7 hMb.row hMb.len (t := t) (.int .u64 (mapC md.g (cs t)).L) (.int .i64 (mapC md.g (cs t)).K) (.bool (mapC md.g (cs t)).N.neg) (.slice bo (mapC md.g (cs t)).N.an bc') (.slice co' (mapC md.g (cs t)).N.am cc') (.int .i64 (mapC md.g (cs t)).C) (.slice io' (mapC md.g (cs t)).k kc')
      have hbel2 := below_far7 (o := t * 7) hMb.bel hg1 (.int .u64 (mapC md.g (cs t)).L) (.int .i64 (mapC md.g (cs t)).K) (.bool (mapC md.g (cs t)).N.neg) (.slice bo (mapC md.g (cs t)).N.an bc') (.slice co' (mapC md.g (cs t)).N.am cc') (.int .i64 (mapC md.g (cs t)).C) (.slice io' (mapC md.g (cs t)).k kc')
      have hM3 := Lib.hid (hMb.put hP _ rfl hfar hput hbel2 (hres.keep (fun _ _ _ => rfl) fun b hq _ => ⟨by have := hM.out.bel.size; omega, by have := hga.out; omega⟩))
      have hs3 := Lib.hid (show w1.heap.size ≤ _ from Nat.le_trans hsa (Nat.le_trans hb2.size (by simp [World.setCell] : w2.heap.size ≤ (((((((w2.setCell ⟨g, t * 7, none⟩ (.int .u64 (mapC md.g (cs t)).L)).setCell ⟨g, t * 7 + 1, none⟩ (.int .i64 (mapC md.g (cs t)).K)).setCell ⟨g, t * 7 + 2, none⟩ (.bool (mapC md.g (cs t)).N.neg)).setCell ⟨g, t * 7 + 3, none⟩ (.slice bo (mapC md.g (cs t)).N.an bc')).setCell ⟨g, t * 7 + 4, none⟩ (.slice co' (mapC md.g (cs t)).N.am cc')).setCell ⟨g, t * 7 + 5, none⟩ (.int .i64 (mapC md.g (cs t)).C)).setCell ⟨g, t * 7 + 6, none⟩ (.slice io' (mapC md.g (cs t)).k kc')).heap.size)))
      clear hX X hfar hput hbel2 hres hb2 hMb hM hcall hnew g0 g1 g2 g3 g4 g5 g6
      go_wp2_with fail
      go_roundw
      case rel => exact ⟨t + 1, _, by omega, by go_num, hM3, hs3⟩
      case measure => simp [intOfZ]; omega
    · obtain rfl : t = m := by omega
      have hfin := Lib.hid hM.out.cellsQ
      have hbf := Lib.hid hM.out.bel
      go_wp2_with fail
      go_ret
      exact ⟨_, _, rfl, ⟨hcap1, hcap2, by omega⟩, hfin.out, hbf.out⟩

end Go.Proofs.Ytlfilpjiepdejaa

namespace Go.Proofs.Ytlfilpjiepdejaa
open Go.RowKit Num

def three (v : Nat → Value) : List Value := [v 0, v 1, v 2]

/-- Arrays that came, each by its values. -/
theorem rows_vals {w : World} {ao : Option Addr} {k : Nat} {sub : Nat → Tree} (h : RowP w ao k fun j d0 d1 d2 => ArrP w (sub j) d0 d1 d2) : ∃ E : Nat → Nat → Value, (∀ j, j < k → ArrP w (sub j) (E j 0) (E j 1) (E j 2)) ∧ LiesL w ao (rowsN (fun j => three (E j)) k) := by
  rcases h with rfl | ⟨b, o, rfl, h⟩
  · exact ⟨fun _ _ => undef, fun j hj => by omega, .inl rfl⟩
  · have h' : ∀ j, j < k → ∃ v : Nat → Value, (∀ t, t < 3 → w.cell? ⟨b, o + j * 3 + t, none⟩ = some (v t)) ∧ ArrP w (sub j) (v 0) (v 1) (v 2) := fun j hj => by
      obtain ⟨d0, d1, d2, r0, r1, r2, r3⟩ := h j hj
      refine ⟨fun t => [d0, d1, d2].getD t undef, fun t ht => ?_, r3⟩
      have : t = 0 ∨ t = 1 ∨ t = 2 := by omega
      rcases this with rfl | rfl | rfl
      · exact r0
      · exact r1
      · exact r2
    refine ⟨fun i => if hi : i < k then (h' i hi).choose else fun _ => undef, fun i hi => ?_, .inr ⟨b, o, rfl, fun j u hu => ?_⟩⟩
    · simp only [dif_pos hi]; exact (h' i hi).choose_spec.2
    · have hl : ∀ i, i < k → ((fun i => three ((fun i => if hi : i < k then (h' i hi).choose else fun _ => undef) i)) i).length = 3 := fun i hi => rfl
      have hj : j < k * 3 := by
        have := (List.getElem?_eq_some_iff.1 hu).1
        rwa [rowsN_length k hl] at this
      rw [rowsN_at hl (by decide) j hj] at hu
      have hd : j / 3 < k := by omega
      have hc := (h' (j / 3) hd).choose_spec.1
      have e : o + j = o + j / 3 * 3 + j % 3 := by omega
      rw [e, hc (j % 3) (by omega), ← hu]
      simp only [dif_pos hd]
      have hr : j % 3 = 0 ∨ j % 3 = 1 ∨ j % 3 = 2 := by omega
      rcases hr with r | r | r <;> rw [r] <;> rfl

theorem arr_ones {w : World} {A : Tree} {e : Nat → Value} (h : ArrP w A (e 0) (e 1) (e 2)) : ∀ u ∈ three e, u.oneCell' = true := by
  obtain ⟨S, n, nc, m, mc, ao, co, h0, h1, h2⟩ := (ArrP.within _ _ _ _ h).form
  intro u hu
  unfold three at hu
  rw [h0, h1, h2] at hu
  simp at hu
  rcases hu with rfl | rfl | rfl <;> rfl

def arrsF (T : Nat → Tree) : CellF := fun x w Q e => ArrQ w Q (T x) (e 0) (e 1) (e 2)

theorem arrsF_keep (T : Nat → Tree) : KeepF (arrsF T) := fun _ _ _ _ _ _ h hk hq => ArrQ.keep hk hq _ _ _ _ h

/-- Arrays in a cell, in new blocks. -/
structure InRow (w : World) (B : Nat) (ao : Option Addr) (k : Nat) (T : Nat → Tree) : Prop where
  q : RowQ w (B ≤ ·) ao k fun j d0 d1 d2 => ArrQ w (B ≤ ·) (T j) d0 d1 d2

theorem InRow.later {w w' : World} {B : Nat} {ao : Option Addr} {k : Nat} {T : Nat → Tree} (h : InRow w B ao k T) (hb : Below w.heap.size w w') : InRow w' B ao k T :=
  ⟨h.q.keep (fun b _ hlt => hb.block b hlt) (fun _ hq _ => hq) fun _ _ _ _ hd => ArrQ.keep (fun b _ hlt => hb.block b hlt) (fun _ hq _ => hq) _ _ _ _ hd⟩

theorem Mapped.inRow {w wr : World} {E : TypeId} {g k cap B : Nat} {ao : Option Addr} {es es0 : Nat → List Value} {T : Nat → Tree} (h : Mapped (arrsF T) w wr E 3 g ao k cap k es es0) (hB : B ≤ w.heap.size) : InRow wr B ao k T := by
  obtain ⟨ao', cap', e, _, _, hf⟩ := own_form h.row
  injection e with e1 e2 e3
  subst e1; subst e3
  refine ⟨?_⟩
  rcases hf with h0 | ⟨g', rfl, _, hg, _⟩
  · exact .inl h0
  · refine .inr ⟨g', 0, rfl, by omega, fun i hi => ?_⟩
    have hc : ∀ q, q < 3 → wr.cell? ⟨g', 0 + i * 3 + q, none⟩ = some ((es i).getD q undef) := fun q hq => by
      have hlt : i * 3 + q < k * 3 := by omega
      rw [Nat.zero_add, h.row.cellAt (i * 3 + q) hlt, rowsN_get k h.len i q hi hq]
      have := h.len i hi
      rw [List.getD_eq_getElem?_getD, List.getElem?_eq_getElem (by omega)]
      rfl
    exact ⟨_, _, _, hc 0 (by decide), hc 1 (by decide), hc 2 (by decide), ArrQ.keep (fun _ _ _ => rfl) (fun b hq _ => by have := hq.1; omega) _ _ _ _ (h.done i hi)⟩

theorem cell_res {md : Md} {c : CellD} {w : World} {Q : Nat → Prop} {po qo ro : Option Addr} {pc qc rc : Nat} (hL : IsL (md.g c.L)) (hK : IsZ c.K) (hC : IsZ c.C) (hN : NumQ w Q c.N (.bool c.N.neg) (.slice po c.N.an pc) (.slice qo c.N.am qc)) (hr : IsN c.k rc)
    (hI : RowQ w Q ro c.k fun j d0 d1 d2 => ArrQ w Q (mapT md.g (c.sub j)) d0 d1 d2) : CellRQ w Q (mapC md.g c) (fun q => [Value.int .u64 (md.g c.L : Nat), .int .i64 c.K, .bool c.N.neg, .slice po c.N.an pc, .slice qo c.N.am qc, .int .i64 c.C, .slice ro c.k rc].getD q undef) :=
  ⟨rfl, hL, rfl, hK, hN, rfl, hC, ro, rc, rfl, hr, hI⟩

theorem partsC_sub {c : CellD} {j : Nat} (hj : j < c.k) : partsT (c.sub j) ≤ partsC c := by
  have a : partsT (c.sub j) ≤ sumN (fun j => partsT (c.sub j)) c.k := sumN_one (fun j => partsT (c.sub j)) hj
  unfold partsC
  omega

theorem partsC_here (c : CellD) : c.N.an + c.N.am + c.k ≤ partsC c := by
  have a := sumN_le (f := fun _ => 1) (g := fun j => partsT (c.sub j)) c.k fun j _ => parts_pos _
  rw [sumN_const] at a
  unfold partsC
  omega

set_option maxRecDepth 20000 in
set_option maxHeartbeats 8000000 in
theorem cellBy_of (md : Md) (c : CellD) (hsub : ∀ j, j < c.k → ArrBy md (c.sub j)) : CellBy md c := by
  intro e w hR hE hp
  have hRw := Lib.hid hR
  obtain ⟨q0, qL, q1, qK, hNum, q5, qC, io, kc, q6, hk, hrow⟩ := hR
  have hNw := hNum
  obtain ⟨q2, ⟨a1, ac, q3, ha, _, _⟩, ⟨b1, bc, q4, hb', _, _⟩⟩ := hNum
  rw [q2, q3, q4] at hNw
  rw [q0, q1, q2, q3, q4, q5, q6]
  have k1 := hk.1; have k2 := hk.2.1
  have hph := partsC_here c
  have hna : c.N.an ≤ 6000 := by omega
  have hnb : c.N.am ≤ 6000 := by omega
  have hk5 : c.k ≤ 6000 := by omega
  obtain ⟨E, hE1, hE2⟩ := rows_vals hrow
  have hl : ∀ i, i < c.k → ((fun i => three (E i)) i).length = 3 := fun _ _ => rfl
  have hE1' := Lib.hid hE1; have hE2' := Lib.hid hE2; have hsub' := Lib.hid hsub; have hEnv := Lib.hid hE; have hNw' := Lib.hid hNw
  have hsp := Lib.hid (fun j (hj : j < c.k) => Nat.le_trans (partsC_sub hj) hp)
  have hL0 := Lib.hid qL
  have hgl := Lib.hid (show IsL (md.g c.L) ∧ IsZ c.K ∧ IsZ c.C from ⟨Md.g_is hE qL, qK, qC⟩)
  obtain ⟨F, hF⟩ : ∃ F, F = md.fn := ⟨_, rfl⟩
  have hF' := Lib.hid hF
  rw [← hF]
  have hbel := (((Below.refl w.heap.size w).alloc (Nat.le_refl _) (.cells #[.int .u64 c.L, .int .i64 c.K, .bool c.N.neg, .slice a1 c.N.an ac, .slice b1 c.N.am bc, .int .i64 c.C, .slice io c.k kc] 32)).alloc (by simp) (.cells #[.int .u64 0, .int .i64 0, .bool false, .slice none 0 0, .slice none 0 0, .int .i64 0, .slice none 0 0] 32))
  have hx := (Box7.new (w := w) (B := w.heap.size) (.int .u64 c.L) (.int .i64 c.K) (.bool c.N.neg) (.slice a1 c.N.an ac) (.slice b1 c.N.am bc) (.int .i64 c.C) (.slice io c.k kc) 32 rfl).alloc (.cells #[.int .u64 0, .int .i64 0, .bool false, .slice none 0 0, .slice none 0 0, .int .i64 0, .slice none 0 0] 32)
  have hy := Box7.new (w := w.alloc (.cells #[.int .u64 c.L, .int .i64 c.K, .bool c.N.neg, .slice a1 c.N.an ac, .slice b1 c.N.am bc, .int .i64 c.C, .slice io c.k kc] 32)) (B := w.heap.size + 1) (.int .u64 0) (.int .i64 0) (.bool false) (.slice none 0 0) (.slice none 0 0) (.int .i64 0) (.slice none 0 0) 32 (by simp)
  clear q0 qL q1 qK q2 q3 q4 q5 qC q6 ha hb' hk hrow hsub hE hE1 hE2 hF hNw hRw hp hph
  go_enter Try.func49, Try.ntmps49
  go_upto_region 1 with fail
  refine told_wp (fun w' => Below w.heap.size w w' ∧ Box7 w' w.heap.size (.int .u64 c.L) (.int .i64 c.K) (.bool c.N.neg) (.slice a1 c.N.an ac) (.slice b1 c.N.am bc) (.int .i64 c.C) (.slice io c.k kc) ∧ Box7 w' (w.heap.size + 1) (.int .u64 0) (.int .i64 0) (.bool false) (.slice none 0 0) (.slice none 0 0) (.int .i64 0) (.slice none 0 0)) ⟨hbel, hx, hy⟩ ?_
  clear hbel hx hy
  rintro w2 ⟨b2, x2, y2⟩
  have hb2 := Lib.hid b2; have hx2 := Lib.hid x2; have hy2 := Lib.hid y2
  have hlt2 : w.heap.size + 1 < w2.heap.size := y2.lt
  have g6 := x2.c6
  have hsrc := Lib.hid (hE2'.out.below b2)
  clear b2 x2 y2
  go_wp2_with fail
  refine (cloneA_any io c.k kc (rowsN (fun i => three (E i)) c.k) _ hk5 (rowsN_length c.k hl) hsrc.out (rows_ones fun i hi => arr_ones (hE1'.out i hi))).mono ?_
  rintro e w1 ⟨ro, rc, rfl, hrow, hb1⟩
  obtain ⟨ao', cap', e', hcap1, hcap2, hform⟩ := own_form hrow.own
  injection e' with e1 e2 e3
  subst e1; subst e3
  obtain ⟨g, hg⟩ : ∃ g, c.k = 0 ∨ (ro = some ⟨g, 0, none⟩ ∧ w2.heap.size ≤ g ∧ g < w1.heap.size) := by
    rcases hform with h | ⟨g, h1, _, h2, h3⟩
    · exact ⟨0, .inl h⟩
    · exact ⟨g, .inr ⟨h1, h2, h3⟩⟩
  have hP := arrsF_keep (fun j => mapT md.g (c.sub j))
  have hM0 := Lib.hid (Mapped.start (P := arrsF (fun j => mapT md.g (c.sub j))) (g := g) hrow hl hb1)
  have hg' := Lib.hid hg
  have hsz1 := Lib.hid (Nat.le_refl w1.heap.size)
  have hrn := Lib.hid (show IsN c.k rc from ⟨hcap1, hcap2, by omega⟩)
  obtain ⟨kk, hkk⟩ : ∃ kk, kk = c.k := ⟨_, rfl⟩
  have hkk' := Lib.hid hkk
  rw [← hkk] at hM0 g6 hcap1 hg' k1 ⊢
  clear hform hrow hb1 hg g6 hkk hsrc
  go_wp2_with fail
  go_loopw [13] (fun i wr => ∃ (t : Nat) (es : Nat → List Value), t ≤ kk ∧ i = .int .i64 t ∧ Hid (Mapped (arrsF (fun j => mapT md.g (c.sub j))) w2 wr 26 3 g ro kk rc t es (fun i => three (E i))) ∧ Hid (w1.heap.size ≤ wr.heap.size)) (fun i _ => kk - (intOfZ i).toNat)
  case atStart => exact ⟨0, _, Nat.zero_le _, rfl, hM0, hsz1⟩
  case round =>
    obtain ⟨t, es, ht, rfl, hM, hsz⟩ := hrel
    clear hM0 hsz1
    by_cases hlt : t < kk
    · have hltc := Lib.hid (show t < c.k by rw [← hkk'.out]; exact hlt)
      rcases hg'.out with h0 | ⟨rfl, hg1, hg2⟩
      · omega
      have hA := hE1'.out t hltc.out
      obtain ⟨S', n', nc', m', mc', ao', co', q0, q1, q2⟩ := (ArrP.within _ _ _ _ hA).form
      rw [q0, q1, q2] at hA
      have hAb := Lib.hid (ArrP.below _ _ _ _ (ArrP.below _ _ _ _ hA hb2.out) (hM.out.bel))
      have y0 := hM.out.cell (q := 0) hlt (by decide) (v := E t 0) rfl
      have y1 := hM.out.cell (q := 1) hlt (by decide) (v := E t 1) rfl
      have y2 := hM.out.cell (q := 2) hlt (by decide) (v := E t 2) rfl
      have hq := Lib.hid (And.intro q0 (And.intro q1 q2))
      rw [q0, Nat.add_zero] at y0; rw [q1] at y1; rw [q2] at y2
      have hbz := (Below.refl wr.heap.size wr).alloc (Nat.le_refl _) (.cells #[.int .u64 S', .slice ao' n' nc', .slice co' m' mc'] 26)
      have hM2 := hM.out.later hP hbz
      have hA2 := ArrP.below _ _ _ _ hAb.out hbz
      have hx3 := Box3.new (w := wr) (B := wr.heap.size) (.int .u64 S') (.slice ao' n' nc') (.slice co' m' mc') 26 rfl
      have hsz2 : w1.heap.size ≤ (wr.alloc (.cells #[.int .u64 S', .slice ao' n' nc', .slice co' m' mc'] 26)).heap.size := Nat.le_trans hsz.out hbz.size
      obtain ⟨U, hU⟩ : ∃ U, U = wr.heap.size := ⟨_, rfl⟩
      clear q0 q1 q2 hA
      go_upto_region 5 with fail
      rw [← hU] at hx3 ⊢
      refine told_wp (fun w' => Mapped (arrsF (fun j => mapT md.g (c.sub j))) w2 w' 26 3 g (some ⟨g, 0, none⟩) kk rc t es (fun i => three (E i)) ∧ ArrP w' (c.sub t) (.int .u64 S') (.slice ao' n' nc') (.slice co' m' mc') ∧ Box3 w' U (.int .u64 S') (.slice ao' n' nc') (.slice co' m' mc') ∧ w1.heap.size ≤ w'.heap.size) ⟨hM2, hA2, hx3, hsz2⟩ ?_
      clear hM hAb hM2 hA2 hx3 hsz2 hbz y0 y1 y2 hU hsz
      rintro wa ⟨hMa, hAa, hxa, hsa⟩
      have g0 := hxa.c0; have g1 := hxa.c1; have g2 := hxa.c2
      have hM := Lib.hid hMa
      have hcall := hsub'.out t hltc.out _ _ _ wa hAa ((hEnv.out.later hb2.out).later hMa.bel) (hsp.out t hltc.out)
      have hga := Lib.hid (show g < wa.heap.size by omega)
      rw [← hF'.out] at hcall
      replace hcall := Lib.hid hcall
      clear hMa hAa hxa
      go_wp2_with fail
      refine hcall.out.mono ?_
      intro e w4 hnew
      obtain ⟨S5, n5, nc5, m5, mc5, ao5, co5, rfl, hres, hb4⟩ := hnew.form
      have hMb := hM.out.later hP hb4
      obtain ⟨q0, q1, q2⟩ := hq.out
      have y0 := hMb.cell (q := 0) hlt (by decide) (v := E t 0) rfl
      have y1 := hMb.cell (q := 1) hlt (by decide) (v := E t 1) rfl
      have y2 := hMb.cell (q := 2) hlt (by decide) (v := E t 2) rfl
      rw [q0, Nat.add_zero] at y0; rw [q1] at y1; rw [q2] at y2
      clear q0 q1 q2
      have f0 := hMb.row.frozenAt (t * 3); have f1 := hMb.row.frozenAt (t * 3 + 1); have f2 := hMb.row.frozenAt (t * 3 + 2)
      have hfar := fun b (hb : b ≠ g) => far3 (w := w4) (o := t * 3) hb (.int .u64 (S5 : Nat)) (.slice ao5 n5 nc5) (.slice co5 m5 mc5)
      have hput := own_put3 hMb.row hMb.len (t := t) (.int .u64 (S5 : Nat)) (.slice ao5 n5 nc5) (.slice co5 m5 mc5)
      have hbel2 := below_far3 (o := t * 3) hMb.bel hg1 (.int .u64 (S5 : Nat)) (.slice ao5 n5 nc5) (.slice co5 m5 mc5)
      have hM3 := Lib.hid (hMb.put hP _ rfl hfar hput hbel2 (ArrQ.keep (Q' := fun b => w2.heap.size ≤ b ∧ b ≠ g) (fun _ _ _ => rfl) (fun b hq _ => ⟨by have := hM.out.bel.size; omega, by have := hga.out; omega⟩) _ _ _ _ hres))
      have hs3 := Lib.hid (show w1.heap.size ≤ _ from Nat.le_trans hsa (Nat.le_trans hb4.size (by simp [World.setCell] : w4.heap.size ≤ (((w4.setCell ⟨g, t * 3, none⟩ (.int .u64 (S5 : Nat))).setCell ⟨g, t * 3 + 1, none⟩ (.slice ao5 n5 nc5)).setCell ⟨g, t * 3 + 2, none⟩ (.slice co5 m5 mc5)).heap.size)))
      clear hfar hput hbel2 hres hb4 hMb hM hcall hnew g0 g1 g2
      go_wp2_with fail
      go_roundw
      case rel => exact ⟨t + 1, _, by omega, by go_num, hM3, hs3⟩
      case measure => simp [intOfZ]; omega
    · obtain rfl : t = kk := by omega
      have hmb := hM.out.bel
      have hI0 := hM.out.inRow (B := w.heap.size + 2) (by omega)
      have hx3 := hx2.out.later hmb
      have hy3 := hy2.out.later hmb
      have hb3 := hb2.out.trans (hmb.mono (by omega))
      have hN3 := (hNw'.out.below hb2.out).below hmb
      have hE3 := (hEnv.out.later hb2.out).later hmb
      rw [hkk'.out] at hI0
      obtain rfl := hkk'.out
      go_upto_region 7 with fail
      refine told_wp (fun w' => Below w.heap.size w w' ∧ Box7 w' w.heap.size (.int .u64 c.L) (.int .i64 c.K) (.bool c.N.neg) (.slice a1 c.N.an ac) (.slice b1 c.N.am bc) (.int .i64 c.C) (.slice io c.k kc) ∧ Box7 w' (w.heap.size + 1) (.int .u64 0) (.int .i64 0) (.bool false) (.slice none 0 0) (.slice none 0 0) (.int .i64 0) (.slice none 0 0) ∧ NumP w' c.N (.bool c.N.neg) (.slice a1 c.N.an ac) (.slice b1 c.N.am bc) ∧ InRow w' (w.heap.size + 2) ro c.k (fun j => mapT md.g (c.sub j)) ∧ md.Env w') ⟨hb3, hx3, hy3, hN3, hI0, hE3⟩ ?_
      clear hM hmb hI0 hx3 hy3 hb3 hN3 hE3 hsz
      rintro w3 ⟨bb, x, y, hN, hI, hEv⟩
      cases md with
      | same =>
        obtain rfl : F = .func (.func 50) #[] #[] := hF'.out
        have ssamex0 := True.intro
        go_region_held3 (fun w' => w'.cell? ⟨w.heap.size, 0, none⟩ = some (.int .u64 c.L) ∧ w'.cell? ⟨w.heap.size, 1, none⟩ = some (.int .i64 c.K) ∧ w'.cell? ⟨w.heap.size, 2, none⟩ = some (.bool c.N.neg) ∧ w'.cell? ⟨w.heap.size, 3, none⟩ = some (.slice a1 c.N.an ac) ∧ w'.cell? ⟨w.heap.size, 4, none⟩ = some (.slice b1 c.N.am bc) ∧ w'.cell? ⟨w.heap.size, 5, none⟩ = some (.int .i64 c.C))
          (first | with_reducible exact ⟨x.drew.c0, x.drew.c1, x.drew.c2, x.drew.c3, x.drew.c4, x.drew.c5⟩ | with_reducible exact ⟨x.c0, x.c1, x.c2, x.c3, x.c4, x.c5⟩ | go_keep)
          (first
          | (go_at_call 50; clear ssamex0; have hd := (Below.refl w3.heap.size w3).drew; have bb := bb.drew; have x := x.drew; have y := y.drew; have hN := hN.below hd; have hI := hI.later hd; have hEv := hEv.later hd; clear hd; refine (asItIs_any c.L _).mono ?_; rintro e w' ⟨rfl, hb⟩; have bb := below_then bb (Nat.le_refl _) hb; have x := x.later hb; have y := y.later hb; have hN := hN.below hb; have hI := hI.later hb; clear hb hEv; have ssamex1 := True.intro)
          | (go_at_call 42; clear ssamex1; have hlt1 := y.lt; refine (numAnew_any c.N _ _ _ _ hN hna hnb).mono ?_; rintro e w' ⟨po, pc, qo, qc, rfl, hQ, hb⟩; have bb := below_then bb (Nat.le_refl _) hb; have x := x.later hb; have y := y.later hb; have hI := hI.later hb; clear hb hN; have d0 := y.c0; have d1 := y.c1; have d2 := y.c2; have d3 := y.c3; have d4 := y.c4; have d5 := y.c5; have d6 := y.c6; have f0 := y.fr 0; have f1 := y.fr 1; have f2 := y.fr 2; have f3 := y.fr 3; have f4 := y.fr 4; have f5 := y.fr 5; have f6 := y.fr 6; have ssamex2 := True.intro))
        have z := y.setAll (.int .u64 (Md.same.g c.L : Nat)) (.int .i64 c.K) (.bool c.N.neg) (.slice po c.N.an pc) (.slice qo c.N.am qc) (.int .i64 c.C) (.slice ro c.k rc)
        have e0 := z.c0; have e1 := z.c1; have e2 := z.c2; have e3 := z.c3; have e4 := z.c4; have e5 := z.c5; have e6 := z.c6
        have hbw := Lib.hid (below_setAll bb (B := w.heap.size + 1) (by omega) (.int .u64 (Md.same.g c.L : Nat)) (.int .i64 c.K) (.bool c.N.neg) (.slice po c.N.an pc) (.slice qo c.N.am qc) (.int .i64 c.C) (.slice ro c.k rc))
        have hne := fun b (hb : w.heap.size + 2 ≤ b) => heap_set7 (w := w') (B := w.heap.size + 1) (b := b) (by omega) (.int .u64 (Md.same.g c.L : Nat)) (.int .i64 c.K) (.bool c.N.neg) (.slice po c.N.an pc) (.slice qo c.N.am qc) (.int .i64 c.C) (.slice ro c.k rc)
        have hres := Lib.hid (cell_res (md := .same) hgl.out.1 hgl.out.2.1 hgl.out.2.2 (hQ.keep (Q' := (w.heap.size ≤ ·)) (fun b hb _ => hne b (by omega)) (fun b hb _ => by omega)) hrn.out (hI.q.keep (Q' := (w.heap.size ≤ ·)) (fun b hb _ => hne b hb) (fun b hb _ => by omega) (fun j d0 d1 d2 hd => ArrQ.keep (fun b hb _ => hne b hb) (fun b hb _ => by omega) _ _ _ _ hd)))
        clear z x y bb hI hQ hne
        go_wp2_with fail
        refine bodyPost_ret (v := .agg #[.int .u64 (Md.same.g c.L : Nat), .int .i64 c.K, .bool c.N.neg, .slice po c.N.an pc, .slice qo c.N.am qc, .int .i64 c.C, .slice ro c.k rc]) (by simp [results, Try.results49, go_sem, e0, e1, e2, e3, e4, e5, e6]) rfl ?_
        exact ⟨fun q => [Value.int .u64 (Md.same.g c.L : Nat), .int .i64 c.K, .bool c.N.neg, .slice po c.N.an pc, .slice qo c.N.am qc, .int .i64 c.C, .slice ro c.k rc].getD q undef, rfl, hres.out, hbw.out⟩
      | join B l =>
        obtain rfl : F = .func (.func 37) #[] #[.pointer (some ⟨B, 0, none⟩)] := hF'.out
        have sjoinx0 := True.intro
        go_region_held3 (fun w' => w'.cell? ⟨w.heap.size, 0, none⟩ = some (.int .u64 c.L) ∧ w'.cell? ⟨w.heap.size, 1, none⟩ = some (.int .i64 c.K) ∧ w'.cell? ⟨w.heap.size, 2, none⟩ = some (.bool c.N.neg) ∧ w'.cell? ⟨w.heap.size, 3, none⟩ = some (.slice a1 c.N.an ac) ∧ w'.cell? ⟨w.heap.size, 4, none⟩ = some (.slice b1 c.N.am bc) ∧ w'.cell? ⟨w.heap.size, 5, none⟩ = some (.int .i64 c.C))
          (first | with_reducible exact ⟨x.drew.c0, x.drew.c1, x.drew.c2, x.drew.c3, x.drew.c4, x.drew.c5⟩ | with_reducible exact ⟨x.c0, x.c1, x.c2, x.c3, x.c4, x.c5⟩ | go_keep)
          (first
          | (go_at_call 37; clear sjoinx0; have hd := (Below.refl w3.heap.size w3).drew; have bb := bb.drew; have x := x.drew; have y := y.drew; have hN := hN.below hd; have hI := hI.later hd; have hEv := hEv.later hd; clear hd; refine (cover1_any c.L B l _ hL0.out hEv).mono ?_; rintro e w' ⟨rfl, hb⟩; have bb := below_then bb (Nat.le_refl _) hb; have x := x.later hb; have y := y.later hb; have hN := hN.below hb; have hI := hI.later hb; clear hb hEv; have sjoinx1 := True.intro)
          | (go_at_call 42; clear sjoinx1; have hlt1 := y.lt; refine (numAnew_any c.N _ _ _ _ hN hna hnb).mono ?_; rintro e w' ⟨po, pc, qo, qc, rfl, hQ, hb⟩; have bb := below_then bb (Nat.le_refl _) hb; have x := x.later hb; have y := y.later hb; have hI := hI.later hb; clear hb hN; have d0 := y.c0; have d1 := y.c1; have d2 := y.c2; have d3 := y.c3; have d4 := y.c4; have d5 := y.c5; have d6 := y.c6; have f0 := y.fr 0; have f1 := y.fr 1; have f2 := y.fr 2; have f3 := y.fr 3; have f4 := y.fr 4; have f5 := y.fr 5; have f6 := y.fr 6; have sjoinx2 := True.intro))
        have z := y.setAll (.int .u64 ((Md.join B l).g c.L : Nat)) (.int .i64 c.K) (.bool c.N.neg) (.slice po c.N.an pc) (.slice qo c.N.am qc) (.int .i64 c.C) (.slice ro c.k rc)
        have e0 := z.c0; have e1 := z.c1; have e2 := z.c2; have e3 := z.c3; have e4 := z.c4; have e5 := z.c5; have e6 := z.c6
        have hbw := Lib.hid (below_setAll bb (B := w.heap.size + 1) (by omega) (.int .u64 ((Md.join B l).g c.L : Nat)) (.int .i64 c.K) (.bool c.N.neg) (.slice po c.N.an pc) (.slice qo c.N.am qc) (.int .i64 c.C) (.slice ro c.k rc))
        have hne := fun b (hb : w.heap.size + 2 ≤ b) => heap_set7 (w := w') (B := w.heap.size + 1) (b := b) (by omega) (.int .u64 ((Md.join B l).g c.L : Nat)) (.int .i64 c.K) (.bool c.N.neg) (.slice po c.N.an pc) (.slice qo c.N.am qc) (.int .i64 c.C) (.slice ro c.k rc)
        have hres := Lib.hid (cell_res (md := .join B l) hgl.out.1 hgl.out.2.1 hgl.out.2.2 (hQ.keep (Q' := (w.heap.size ≤ ·)) (fun b hb _ => hne b (by omega)) (fun b hb _ => by omega)) hrn.out (hI.q.keep (Q' := (w.heap.size ≤ ·)) (fun b hb _ => hne b hb) (fun b hb _ => by omega) (fun j d0 d1 d2 hd => ArrQ.keep (fun b hb _ => hne b hb) (fun b hb _ => by omega) _ _ _ _ hd)))
        clear z x y bb hI hQ hne
        go_wp2_with fail
        refine bodyPost_ret (v := .agg #[.int .u64 ((Md.join B l).g c.L : Nat), .int .i64 c.K, .bool c.N.neg, .slice po c.N.an pc, .slice qo c.N.am qc, .int .i64 c.C, .slice ro c.k rc]) (by simp [results, Try.results49, go_sem, e0, e1, e2, e3, e4, e5, e6]) rfl ?_
        exact ⟨fun q => [Value.int .u64 ((Md.join B l).g c.L : Nat), .int .i64 c.K, .bool c.N.neg, .slice po c.N.an pc, .slice qo c.N.am qc, .int .i64 c.C, .slice ro c.k rc].getD q undef, rfl, hres.out, hbw.out⟩
end Go.Proofs.Ytlfilpjiepdejaa
