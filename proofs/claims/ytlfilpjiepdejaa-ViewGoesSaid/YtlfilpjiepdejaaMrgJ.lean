/-
  The place of a cell by dividing, plain: from the last axis on, the rest is the number there, the quotient goes on.
  Package shape, first: has, below, above; slices.IndexFunc, ContainsFunc, Index, Contains over ints; product.
  shape.Count.
  glyph.May, Class.
  array.rightCell, rightIn, Right.
  Arrays that agree, label by label as a function says: slices.Equal over ints, slices.EqualFunc over cells and over arrays, the closures that are handed to it.
  array.cellsAgree, arraysAgree; Same, Match.
  array.Scalar, Unpack, Pack.
  view.Cell, where Hide tells what is seen of the arrays in it; hideC, cellVC; view.Alike; scrimlaw09.awake.
-/
import Derived.Test.YtlfilpjiepdejaaMrgI
namespace Go.Proofs.Ytlfilpjiepdejaa

/-- The cell that q at the axes ahead of i makes with k numbers more. -/
def fromZ (f g : Nat → Int) (q : Int) (i : Nat) : Nat → Int
  | 0 => q
  | k + 1 => fromZ f g q i k * f (i + k) + g (i + k)

theorem from_front (f g : Nat → Int) (q : Int) (i : Nat) : ∀ k, fromZ f g q i (k + 1) = fromZ f g (q * f i + g i) (i + 1) k
  | 0 => rfl
  | k + 1 => by
    show fromZ f g q i (k + 1) * f (i + (k + 1)) + g (i + (k + 1)) = fromZ f g (q * f i + g i) (i + 1) k * f (i + 1 + k) + g (i + 1 + k)
    rw [from_front f g q i k, show i + (k + 1) = i + 1 + k by omega]

theorem from_zero (f g : Nat → Int) : ∀ k, fromZ f g 0 0 k = cellZ f g k
  | 0 => rfl
  | k + 1 => by
    show fromZ f g 0 0 k * f (0 + k) + g (0 + k) = cellZ f g k * f k + g k
    rw [from_zero f g k, Nat.zero_add]

theorem from_congr {f g h : Nat → Int} {q : Int} {i : Nat} : ∀ k, (∀ t, t < k → g (i + t) = h (i + t)) → fromZ f g q i k = fromZ f h q i k
  | 0, _ => rfl
  | k + 1, e => by
    show fromZ f g q i k * f (i + k) + g (i + k) = fromZ f h q i k * f (i + k) + h (i + k)
    rw [from_congr k fun t ht => e t (by omega), e k (by omega)]

/-- The axes from i on have their numbers; q is left for those ahead. -/
def Divided (f g : Nat → Int) (n : Nat) (c q : Int) (i : Nat) : Prop :=
  i ≤ n ∧ 0 ≤ q ∧ q < prodZ f i ∧ (∀ j, i ≤ j → j < n → 0 ≤ g j ∧ g j < f j) ∧ fromZ f g q i (n - i) = c

theorem divided_start {f g : Nat → Int} {n : Nat} {c : Int} (h0 : 0 ≤ c) (h1 : c < prodZ f n) : Divided f g n c c n :=
  ⟨Nat.le_refl _, h0, h1, fun j a b => by omega, by rw [Nat.sub_self]; rfl⟩

theorem divided_step {f g : Nat → Int} {n i : Nat} {c q : Int} (h : Divided f g n c q (i + 1)) (hf : 0 < f i) : Divided f (putZ g i (q % f i)) n c (q / f i) i := by
  obtain ⟨h1, h2, h3, h4, h5⟩ := h
  have e := Int.mul_ediv_add_emod q (f i)
  have m0 := Int.emod_nonneg q (show f i ≠ 0 by omega)
  have m1 := Int.emod_lt_of_pos q hf
  refine ⟨by omega, Int.ediv_nonneg h2 (by omega), ?_, fun j a b => ?_, ?_⟩
  · have h6 : q < prodZ f i * f i := h3
    exact Int.ediv_lt_of_lt_mul hf h6
  · unfold putZ
    by_cases k : j = i
    · rw [if_pos k, k]; exact ⟨m0, m1⟩
    · rw [if_neg k]; exact h4 j (by omega) b
  · rw [show n - i = (n - (i + 1)) + 1 by omega, from_front]
    have e2 : q / f i * f i + putZ g i (q % f i) i = q := by
      unfold putZ
      rw [if_pos rfl, Int.mul_comm]
      exact e
    rw [e2, ← h5]
    refine from_congr _ fun t ht => ?_
    unfold putZ
    rw [if_neg (by omega)]

theorem divided_done {f g : Nat → Int} {n : Nat} {c q : Int} (h : Divided f g n c q 0) : PlaceIs f g n c := by
  obtain ⟨_, h2, h3, h4, h5⟩ := h
  have h3' : q < 1 := h3
  obtain rfl : q = 0 := by omega
  rw [Nat.sub_zero, from_zero] at h5
  exact ⟨fun j hj => h4 j (by omega) hj, h5⟩

end Go.Proofs.Ytlfilpjiepdejaa

namespace Go.Proofs.Ytlfilpjiepdejaa
open Go.RowKit

/-- A function that tells of a number whether p holds, and turns nothing. -/
def PredZ (g : Nat) (p : Int → Bool) : Prop := ∀ (x : Int) (w : World), Calls Try.prog g #[.int .i64 x] w fun e w' => e = .returned (.bool (p x)) ∧ w = w'

def belowZ (x : Int) : Bool := decide (x < 0)

def sameZ (x y : Int) : Bool := decide (y = x)

def aboveZ (x : Int) : Bool := decide (2048 < x)

/-- Whether p holds of one of the first numbers. -/
def SomeZ (p : Int → Bool) (f : Nat → Int) (n : Nat) (w : World) (e : Ending) (w' : World) : Prop :=
  (∃ b, e = .returned (.bool b) ∧ (b = true ↔ ∃ j, j < n ∧ p (f j) = true)) ∧ w = w'

/-- Where p holds first, or -1. -/
def WhereZ (p : Int → Bool) (f : Nat → Int) (n : Nat) (w : World) (e : Ending) (w' : World) : Prop :=
  (∃ k : Int, e = .returned (.int .i64 k) ∧ ((k = -1 ∧ ∀ j, j < n → p (f j) = false) ∨ (∃ j : Nat, j < n ∧ k = j ∧ p (f j) = true))) ∧ w = w'

theorem where_some {p : Int → Bool} {f : Nat → Int} {n : Nat} {k : Int} (h : (k = -1 ∧ ∀ j, j < n → p (f j) = false) ∨ (∃ j : Nat, j < n ∧ k = j ∧ p (f j) = true)) : decide (0 ≤ k) = true ↔ ∃ j, j < n ∧ p (f j) = true := by
  rcases h with ⟨rfl, h⟩ | ⟨j, hj, rfl, h⟩
  · constructor
    · intro h; exact absurd (of_decide_eq_true h) (by decide)
    · rintro ⟨j, h1, h2⟩; rw [h j h1] at h2; cases h2
  · exact ⟨fun _ => ⟨j, hj, h⟩, fun _ => decide_eq_true (by omega)⟩

/-- The product of lengths that each may be, if it may be. -/
def ProdPost (f : Nat → Int) (n : Nat) (w : World) (e : Ending) (w' : World) : Prop :=
  (∃ (N : Int) (ok : Bool), e = .returned (.tuple #[.int .i64 N, .bool ok]) ∧ N = capZ (prodZ f n) ∧ (ok = true ↔ prodZ f n ≤ 2048)) ∧ w = w'

theorem capZ_le {p : Int} (h : p ≤ 2048) : capZ p = p := by unfold capZ; rw [if_pos h]

theorem capZ_gt {p : Int} (h : 2048 < p) : capZ p = 0 := by unfold capZ; rw [if_neg (by omega)]

end Go.Proofs.Ytlfilpjiepdejaa

namespace Go.Proofs.Ytlfilpjiepdejaa
open Go.RowKit

end Go.Proofs.Ytlfilpjiepdejaa

namespace Go.Proofs.Ytlfilpjiepdejaa
open Go.RowKit

theorem class_l {c : Int} (k : (97 ≤ c ∧ c ≤ 122) ∨ (65 ≤ c ∧ c ≤ 90) ∨ c = 95) : classZ c = 2 := class_2 (by omega) k

theorem class_d {c : Int} (k : 48 ≤ c ∧ c ≤ 57) : classZ c = 3 := class_3 (by omega) (by omega) (.inl k)

theorem class_no {c : Int} (h : ¬ (c = 32 ∨ c = 9)) (k : ¬ ((97 ≤ c ∧ c ≤ 122) ∨ (65 ≤ c ∧ c ≤ 90) ∨ c = 95)) (l : ¬ ((48 ≤ c ∧ c ≤ 57) ∨ c = 175)) (f : c ∉ functionsZ) (o : c ∉ operatorsZ) (m : c ∉ marksZ) : classZ c = 0 :=
  (class_4 h k l).trans ((if_neg f).trans ((if_neg o).trans (if_neg m)))

end Go.Proofs.Ytlfilpjiepdejaa

namespace Go.Proofs.Ytlfilpjiepdejaa
open Go.RowKit Num

theorem bool_end {P : Prop} {w w' : World} {r : Bool} (h : P ↔ r = true) (hb : Below w.heap.size w w') : BoolPost P w (.returned (.bool r)) w' := ⟨r, rfl, h.symm, hb⟩

theorem cellT_zero {N : NumF} {C : Int} {k : Nat} {s : Bool} {d : Nat} {R : Prop} {r : Bool} (hr : r = true ↔ RightF N) : CellT 0 N C k s d R ↔ (r && (C == 0) && ((k : Int) == 0)) = true := by
  have e : ((k : Int) == 0) = true ↔ k = 0 := by rw [beq_iff_eq]; omega
  rw [Bool.and_eq_true, Bool.and_eq_true, hr, beq_iff_eq, e]
  constructor
  · rintro (⟨_, h1, h2, h3⟩ | ⟨h, _⟩ | ⟨h, _⟩)
    · exact ⟨⟨h3, h1⟩, h2⟩
    · exact absurd h (by decide)
    · exact absurd h (by decide)
  · rintro ⟨⟨h3, h1⟩, h2⟩; exact .inl ⟨rfl, h1, h2, h3⟩

theorem cellT_one {N : NumF} {C : Int} {k : Nat} {s : Bool} {d : Nat} {R : Prop} : CellT 1 N C k s d R ↔ (mayZ C && zeroF N && ((k : Int) == 0)) = true := by
  have e : ((k : Int) == 0) = true ↔ k = 0 := by rw [beq_iff_eq]; omega
  rw [Bool.and_eq_true, Bool.and_eq_true, e]
  constructor
  · rintro (⟨h, _⟩ | ⟨_, h1, h2, h3⟩ | ⟨h, _⟩)
    · exact absurd h (by decide)
    · exact ⟨⟨h3, h1⟩, h2⟩
    · exact absurd h (by decide)
  · rintro ⟨⟨h3, h1⟩, h2⟩; exact .inr (.inl ⟨rfl, h1, h2, h3⟩)

theorem cellT_two {N : NumF} {C : Int} {k : Nat} {s : Bool} {d : Nat} {R : Prop} : CellT 2 N C k s d R ↔ 0 < d ∧ zeroF N = true ∧ (C == 0) = true ∧ k = 1 ∧ s = false ∧ R := by
  rw [beq_iff_eq]
  constructor
  · rintro (⟨h, _⟩ | ⟨h, _⟩ | ⟨_, h1, h2, h3, h4, h5, h6⟩)
    · exact absurd h (by decide)
    · exact absurd h (by decide)
    · exact ⟨h4, h1, h2, h3, h5, h6⟩
  · rintro ⟨h4, h1, h2, h3, h5, h6⟩; exact .inr (.inr ⟨rfl, h1, h2, h3, h4, h5, h6⟩)

theorem cellT_more {K : Int} {N : NumF} {C : Int} {k : Nat} {s : Bool} {d : Nat} {R : Prop} (h0 : K ≠ 0) (h1 : K ≠ 1) (h2 : K ≠ 2) : ¬ CellT K N C k s d R := by
  rintro (⟨h, _⟩ | ⟨h, _⟩ | ⟨h, _⟩)
  · exact h0 h
  · exact h1 h
  · exact h2 h

end Go.Proofs.Ytlfilpjiepdejaa

namespace Go.Proofs.Ytlfilpjiepdejaa
open Go.RowKit Num

def SameZPost (n m : Nat) (f g : Nat → Int) (w : World) (e : Ending) (w' : World) : Prop := ∃ r, e = .returned (.bool r) ∧ (r = true ↔ n = m ∧ ∀ j, j < n → f j = g j) ∧ Below w.heap.size w w'

set_option maxRecDepth 20000 in
set_option maxHeartbeats 1000000 in
theorem eqZ_any (ao bo : Option Addr) (n nc m mc : Nat) (f g : Nat → Int) (w : World) (hn : n ≤ 9223372036854775807) (hf : SlZ w ao n f) (hg : SlZ w bo m g) :
    Calls Try.prog 45 #[.slice ao n nc, .slice bo m mc] w (SameZPost n m f g w) := by
  by_cases hnm : n = m
  · subst hnm
    go_enter Try.func45, Try.ntmps45
    go_wp2_with fail
    go_loopw [13] (fun i wr => ∃ j : Nat, j ≤ n ∧ i = .int .i64 j ∧ Hid (∀ i, i < j → f i = g i) ∧ ∃ q, wr = w.drewN q) (fun i _ => n - (intOf i).toNat)
    case atStart => exact ⟨0, Nat.zero_le _, rfl, Lib.hid (fun i hi => absurd hi (Nat.not_lt_zero _)), 0, rfl⟩
    case round =>
      obtain ⟨j, hj, rfl, heq, q, rfl⟩ := hrel
      by_cases hlt : j < n
      · rcases hf with h | ⟨b, off, rfl, hc⟩
        · omega
        rcases hg with h | ⟨b', off', rfl, hc'⟩
        · omega
        have c1 := hc j hlt
        have c2 := hc' j hlt
        clear hc hc'
        by_cases he : f j = g j
        · rw [← he] at c2
          have heq' : Hid (∀ i, i < j + 1 → f i = g i) := Lib.hid (fun i hi => by
            by_cases hij : i < j
            · exact heq.out i hij
            · have : i = j := by omega
              subst this; exact he)
          clear he heq
          go_wp2_with fail
          go_quiet (fail)
          go_wp2_with fail
          go_roundw
          case rel => exact ⟨j + 1, by omega, by go_num, heq', _, rfl⟩
          case measure => simp [intOf]; omega
        · have he' : (f j == g j) = false := by rw [beq_eq_false_iff_ne]; exact he
          have hid := Lib.hid he
          have hlt' := Lib.hid hlt
          clear he
          go_wp2_with fail
          go_quiet (fail)
          go_wp2_with fail
          go_ret
          exact ⟨false, rfl, ⟨(fun h => by cases h), fun h => absurd (h.2 j hlt'.out) hid.out⟩, below_drewN (below_drewN (Below.refl _ _) _) _⟩
      · have : j = n := by omega
        subst this
        go_wp2_with fail
        go_ret
        exact ⟨true, rfl, ⟨fun _ => ⟨rfl, heq.out⟩, fun _ => rfl⟩, below_drewN (Below.refl _ _) _⟩
  · have hd : ((n : Int) == (m : Int)) = false := by rw [beq_eq_false_iff_ne]; omega
    have hnm' := Lib.hid hnm
    clear hf hg
    go_enter Try.func45, Try.ntmps45
    go_wp2_with fail
    go_ret
    exact ⟨false, rfl, ⟨(fun h => by cases h), fun h => absurd h.1 hnm'.out⟩, Below.refl _ _⟩

/-- How labels are to agree: be the same, or in any way. -/
inductive Ag where
  | eq

def Ag.fn : Ag → Value
  | .eq => .func (.func 33) #[] #[]

def Ag.b : Ag → Nat → Nat → Bool
  | .eq, l, m => decide (l = m)

set_option maxRecDepth 20000 in
theorem same1_any (l m : Nat) (w : World) : Calls Try.prog 33 #[.int .u64 l, .int .u64 m] w fun e w' => e = .returned (.bool (Ag.b .eq l m)) ∧ w = w' := by
  go_enter Try.func33, Try.ntmps33
  go_wp2_with fail
  go_ret
  refine ⟨congrArg (fun b => Ending.returned (.bool b)) ?_, rfl⟩
  show ((l : Int) == (m : Int)) = decide (l = m)
  rw [Bool.eq_iff_iff, beq_iff_eq, decide_eq_true_eq]
  omega

/-- Two cells agree: P tells it of the arrays in them. -/
def AgC (ag : Ag) (L : Nat) (K : Int) (N : NumF) (C : Int) (k : Nat) (L' : Nat) (K' : Int) (N' : NumF) (C' : Int) (k' : Nat) (P : Nat → Prop) : Prop :=
  ag.b L L' = true ∧ K = K' ∧ C = C' ∧ SameF N N' ∧ k = k' ∧ ∀ j, j < k → P j

/-- Two arrays agree. -/
def AgT (ag : Ag) : Tree → Tree → Prop
  | .leaf, _ => False
  | .arr S n sh m L K C N k sub, B => match B with
    | .leaf => False
    | .arr S' n' sh' m' L' K' C' N' k' sub' => ag.b S S' = true ∧ (n = n' ∧ ∀ j, j < n → sh j = sh' j) ∧ m = m' ∧ ∀ i, i < m → AgC ag (L i) (K i) (N i) (C i) (k i) (L' i) (K' i) (N' i) (C' i) (k' i) (fun j => AgT ag (sub i j) (sub' i j))

def AgD (ag : Ag) (c d : CellD) : Prop := AgC ag c.L c.K c.N c.C c.k d.L d.K d.N d.C d.k (fun j => AgT ag (c.sub j) (d.sub j))

def ArrsAg (ag : Ag) (A B : Tree) : Prop := ∀ (c0 c1 c2 d0 d1 d2 : Value) (w : World), ArrP w A c0 c1 c2 → ArrP w B d0 d1 d2 → Calls Try.prog 32 #[.agg #[c0, c1, c2], .agg #[d0, d1, d2], ag.fn] w (BoolPost (AgT ag A B) w)

def CellsAg (ag : Ag) (c d : CellD) : Prop := ∀ (e f : Nat → Value) (w : World), CellR w c e → CellR w d f → Calls Try.prog 44 #[.agg #[e 0, e 1, e 2, e 3, e 4, e 5, e 6], .agg #[f 0, f 1, f 2, f 3, f 4, f 5, f 6], ag.fn] w (BoolPost (AgD ag c d) w)

set_option maxRecDepth 20000 in
set_option maxHeartbeats 2000000 in
theorem arraysAgree1_any (ag : Ag) (c d : CellD) (B : Nat) (e f : Nat → Value) (w : World) (h : CellsAg ag c d) (hc : CellR w c e) (hd : CellR w d f) (hB : w.cell? ⟨B, 0, none⟩ = some ag.fn) :
    Calls Try.prog 43 #[.agg #[e 0, e 1, e 2, e 3, e 4, e 5, e 6], .agg #[f 0, f 1, f 2, f 3, f 4, f 5, f 6], .pointer (some ⟨B, 0, none⟩)] w (BoolPost (AgD ag c d) w) := by
  obtain ⟨F, hF⟩ : ∃ F, F = ag.fn := ⟨_, rfl⟩
  rw [← hF] at hB
  have hc' := hc; have hd' := hd
  obtain ⟨p0, _, p1, _, ⟨p2, ⟨ao, aoc, p3, ha, _⟩, ⟨bo, boc, p4, hb, _⟩⟩, p5, _, io, ioc, p6, hk, _⟩ := hc
  obtain ⟨q0, _, q1, _, ⟨q2, ⟨ap, apc, q3, ha', _⟩, ⟨bp, bpc, q4, hb', _⟩⟩, q5, _, ip, ipc, q6, hk', _⟩ := hd
  have hv : (Value.agg #[.int .u64 c.L, .int .i64 c.K, .bool c.N.neg, .slice ao c.N.an aoc, .slice bo c.N.am boc, .int .i64 c.C, .slice io c.k ioc]) = .agg #[e 0, e 1, e 2, e 3, e 4, e 5, e 6] := by rw [p0, p1, p2, p3, p4, p5, p6]
  have hu : (Value.agg #[.int .u64 d.L, .int .i64 d.K, .bool d.N.neg, .slice ap d.N.an apc, .slice bp d.N.am bpc, .int .i64 d.C, .slice ip d.k ipc]) = .agg #[f 0, f 1, f 2, f 3, f 4, f 5, f 6] := by rw [q0, q1, q2, q3, q4, q5, q6]
  rw [← hv, ← hu]
  have n1 := ha.1; have n2 := ha.2.1; have n3 := hb.1; have n4 := hb.2.1; have n5 := hk.1; have n6 := hk.2.1
  have m1 := ha'.1; have m2 := ha'.2.1; have m3 := hb'.1; have m4 := hb'.2.1; have m5 := hk'.1; have m6 := hk'.2.1
  have hbel := (((Below.refl w.heap.size w).alloc (Nat.le_refl _) (.cells #[.int .u64 c.L, .int .i64 c.K, .bool c.N.neg, .slice ao c.N.an aoc, .slice bo c.N.am boc, .int .i64 c.C, .slice io c.k ioc] 32)).alloc (by simp) (.cells #[.int .u64 d.L, .int .i64 d.K, .bool d.N.neg, .slice ap d.N.an apc, .slice bp d.N.am bpc, .int .i64 d.C, .slice ip d.k ipc] 32))
  have hx := (Box7.new (w := w) (B := w.heap.size) (.int .u64 c.L) (.int .i64 c.K) (.bool c.N.neg) (.slice ao c.N.an aoc) (.slice bo c.N.am boc) (.int .i64 c.C) (.slice io c.k ioc) 32 rfl).alloc (.cells #[.int .u64 d.L, .int .i64 d.K, .bool d.N.neg, .slice ap d.N.an apc, .slice bp d.N.am bpc, .int .i64 d.C, .slice ip d.k ipc] 32)
  have hy := Box7.new (w := w.alloc (.cells #[.int .u64 c.L, .int .i64 c.K, .bool c.N.neg, .slice ao c.N.an aoc, .slice bo c.N.am boc, .int .i64 c.C, .slice io c.k ioc] 32)) (B := w.heap.size + 1) (.int .u64 d.L) (.int .i64 d.K) (.bool d.N.neg) (.slice ap d.N.an apc) (.slice bp d.N.am bpc) (.int .i64 d.C) (.slice ip d.k ipc) 32 (by simp)
  have hc2 := Lib.hid hc'; have hd2 := Lib.hid hd'; have hB2 := Lib.hid hB; have hv' := Lib.hid hv; have hu' := Lib.hid hu; have hF' := Lib.hid hF
  clear p0 p1 p2 p3 p4 p5 p6 q0 q1 q2 q3 q4 q5 q6 ha hb hk ha' hb' hk' hc' hd' hB hv hu hF
  go_enter Try.func43, Try.ntmps43
  go_upto_region 1 with fail
  refine told_wp (fun w' => Below w.heap.size w w' ∧ Box7 w' w.heap.size (.int .u64 c.L) (.int .i64 c.K) (.bool c.N.neg) (.slice ao c.N.an aoc) (.slice bo c.N.am boc) (.int .i64 c.C) (.slice io c.k ioc) ∧ Box7 w' (w.heap.size + 1) (.int .u64 d.L) (.int .i64 d.K) (.bool d.N.neg) (.slice ap d.N.an apc) (.slice bp d.N.am bpc) (.int .i64 d.C) (.slice ip d.k ipc)) ⟨hbel, hx, hy⟩ ?_
  clear hbel hx hy
  rintro w2 ⟨b2, x2, y2⟩
  have hcall := h e f w2 (hc2.out.later b2) (hd2.out.later b2)
  rw [← hv'.out, ← hu'.out, ← hF'.out] at hcall
  replace hcall := Lib.hid hcall
  have g0 := x2.c0; have g1 := x2.c1; have g2 := x2.c2; have g3 := x2.c3; have g4 := x2.c4; have g5 := x2.c5; have g6 := x2.c6
  have l0 := y2.c0; have l1 := y2.c1; have l2 := y2.c2; have l3 := y2.c3; have l4 := y2.c4; have l5 := y2.c5; have l6 := y2.c6
  have gB := cell_below hB2.out b2
  have b2' := Lib.hid b2
  clear x2 y2 b2
  go_wp2_with fail
  refine hcall.out.mono ?_
  rintro e' w3 ⟨r, rfl, hr, hb3⟩
  have hr' := Lib.hid hr; have b3 := Lib.hid (b2'.out.trans (hb3.mono b2'.out.size))
  clear hr hb3 hcall gB g0 g1 g2 g3 g4 g5 g6 l0 l1 l2 l3 l4 l5 l6
  go_wp2_with fail
  go_ret
  exact ⟨r, rfl, hr'.out, b3.out⟩

set_option maxRecDepth 20000 in
set_option maxHeartbeats 2000000 in
theorem cellsAgree1_any (ag : Ag) (A A' : Tree) (B : Nat) (c0 c1 c2 d0 d1 d2 : Value) (w : World) (h : ArrsAg ag A A') (hc : ArrP w A c0 c1 c2) (hd : ArrP w A' d0 d1 d2) (hB : w.cell? ⟨B, 0, none⟩ = some ag.fn) :
    Calls Try.prog 52 #[.agg #[c0, c1, c2], .agg #[d0, d1, d2], .pointer (some ⟨B, 0, none⟩)] w (BoolPost (AgT ag A A') w) := by
  obtain ⟨F, hF⟩ : ∃ F, F = ag.fn := ⟨_, rfl⟩
  rw [← hF] at hB
  obtain ⟨S, n, nc, m, mc, ao, co, rfl, rfl, rfl⟩ := (ArrP.within _ _ _ _ hc).form
  obtain ⟨S', n', nc', m', mc', ao', co', rfl, rfl, rfl⟩ := (ArrP.within _ _ _ _ hd).form
  have hbel := (((Below.refl w.heap.size w).alloc (Nat.le_refl _) (.cells #[.int .u64 S, .slice ao n nc, .slice co m mc] 26)).alloc (by simp) (.cells #[.int .u64 S', .slice ao' n' nc', .slice co' m' mc'] 26))
  have hx := (Box3.new (w := w) (B := w.heap.size) (.int .u64 S) (.slice ao n nc) (.slice co m mc) 26 rfl).alloc (.cells #[.int .u64 S', .slice ao' n' nc', .slice co' m' mc'] 26)
  have hy := Box3.new (w := w.alloc (.cells #[.int .u64 S, .slice ao n nc, .slice co m mc] 26)) (B := w.heap.size + 1) (.int .u64 S') (.slice ao' n' nc') (.slice co' m' mc') 26 (by simp)
  have hc2 := Lib.hid hc; have hd2 := Lib.hid hd; have hB2 := Lib.hid hB; have hF' := Lib.hid hF
  clear hc hd hB hF
  go_enter Try.func52, Try.ntmps52
  go_upto_region 1 with fail
  refine told_wp (fun w' => Below w.heap.size w w' ∧ Box3 w' w.heap.size (.int .u64 S) (.slice ao n nc) (.slice co m mc) ∧ Box3 w' (w.heap.size + 1) (.int .u64 S') (.slice ao' n' nc') (.slice co' m' mc')) ⟨hbel, hx, hy⟩ ?_
  clear hbel hx hy
  rintro w2 ⟨b2, x2, y2⟩
  have hcall := h _ _ _ _ _ _ w2 (ArrP.below _ _ _ _ hc2.out b2) (ArrP.below _ _ _ _ hd2.out b2)
  rw [← hF'.out] at hcall
  replace hcall := Lib.hid hcall
  have g0 := x2.c0; have g1 := x2.c1; have g2 := x2.c2
  have l0 := y2.c0; have l1 := y2.c1; have l2 := y2.c2
  have gB := cell_below hB2.out b2
  have b2' := Lib.hid b2
  clear x2 y2 b2
  go_wp2_with fail
  refine hcall.out.mono ?_
  rintro e' w3 ⟨r, rfl, hr, hb3⟩
  have hr' := Lib.hid hr; have b3 := Lib.hid (b2'.out.trans (hb3.mono b2'.out.size))
  clear hr hb3 hcall gB g0 g1 g2 l0 l1 l2
  go_wp2_with fail
  go_ret
  exact ⟨r, rfl, hr'.out, b3.out⟩

def CellsAgree (ag : Ag) (m m' : Nat) (cs cs' : Nat → CellD) : Prop := m = m' ∧ ∀ i, i < m → AgD ag (cs i) (cs' i)

def ArrsAgree (ag : Ag) (k k' : Nat) (T T' : Nat → Tree) : Prop := k = k' ∧ ∀ j, j < k → AgT ag (T j) (T' j)

set_option maxRecDepth 20000 in
set_option maxHeartbeats 4000000 in
theorem equalFuncC_of (ag : Ag) (m mc m' mc' : Nat) (co co' : Option Addr) (cs cs' : Nat → CellD) (B : Nat) (w : World) (h : ∀ i, i < m → ∀ d, CellsAg ag (cs i) d) (hc : CellsP w co m cs) (hc' : CellsP w co' m' cs') (hm : IsN m mc) (hm' : IsN m' mc') (hB : w.cell? ⟨B, 0, none⟩ = some ag.fn) :
    Calls Try.prog 46 #[.slice co m mc, .slice co' m' mc', .func (.func 43) #[] #[.pointer (some ⟨B, 0, none⟩)]] w (BoolPost (CellsAgree ag m m' cs cs') w) := by
  have m1 := hm.1; have m2 := hm.2.1; have m3 := hm'.1; have m4 := hm'.2.1
  have h1 := Lib.hid h; have hc1 := Lib.hid hc; have hc2 := Lib.hid hc'; have hB1 := Lib.hid hB
  clear h hc hc' hB hm hm'
  by_cases hmm : m = m'
  · subst hmm
    go_enter Try.func46, Try.ntmps46
    go_wp2_with fail
    go_loopw [17] (fun i wr => ∃ t : Nat, t ≤ m ∧ i = .int .i64 t ∧ Hid (∀ i, i < t → AgD ag (cs i) (cs' i)) ∧ Hid (Below w.heap.size w wr)) (fun i _ => m - (intOfZ i).toNat)
    case atStart => exact ⟨0, Nat.zero_le _, rfl, Lib.hid fun i hi => by omega, Lib.hid (Below.refl _ _)⟩
    case round =>
      obtain ⟨t, ht, rfl, hd, hb⟩ := hrel
      by_cases hlt : t < m
      · rcases hc1.out with h0 | ⟨b, o, rfl, hcells⟩
        · omega
        rcases hc2.out with h0 | ⟨b', o', rfl, hcells'⟩
        · omega
        obtain ⟨e, he, hR⟩ := hcells t hlt
        obtain ⟨f, hf, hR'⟩ := hcells' t hlt
        have hRw := hR.later hb.out; have hRw' := hR'.later hb.out
        obtain ⟨p0, _, p1, _, ⟨p2, ⟨ao, aoc, p3, ha, _⟩, ⟨bo, boc, p4, hb1, _⟩⟩, p5, _, io, ioc, p6, hk, _⟩ := hR
        obtain ⟨q0, _, q1, _, ⟨q2, ⟨ap, apc, q3, ha', _⟩, ⟨bp, bpc, q4, hb', _⟩⟩, q5, _, ip, ipc, q6, hk', _⟩ := hR'
        have n1 := ha.1; have n2 := ha.2.1; have n3 := hb1.1; have n4 := hb1.2.1; have n5 := hk.1; have n6 := hk.2.1
        have k1 := ha'.1; have k2 := ha'.2.1; have k3 := hb'.1; have k4 := hb'.2.1; have k5 := hk'.1; have k6 := hk'.2.1
        have y0 := cell_below (he 0 (by decide)) hb.out; have y1 := cell_below (he 1 (by decide)) hb.out; have y2 := cell_below (he 2 (by decide)) hb.out; have y3 := cell_below (he 3 (by decide)) hb.out
        have y4 := cell_below (he 4 (by decide)) hb.out; have y5 := cell_below (he 5 (by decide)) hb.out; have y6 := cell_below (he 6 (by decide)) hb.out
        rw [p0, Nat.add_zero] at y0; rw [p1] at y1; rw [p2] at y2; rw [p3] at y3; rw [p4] at y4; rw [p5] at y5; rw [p6] at y6
        have hv := Lib.hid (show (Value.agg #[.int .u64 (cs t).L, .int .i64 (cs t).K, .bool (cs t).N.neg, .slice ao (cs t).N.an aoc, .slice bo (cs t).N.am boc, .int .i64 (cs t).C, .slice io (cs t).k ioc]) = .agg #[e 0, e 1, e 2, e 3, e 4, e 5, e 6] by rw [p0, p1, p2, p3, p4, p5, p6])
        have hu := Lib.hid (show (Value.agg #[.int .u64 (cs' t).L, .int .i64 (cs' t).K, .bool (cs' t).N.neg, .slice ap (cs' t).N.an apc, .slice bp (cs' t).N.am bpc, .int .i64 (cs' t).C, .slice ip (cs' t).k ipc]) = .agg #[f 0, f 1, f 2, f 3, f 4, f 5, f 6] by rw [q0, q1, q2, q3, q4, q5, q6])
        have hba := (Below.refl wr.heap.size wr).alloc (Nat.le_refl _) (.cells #[.int .u64 (cs t).L, .int .i64 (cs t).K, .bool (cs t).N.neg, .slice ao (cs t).N.an aoc, .slice bo (cs t).N.am boc, .int .i64 (cs t).C, .slice io (cs t).k ioc] 32)
        have v0 := cell_below (cell_below (hf 0 (by decide)) hb.out) hba; have v1 := cell_below (cell_below (hf 1 (by decide)) hb.out) hba; have v2 := cell_below (cell_below (hf 2 (by decide)) hb.out) hba; have v3 := cell_below (cell_below (hf 3 (by decide)) hb.out) hba
        have v4 := cell_below (cell_below (hf 4 (by decide)) hb.out) hba; have v5 := cell_below (cell_below (hf 5 (by decide)) hb.out) hba; have v6 := cell_below (cell_below (hf 6 (by decide)) hb.out) hba
        rw [q0, Nat.add_zero] at v0; rw [q1] at v1; rw [q2] at v2; rw [q3] at v3; rw [q4] at v4; rw [q5] at v5; rw [q6] at v6
        have hRa := hRw.later hba; have hRa' := hRw'.later hba
        have hx := Box7.new (w := wr) (B := wr.heap.size) (.int .u64 (cs t).L) (.int .i64 (cs t).K) (.bool (cs t).N.neg) (.slice ao (cs t).N.an aoc) (.slice bo (cs t).N.am boc) (.int .i64 (cs t).C) (.slice io (cs t).k ioc) 32 rfl
        have hbb := hb.out.trans (hba.mono hb.out.size)
        obtain ⟨U, hU⟩ : ∃ U, U = wr.heap.size := ⟨_, rfl⟩
        clear hcells hcells' he hf p0 p1 p2 p3 p4 p5 p6 q0 q1 q2 q3 q4 q5 q6 ha hb1 hk ha' hb' hk' hRw hRw' hba
        go_upto_region 6 with fail
        rw [← hU] at hx ⊢
        refine told_wp (fun w' => Below w.heap.size w w' ∧ Box7 w' U (.int .u64 (cs t).L) (.int .i64 (cs t).K) (.bool (cs t).N.neg) (.slice ao (cs t).N.an aoc) (.slice bo (cs t).N.am boc) (.int .i64 (cs t).C) (.slice io (cs t).k ioc) ∧ CellR w' (cs t) e ∧ CellR w' (cs' t) f ∧ (w'.cell? ⟨b', o' + t * 7, none⟩ = some (.int .u64 (cs' t).L) ∧ w'.cell? ⟨b', o' + t * 7 + 1, none⟩ = some (.int .i64 (cs' t).K) ∧ w'.cell? ⟨b', o' + t * 7 + 2, none⟩ = some (.bool (cs' t).N.neg) ∧ w'.cell? ⟨b', o' + t * 7 + 3, none⟩ = some (.slice ap (cs' t).N.an apc) ∧ w'.cell? ⟨b', o' + t * 7 + 4, none⟩ = some (.slice bp (cs' t).N.am bpc) ∧ w'.cell? ⟨b', o' + t * 7 + 5, none⟩ = some (.int .i64 (cs' t).C) ∧ w'.cell? ⟨b', o' + t * 7 + 6, none⟩ = some (.slice ip (cs' t).k ipc))) ⟨hbb, hx, hRa, hRa', v0, v1, v2, v3, v4, v5, v6⟩ ?_
        clear hbb hx hRa hRa' v0 v1 v2 v3 v4 v5 v6 y0 y1 y2 y3 y4 y5 y6 hU hb
        rintro wa ⟨hb, hx, hRa, hRa', v0, v1, v2, v3, v4, v5, v6⟩
        have hba := (Below.refl wa.heap.size wa).alloc (Nat.le_refl _) (.cells #[.int .u64 (cs' t).L, .int .i64 (cs' t).K, .bool (cs' t).N.neg, .slice ap (cs' t).N.an apc, .slice bp (cs' t).N.am bpc, .int .i64 (cs' t).C, .slice ip (cs' t).k ipc] 32)
        have hy := Box7.new (w := wa) (B := wa.heap.size) (.int .u64 (cs' t).L) (.int .i64 (cs' t).K) (.bool (cs' t).N.neg) (.slice ap (cs' t).N.an apc) (.slice bp (cs' t).N.am bpc) (.int .i64 (cs' t).C) (.slice ip (cs' t).k ipc) 32 rfl
        have hx2 := hx.later hba
        have hbb := hb.trans (hba.mono hb.size)
        have hRb := hRa.later hba; have hRb' := hRa'.later hba
        obtain ⟨U', hU⟩ : ∃ U', U' = wa.heap.size := ⟨_, rfl⟩
        clear hb hx hRa hRa' hba
        go_upto_region 7 with fail
        rw [← hU] at hy ⊢
        refine told_wp (fun w' => Below w.heap.size w w' ∧ Box7 w' U (.int .u64 (cs t).L) (.int .i64 (cs t).K) (.bool (cs t).N.neg) (.slice ao (cs t).N.an aoc) (.slice bo (cs t).N.am boc) (.int .i64 (cs t).C) (.slice io (cs t).k ioc) ∧ Box7 w' U' (.int .u64 (cs' t).L) (.int .i64 (cs' t).K) (.bool (cs' t).N.neg) (.slice ap (cs' t).N.an apc) (.slice bp (cs' t).N.am bpc) (.int .i64 (cs' t).C) (.slice ip (cs' t).k ipc) ∧ CellR w' (cs t) e ∧ CellR w' (cs' t) f) ⟨hbb, hx2, hy, hRb, hRb'⟩ ?_
        clear hbb hx2 hy hRb hRb' v0 v1 v2 v3 v4 v5 v6 hU
        rintro wb ⟨hb, x, y, hRa, hRa'⟩
        have hcall := arraysAgree1_any ag (cs t) (cs' t) B e f wb (h1.out t hlt _) hRa hRa' (cell_below hB1.out hb)
        rw [← hv.out, ← hu.out] at hcall
        replace hcall := Lib.hid hcall
        have g0 := x.c0; have g1 := x.c1; have g2 := x.c2; have g3 := x.c3; have g4 := x.c4; have g5 := x.c5; have g6 := x.c6
        have l0 := y.c0; have l1 := y.c1; have l2 := y.c2; have l3 := y.c3; have l4 := y.c4; have l5 := y.c5; have l6 := y.c6
        have hbh := Lib.hid hb
        clear x y hRa hRa' hb
        go_wp2_with fail
        refine hcall.out.mono ?_
        rintro e2 w2 ⟨r, rfl, hr, hb3⟩
        have hr' := Lib.hid hr
        have b3 := Lib.hid (hbh.out.trans (hb3.mono hbh.out.size))
        clear hr hb3 hcall g0 g1 g2 g3 g4 g5 g6 l0 l1 l2 l3 l4 l5 l6
        cases r with
        | true =>
          go_wp2_with fail
          go_roundw
          case rel =>
            refine ⟨t + 1, by omega, by go_num, Lib.hid fun i hi => ?_, b3⟩
            by_cases e : i = t
            · rw [e]; exact hr'.out.1 (by first | exact rfl | trivial)
            · exact hd.out i (by omega)
          case measure => simp [intOfZ]; omega
        | false =>
          go_wp2_with fail
          go_ret
          exact ⟨false, rfl, ⟨fun h => (Bool.false_ne_true h).elim, fun h => absurd (hr'.out.2 (h.2 t hlt)) Bool.false_ne_true⟩, b3.out⟩
      · obtain rfl : t = m := by omega
        go_wp2_with fail
        go_ret
        exact ⟨true, rfl, ⟨fun _ => ⟨rfl, hd.out⟩, fun _ => rfl⟩, hb.out⟩
  · have hd : ((m : Int) == (m' : Int)) = false := by rw [beq_eq_false_iff_ne]; omega
    have hmm' := Lib.hid hmm
    clear hmm
    go_enter Try.func46, Try.ntmps46
    go_wp2_with fail
    go_ret
    exact ⟨false, rfl, ⟨fun h => (Bool.false_ne_true h).elim, fun h => absurd h.1 hmm'.out⟩, Below.refl _ _⟩

set_option maxRecDepth 20000 in
set_option maxHeartbeats 4000000 in
theorem equalFuncA_of (ag : Ag) (k kc k' kc' : Nat) (io io' : Option Addr) (T T' : Nat → Tree) (B : Nat) (w : World) (h : ∀ j, j < k → ∀ D, ArrsAg ag (T j) D) (hc : RowP w io k fun j d0 d1 d2 => ArrP w (T j) d0 d1 d2) (hc' : RowP w io' k' fun j d0 d1 d2 => ArrP w (T' j) d0 d1 d2) (hm : IsN k kc) (hm' : IsN k' kc') (hB : w.cell? ⟨B, 0, none⟩ = some ag.fn) :
    Calls Try.prog 54 #[.slice io k kc, .slice io' k' kc', .func (.func 52) #[] #[.pointer (some ⟨B, 0, none⟩)]] w (BoolPost (ArrsAgree ag k k' T T') w) := by
  have m1 := hm.1; have m2 := hm.2.1; have m3 := hm'.1; have m4 := hm'.2.1
  have h1 := Lib.hid h; have hc1 : Hid (RowP w io k fun j d0 d1 d2 => ArrP w (T j) d0 d1 d2) := Lib.hid hc; have hc2 : Hid (RowP w io' k' fun j d0 d1 d2 => ArrP w (T' j) d0 d1 d2) := Lib.hid hc'; have hB1 := Lib.hid hB
  clear h hc hc' hB hm hm'
  by_cases hmm : k = k'
  · subst hmm
    go_enter Try.func54, Try.ntmps54
    go_wp2_with fail
    go_loopw [17] (fun i wr => ∃ t : Nat, t ≤ k ∧ i = .int .i64 t ∧ Hid (∀ j, j < t → AgT ag (T j) (T' j)) ∧ Hid (Below w.heap.size w wr)) (fun i _ => k - (intOfZ i).toNat)
    case atStart => exact ⟨0, Nat.zero_le _, rfl, Lib.hid fun i hi => by omega, Lib.hid (Below.refl _ _)⟩
    case round =>
      obtain ⟨t, ht, rfl, hd, hb⟩ := hrel
      by_cases hlt : t < k
      · rcases hc1.out with h0 | ⟨b, o, rfl, hcells⟩
        · omega
        rcases hc2.out with h0 | ⟨b', o', rfl, hcells'⟩
        · omega
        obtain ⟨u0, u1, u2, r0, r1, r2, r3⟩ := hcells t hlt
        obtain ⟨t0, t1, t2, s0, s1, s2, s3⟩ := hcells' t hlt
        obtain ⟨S, n, nc, m, mc, ao, co, rfl, rfl, rfl⟩ := (ArrP.within _ _ _ _ r3).form
        obtain ⟨S', n', nc', m', mc', ao', co', rfl, rfl, rfl⟩ := (ArrP.within _ _ _ _ s3).form
        have hRw := ArrP.below _ _ _ _ r3 hb.out; have hRw' := ArrP.below _ _ _ _ s3 hb.out
        have y0 := cell_below r0 hb.out; have y1 := cell_below r1 hb.out; have y2 := cell_below r2 hb.out
        have hba := (Below.refl wr.heap.size wr).alloc (Nat.le_refl _) (.cells #[.int .u64 S, .slice ao n nc, .slice co m mc] 26)
        have v0 := cell_below (cell_below s0 hb.out) hba; have v1 := cell_below (cell_below s1 hb.out) hba; have v2 := cell_below (cell_below s2 hb.out) hba
        have hRa := ArrP.below _ _ _ _ hRw hba; have hRa' := ArrP.below _ _ _ _ hRw' hba
        have hx := Box3.new (w := wr) (B := wr.heap.size) (.int .u64 S) (.slice ao n nc) (.slice co m mc) 26 rfl
        have hbb := hb.out.trans (hba.mono hb.out.size)
        obtain ⟨U, hU⟩ : ∃ U, U = wr.heap.size := ⟨_, rfl⟩
        clear hcells hcells' r0 r1 r2 r3 s0 s1 s2 s3 hRw hRw' hba
        go_upto_region 6 with fail
        rw [← hU] at hx ⊢
        refine told_wp (fun w' => Below w.heap.size w w' ∧ Box3 w' U (.int .u64 S) (.slice ao n nc) (.slice co m mc) ∧ ArrP w' (T t) (.int .u64 S) (.slice ao n nc) (.slice co m mc) ∧ ArrP w' (T' t) (.int .u64 S') (.slice ao' n' nc') (.slice co' m' mc') ∧ (w'.cell? ⟨b', o' + t * 3, none⟩ = some (.int .u64 S') ∧ w'.cell? ⟨b', o' + t * 3 + 1, none⟩ = some (.slice ao' n' nc') ∧ w'.cell? ⟨b', o' + t * 3 + 2, none⟩ = some (.slice co' m' mc'))) ⟨hbb, hx, hRa, hRa', v0, v1, v2⟩ ?_
        clear hbb hx hRa hRa' v0 v1 v2 y0 y1 y2 hU hb
        rintro wa ⟨hb, hx, hRa, hRa', v0, v1, v2⟩
        have hba := (Below.refl wa.heap.size wa).alloc (Nat.le_refl _) (.cells #[.int .u64 S', .slice ao' n' nc', .slice co' m' mc'] 26)
        have hy := Box3.new (w := wa) (B := wa.heap.size) (.int .u64 S') (.slice ao' n' nc') (.slice co' m' mc') 26 rfl
        have hx2 := hx.later hba
        have hbb := hb.trans (hba.mono hb.size)
        have hRb := ArrP.below _ _ _ _ hRa hba; have hRb' := ArrP.below _ _ _ _ hRa' hba
        obtain ⟨U', hU⟩ : ∃ U', U' = wa.heap.size := ⟨_, rfl⟩
        clear hb hx hRa hRa' hba
        go_upto_region 7 with fail
        rw [← hU] at hy ⊢
        refine told_wp (fun w' => Below w.heap.size w w' ∧ Box3 w' U (.int .u64 S) (.slice ao n nc) (.slice co m mc) ∧ Box3 w' U' (.int .u64 S') (.slice ao' n' nc') (.slice co' m' mc') ∧ ArrP w' (T t) (.int .u64 S) (.slice ao n nc) (.slice co m mc) ∧ ArrP w' (T' t) (.int .u64 S') (.slice ao' n' nc') (.slice co' m' mc')) ⟨hbb, hx2, hy, hRb, hRb'⟩ ?_
        clear hbb hx2 hy hRb hRb' v0 v1 v2 hU
        rintro wb ⟨hb, x, y, hRa, hRa'⟩
        have hcall := Lib.hid (cellsAgree1_any ag (T t) (T' t) B _ _ _ _ _ _ wb (h1.out t hlt _) hRa hRa' (cell_below hB1.out hb))
        have g0 := x.c0; have g1 := x.c1; have g2 := x.c2
        have l0 := y.c0; have l1 := y.c1; have l2 := y.c2
        have hbh := Lib.hid hb
        clear x y hRa hRa' hb
        go_wp2_with fail
        refine hcall.out.mono ?_
        rintro e2 w2 ⟨r, rfl, hr, hb3⟩
        have hr' := Lib.hid hr
        have b3 := Lib.hid (hbh.out.trans (hb3.mono hbh.out.size))
        clear hr hb3 hcall g0 g1 g2 l0 l1 l2
        cases r with
        | true =>
          go_wp2_with fail
          go_roundw
          case rel =>
            refine ⟨t + 1, by omega, by go_num, Lib.hid fun i hi => ?_, b3⟩
            by_cases e : i = t
            · rw [e]; exact hr'.out.1 (by first | exact rfl | trivial)
            · exact hd.out i (by omega)
          case measure => simp [intOfZ]; omega
        | false =>
          go_wp2_with fail
          go_ret
          exact ⟨false, rfl, ⟨fun h => (Bool.false_ne_true h).elim, fun h => absurd (hr'.out.2 (h.2 t hlt)) Bool.false_ne_true⟩, b3.out⟩
      · obtain rfl : t = k := by omega
        go_wp2_with fail
        go_ret
        exact ⟨true, rfl, ⟨fun _ => ⟨rfl, hd.out⟩, fun _ => rfl⟩, hb.out⟩
  · have hd : ((k : Int) == (k' : Int)) = false := by rw [beq_eq_false_iff_ne]; omega
    have hmm' := Lib.hid hmm
    clear hmm
    go_enter Try.func54, Try.ntmps54
    go_wp2_with fail
    go_ret
    exact ⟨false, rfl, ⟨fun h => (Bool.false_ne_true h).elim, fun h => absurd h.1 hmm'.out⟩, Below.refl _ _⟩

end Go.Proofs.Ytlfilpjiepdejaa

namespace Go.Proofs.Ytlfilpjiepdejaa
open Go.RowKit Num

set_option maxRecDepth 20000 in
set_option maxHeartbeats 8000000 in
theorem cellsAg_of (ag : Ag) (c d : CellD) (hsub : ∀ j, j < c.k → ∀ D, ArrsAg ag (c.sub j) D) : CellsAg ag c d := by
  intro e f w hc hd
  obtain ⟨F, hF⟩ : ∃ F, F = ag.fn := ⟨_, rfl⟩
  rw [← hF]
  obtain ⟨p0, _, p1, _, ⟨p2, ⟨ao, aoc, p3, ha, s1, _⟩, ⟨bo, boc, p4, hb, s2, _⟩⟩, p5, _, io, ioc, p6, hk, row1⟩ := hc
  obtain ⟨q0, _, q1, _, ⟨q2, ⟨ap, apc, q3, ha', s3, _⟩, ⟨bp, bpc, q4, hb', s4, _⟩⟩, q5, _, ip, ipc, q6, hk', row2⟩ := hd
  rw [p0, p1, p2, p3, p4, p5, p6, q0, q1, q2, q3, q4, q5, q6]
  have n1 := ha.1; have n2 := ha.2.1; have n3 := hb.1; have n4 := hb.2.1; have n5 := hk.1; have n6 := hk.2.1
  have m1 := ha'.1; have m2 := ha'.2.1; have m3 := hb'.1; have m4 := hb'.2.1; have m5 := hk'.1; have m6 := hk'.2.1
  have hkn := Lib.hid (And.intro hk hk')
  have hs1 := Lib.hid s1; have hs2 := Lib.hid s2; have hs3 := Lib.hid s3; have hs4 := Lib.hid s4
  have hrow1 : Hid (RowP w io c.k fun j d0 d1 d2 => ArrP w (c.sub j) d0 d1 d2) := Lib.hid row1
  have hrow2 : Hid (RowP w ip d.k fun j d0 d1 d2 => ArrP w (d.sub j) d0 d1 d2) := Lib.hid row2
  have hsub' := Lib.hid hsub; have hF' := Lib.hid hF
  have hbel := (((Below.refl w.heap.size w).alloc (Nat.le_refl _) (.cells #[.int .u64 c.L, .int .i64 c.K, .bool c.N.neg, .slice ao c.N.an aoc, .slice bo c.N.am boc, .int .i64 c.C, .slice io c.k ioc] 32)).alloc (by simp) (.cells #[.int .u64 d.L, .int .i64 d.K, .bool d.N.neg, .slice ap d.N.an apc, .slice bp d.N.am bpc, .int .i64 d.C, .slice ip d.k ipc] 32)).alloc (by simp; omega) (.cells #[F] 44)
  have hx := ((Box7.new (w := w) (B := w.heap.size) (.int .u64 c.L) (.int .i64 c.K) (.bool c.N.neg) (.slice ao c.N.an aoc) (.slice bo c.N.am boc) (.int .i64 c.C) (.slice io c.k ioc) 32 rfl).alloc (.cells #[.int .u64 d.L, .int .i64 d.K, .bool d.N.neg, .slice ap d.N.an apc, .slice bp d.N.am bpc, .int .i64 d.C, .slice ip d.k ipc] 32)).alloc (.cells #[F] 44)
  have hy := (Box7.new (w := w.alloc (.cells #[.int .u64 c.L, .int .i64 c.K, .bool c.N.neg, .slice ao c.N.an aoc, .slice bo c.N.am boc, .int .i64 c.C, .slice io c.k ioc] 32)) (B := w.heap.size + 1) (.int .u64 d.L) (.int .i64 d.K) (.bool d.N.neg) (.slice ap d.N.an apc) (.slice bp d.N.am bpc) (.int .i64 d.C) (.slice ip d.k ipc) 32 (by simp)).alloc (.cells #[F] 44)
  have hz : (((w.alloc (.cells #[.int .u64 c.L, .int .i64 c.K, .bool c.N.neg, .slice ao c.N.an aoc, .slice bo c.N.am boc, .int .i64 c.C, .slice io c.k ioc] 32)).alloc (.cells #[.int .u64 d.L, .int .i64 d.K, .bool d.N.neg, .slice ap d.N.an apc, .slice bp d.N.am bpc, .int .i64 d.C, .slice ip d.k ipc] 32)).alloc (.cells #[F] 44)).cell? ⟨w.heap.size + 2, 0, none⟩ = some F := by
    have h := World.cell?_alloc_new ((w.alloc (.cells #[.int .u64 c.L, .int .i64 c.K, .bool c.N.neg, .slice ao c.N.an aoc, .slice bo c.N.am boc, .int .i64 c.C, .slice io c.k ioc] 32)).alloc (.cells #[.int .u64 d.L, .int .i64 d.K, .bool d.N.neg, .slice ap d.N.an apc, .slice bp d.N.am bpc, .int .i64 d.C, .slice ip d.k ipc] 32)) #[F] 44 0
    rw [show ((w.alloc (.cells #[.int .u64 c.L, .int .i64 c.K, .bool c.N.neg, .slice ao c.N.an aoc, .slice bo c.N.am boc, .int .i64 c.C, .slice io c.k ioc] 32)).alloc (.cells #[.int .u64 d.L, .int .i64 d.K, .bool d.N.neg, .slice ap d.N.an apc, .slice bp d.N.am bpc, .int .i64 d.C, .slice ip d.k ipc] 32)).heap.size = w.heap.size + 2 by simp] at h
    exact h
  clear p0 p1 p2 p3 p4 p5 p6 q0 q1 q2 q3 q4 q5 q6 ha hb hk ha' hb' hk' s1 s2 s3 s4 row1 row2 hsub hF
  cases ag with
  | eq =>
    obtain rfl : F = .func (.func 33) #[] #[] := hF'.out
    go_enter Try.func44, Try.ntmps44
    go_upto_region 2 with fail
    refine told_wp (fun w' => Below w.heap.size w w' ∧ Box7 w' w.heap.size (.int .u64 c.L) (.int .i64 c.K) (.bool c.N.neg) (.slice ao c.N.an aoc) (.slice bo c.N.am boc) (.int .i64 c.C) (.slice io c.k ioc) ∧ Box7 w' (w.heap.size + 1) (.int .u64 d.L) (.int .i64 d.K) (.bool d.N.neg) (.slice ap d.N.an apc) (.slice bp d.N.am bpc) (.int .i64 d.C) (.slice ip d.k ipc) ∧ w'.cell? ⟨w.heap.size + 2, 0, none⟩ = some (.func (.func 33) #[] #[])) ⟨hbel, hx, hy, hz⟩ ?_
    clear hbel hx hy hz
    rintro w2 ⟨b2, x2, y2, z2⟩
    have g0 := x2.c0; have l0 := y2.c0
    replace b2 := Lib.hid b2; replace x2 := Lib.hid x2; replace y2 := Lib.hid y2; replace z2 := Lib.hid z2
    have zz := z2.out
    go_wp2_with fail
    refine (same1_any c.L d.L _).mono ?_
    rintro e1 w3 ⟨rfl, rfl⟩
    clear g0 l0 zz
    obtain ⟨r0, hr0⟩ : ∃ r, r = Ag.b .eq c.L d.L := ⟨_, rfl⟩
    have hr0' := Lib.hid hr0
    rw [← hr0]
    clear hr0
    cases r0 with
    | false =>
      go_wp2_with fail
      go_ret
      exact bool_end (r := false) ⟨fun h => absurd (hr0'.out.trans h.1).symm Bool.noConfusion, fun h => (Bool.false_ne_true h).elim⟩ b2.out
    | true =>
    have g1 := x2.out.c1; have l1 := y2.out.c1
    by_cases hK : c.K = d.K
    · have hKb : (c.K == d.K) = true := by rw [beq_iff_eq]; exact hK
      replace hK := Lib.hid hK
      have g5 := x2.out.c5; have l5 := y2.out.c5
      by_cases hC : c.C = d.C
      · have hCb : (c.C == d.C) = true := by rw [beq_iff_eq]; exact hC
        replace hC := Lib.hid hC
        have g2 := x2.out.c2; have g3 := x2.out.c3; have g4 := x2.out.c4
        have l2 := y2.out.c2; have l3 := y2.out.c3; have l4 := y2.out.c4
        go_wp2_with fail
        refine (sameP_any c.N.neg d.N.neg ao bo ap bp c.N.an aoc c.N.am boc d.N.an apc d.N.am bpc c.N.fa c.N.ga d.N.fa d.N.ga _ (by omega) (by omega) (hs1.out.below b2.out) (hs2.out.below b2.out) (hs3.out.below b2.out) (hs4.out.below b2.out)).mono ?_
        rintro e1 w4 ⟨r1, rfl, hr1, hb4⟩
        have hr1' := Lib.hid hr1
        replace x2 := x2.out.later hb4; replace y2 := y2.out.later hb4; replace z2 := Lib.hid (cell_below z2.out hb4); replace b2 := Lib.hid (b2.out.trans (hb4.mono b2.out.size))
        have g6 := x2.c6; have l6 := y2.c6
        clear hr1 hb4 g1 l1 g5 l5 g2 g3 g4 l2 l3 l4 hKb hCb x2 y2
        cases r1 with
        | false =>
          go_wp2_with fail
          go_ret
          exact bool_end (r := false) ⟨fun h => absurd (hr1'.out.2 h.2.2.2.1) Bool.false_ne_true, fun h => (Bool.false_ne_true h).elim⟩ b2.out
        | true =>
        go_wp2_with fail
        refine (equalFuncA_of .eq c.k ioc d.k ipc io ip c.sub d.sub (w.heap.size + 2) _ hsub'.out (hrow1.out.below b2.out fun _ _ _ _ _ hd => ArrP.below _ _ _ _ hd b2.out) (hrow2.out.below b2.out fun _ _ _ _ _ hd => ArrP.below _ _ _ _ hd b2.out) hkn.out.1 hkn.out.2 z2.out).mono ?_
        rintro e1 w5 ⟨r2, rfl, hr2, hb5⟩
        have hr2' := Lib.hid hr2
        have b3 := Lib.hid (b2.out.trans (hb5.mono b2.out.size))
        clear hr2 hb5 g6 l6
        go_wp2_with fail
        go_ret
        refine bool_end ⟨fun h => hr2'.out.2 ⟨h.2.2.2.2.1, h.2.2.2.2.2⟩, fun h => ?_⟩ b3.out
        have k := hr2'.out.1 h
        exact ⟨hr0'.out.symm, hK.out, hC.out, hr1'.out.1 (by first | exact rfl | trivial), k.1, k.2⟩
      · have hCb : (c.C == d.C) = false := by rw [beq_eq_false_iff_ne]; exact hC
        replace hC := Lib.hid hC
        go_wp2_with fail
        go_ret
        exact bool_end (r := false) ⟨fun h => absurd h.2.2.1 hC.out, fun h => (Bool.false_ne_true h).elim⟩ b2.out
    · have hKb : (c.K == d.K) = false := by rw [beq_eq_false_iff_ne]; exact hK
      replace hK := Lib.hid hK
      go_wp2_with fail
      go_ret
      exact bool_end (r := false) ⟨fun h => absurd h.2.1 hK.out, fun h => (Bool.false_ne_true h).elim⟩ b2.out

set_option maxRecDepth 20000 in
set_option maxHeartbeats 8000000 in
theorem arrsAg_of (ag : Ag) (S n : Nat) (sh : Nat → Int) (m : Nat) (L : Nat → Nat) (K C : Nat → Int) (N : Nat → NumF) (k : Nat → Nat) (sub : Nat → Nat → Tree) (B : Tree) (hcell : ∀ i, i < m → ∀ d, CellsAg ag ⟨L i, K i, N i, C i, k i, sub i⟩ d) : ArrsAg ag (.arr S n sh m L K C N k sub) B := by
  intro c0 c1 c2 d0 d1 d2 w h h'
  obtain _ | ⟨S', n', sh', m', L', K', C', N', k', sub'⟩ := B
  · exact (ArrP.leaf h').elim
  obtain ⟨F, hF⟩ : ∃ F, F = ag.fn := ⟨_, rfl⟩
  rw [← hF]
  obtain ⟨rfl, _, ⟨ao, nc, rfl, hn, s1, _⟩, co, mc, rfl, hm, hc⟩ := h
  obtain ⟨rfl, _, ⟨ao', nc', rfl, hn', s2, _⟩, co', mc', rfl, hm', hc'⟩ := h'
  have n1 := hn.1; have n2 := hn.2.1; have m1 := hm.1; have m2 := hm.2.1; have n1' := hn'.1; have n2' := hn'.2.1; have m1' := hm'.1; have m2' := hm'.2.1
  have hs1 := Lib.hid s1; have hs2 := Lib.hid s2; have hmn := Lib.hid (And.intro hm hm'); have hF' := Lib.hid hF; have hcell' := Lib.hid hcell
  have hc1 : Hid (CellsP w co m (fun i => ⟨L i, K i, N i, C i, k i, sub i⟩)) := Lib.hid hc
  have hc2 : Hid (CellsP w co' m' (fun i => ⟨L' i, K' i, N' i, C' i, k' i, sub' i⟩)) := Lib.hid hc'
  have hbel := (((Below.refl w.heap.size w).alloc (Nat.le_refl _) (.cells #[.int .u64 S, .slice ao n nc, .slice co m mc] 26)).alloc (by simp) (.cells #[.int .u64 S', .slice ao' n' nc', .slice co' m' mc'] 26)).alloc (by simp; omega) (.cells #[F] 44)
  have hx := ((Box3.new (w := w) (B := w.heap.size) (.int .u64 S) (.slice ao n nc) (.slice co m mc) 26 rfl).alloc (.cells #[.int .u64 S', .slice ao' n' nc', .slice co' m' mc'] 26)).alloc (.cells #[F] 44)
  have hy := (Box3.new (w := w.alloc (.cells #[.int .u64 S, .slice ao n nc, .slice co m mc] 26)) (B := w.heap.size + 1) (.int .u64 S') (.slice ao' n' nc') (.slice co' m' mc') 26 (by simp)).alloc (.cells #[F] 44)
  have hz : (((w.alloc (.cells #[.int .u64 S, .slice ao n nc, .slice co m mc] 26)).alloc (.cells #[.int .u64 S', .slice ao' n' nc', .slice co' m' mc'] 26)).alloc (.cells #[F] 44)).cell? ⟨w.heap.size + 2, 0, none⟩ = some F := by
    have h := World.cell?_alloc_new ((w.alloc (.cells #[.int .u64 S, .slice ao n nc, .slice co m mc] 26)).alloc (.cells #[.int .u64 S', .slice ao' n' nc', .slice co' m' mc'] 26)) #[F] 44 0
    rw [show ((w.alloc (.cells #[.int .u64 S, .slice ao n nc, .slice co m mc] 26)).alloc (.cells #[.int .u64 S', .slice ao' n' nc', .slice co' m' mc'] 26)).heap.size = w.heap.size + 2 by simp] at h
    exact h
  clear hn hm hn' hm' s1 s2 hc hc' hF hcell
  cases ag with
  | eq =>
    obtain rfl : F = .func (.func 33) #[] #[] := hF'.out
    go_enter Try.func32, Try.ntmps32
    go_upto_region 2 with fail
    refine told_wp (fun w' => Below w.heap.size w w' ∧ Box3 w' w.heap.size (.int .u64 S) (.slice ao n nc) (.slice co m mc) ∧ Box3 w' (w.heap.size + 1) (.int .u64 S') (.slice ao' n' nc') (.slice co' m' mc') ∧ w'.cell? ⟨w.heap.size + 2, 0, none⟩ = some (.func (.func 33) #[] #[])) ⟨hbel, hx, hy, hz⟩ ?_
    clear hbel hx hy hz
    rintro w2 ⟨b2, x2, y2, z2⟩
    have g0 := x2.c0; have l0 := y2.c0
    replace b2 := Lib.hid b2; replace x2 := Lib.hid x2; replace y2 := Lib.hid y2; replace z2 := Lib.hid z2
    have zz := z2.out
    go_wp2_with fail
    refine (same1_any S S' _).mono ?_
    rintro e1 w3 ⟨rfl, rfl⟩
    clear g0 l0 zz
    obtain ⟨r0, hr0⟩ : ∃ r, r = Ag.b .eq S S' := ⟨_, rfl⟩
    have hr0' := Lib.hid hr0
    rw [← hr0]
    clear hr0
    cases r0 with
    | false =>
      go_wp2_with fail
      go_ret
      exact bool_end (r := false) ⟨fun h => absurd (hr0'.out.trans h.1).symm Bool.noConfusion, fun h => (Bool.false_ne_true h).elim⟩ b2.out
    | true =>
    have g1 := x2.out.c1; have l1 := y2.out.c1
    go_wp2_with fail
    refine (eqZ_any ao ao' n nc n' nc' sh sh' _ (by omega) (hs1.out.below b2.out) (hs2.out.below b2.out)).mono ?_
    rintro e1 w4 ⟨r1, rfl, hr1, hb4⟩
    have hr1' := Lib.hid hr1
    replace x2 := x2.out.later hb4; replace y2 := y2.out.later hb4; replace z2 := Lib.hid (cell_below z2.out hb4); replace b2 := Lib.hid (b2.out.trans (hb4.mono b2.out.size))
    have g2 := x2.c2; have l2 := y2.c2
    clear hr1 hb4 g1 l1 x2 y2
    cases r1 with
    | false =>
      go_wp2_with fail
      go_ret
      exact bool_end (r := false) ⟨fun h => absurd (hr1'.out.2 h.2.1) Bool.false_ne_true, fun h => (Bool.false_ne_true h).elim⟩ b2.out
    | true =>
    go_wp2_with fail
    refine (equalFuncC_of .eq m mc m' mc' co co' (fun i => ⟨L i, K i, N i, C i, k i, sub i⟩) (fun i => ⟨L' i, K' i, N' i, C' i, k' i, sub' i⟩) (w.heap.size + 2) _ hcell'.out (CellsP.later hc1.out b2.out) (CellsP.later hc2.out b2.out) hmn.out.1 hmn.out.2 z2.out).mono ?_
    rintro e1 w5 ⟨r2, rfl, hr2, hb5⟩
    have hr2' := Lib.hid hr2
    have b3 := Lib.hid (b2.out.trans (hb5.mono b2.out.size))
    clear hr2 hb5 g2 l2
    go_wp2_with fail
    go_ret
    refine bool_end ⟨fun h => hr2'.out.2 ⟨h.2.2.1, h.2.2.2⟩, fun h => ?_⟩ b3.out
    have k := hr2'.out.1 h
    exact ⟨hr0'.out.symm, hr1'.out.1 (by first | exact rfl | trivial), k.1, k.2⟩

theorem arrsAg_any (ag : Ag) : ∀ A B, ArrsAg ag A B := by
  intro A
  induction A with
  | leaf => intro B c0 c1 c2 d0 d1 d2 w h; exact (ArrP.leaf h).elim
  | arr S n sh m L K C N k sub ih => intro B; exact arrsAg_of ag S n sh m L K C N k sub B fun i _ d => cellsAg_of ag ⟨L i, K i, N i, C i, k i, sub i⟩ d fun j _ D => ih i j D

theorem agT_same : ∀ A B, AgT .eq A B ↔ SameT A B := by
  intro A
  induction A with
  | leaf => intro B; exact Iff.rfl
  | arr S n sh m L K C N k sub ih =>
    intro B
    obtain _ | ⟨S', n', sh', m', L', K', C', N', k', sub'⟩ := B
    · exact Iff.rfl
    constructor
    · rintro ⟨h1, h2, h3, h4⟩
      refine ⟨of_decide_eq_true h1, h2, h3, fun i hi => ?_⟩
      obtain ⟨k1, k2, k3, k4, k5, k6⟩ := h4 i hi
      exact ⟨of_decide_eq_true k1, k2, k3, k4, k5, fun j hj => (ih i j _).1 (k6 j hj)⟩
    · rintro ⟨h1, h2, h3, h4⟩
      refine ⟨decide_eq_true h1, h2, h3, fun i hi => ?_⟩
      obtain ⟨k1, k2, k3, k4, k5, k6⟩ := h4 i hi
      exact ⟨decide_eq_true k1, k2, k3, k4, k5, fun j hj => (ih i j _).2 (k6 j hj)⟩


set_option maxRecDepth 20000 in
set_option maxHeartbeats 2000000 in
theorem sameW (A B : Tree) (c0 c1 c2 d0 d1 d2 : Value) (w : World) (h : ArrP w A c0 c1 c2) (h' : ArrP w B d0 d1 d2) : Calls Try.prog 18 #[.agg #[c0, c1, c2], .agg #[d0, d1, d2]] w (BoolPost (AgT .eq A B) w) := by
  obtain ⟨S, n, nc, m, mc, ao, co, rfl, rfl, rfl⟩ := (ArrP.within _ _ _ _ h).form
  obtain ⟨S', n', nc', m', mc', ao', co', rfl, rfl, rfl⟩ := (ArrP.within _ _ _ _ h').form
  have hbel := (((Below.refl w.heap.size w).alloc (Nat.le_refl _) (.cells #[.int .u64 S, .slice ao n nc, .slice co m mc] 26)).alloc (by simp) (.cells #[.int .u64 S', .slice ao' n' nc', .slice co' m' mc'] 26))
  have hx := (Box3.new (w := w) (B := w.heap.size) (.int .u64 S) (.slice ao n nc) (.slice co m mc) 26 rfl).alloc (.cells #[.int .u64 S', .slice ao' n' nc', .slice co' m' mc'] 26)
  have hy := Box3.new (w := w.alloc (.cells #[.int .u64 S, .slice ao n nc, .slice co m mc] 26)) (B := w.heap.size + 1) (.int .u64 S') (.slice ao' n' nc') (.slice co' m' mc') 26 (by simp)
  have hc2 := Lib.hid h; have hd2 := Lib.hid h'
  clear h h'
  go_enter Try.func18, Try.ntmps18
  go_upto_region 1 with fail
  refine told_wp (fun w' => Below w.heap.size w w' ∧ Box3 w' w.heap.size (.int .u64 S) (.slice ao n nc) (.slice co m mc) ∧ Box3 w' (w.heap.size + 1) (.int .u64 S') (.slice ao' n' nc') (.slice co' m' mc')) ⟨hbel, hx, hy⟩ ?_
  clear hbel hx hy
  rintro w2 ⟨b2, x2, y2⟩
  have hcall : Calls Try.prog 32 #[.agg #[.int .u64 S, .slice ao n nc, .slice co m mc], .agg #[.int .u64 S', .slice ao' n' nc', .slice co' m' mc'], .func (.func 33) #[] #[]] w2 (BoolPost (AgT .eq A B) w2) := arrsAg_any .eq A B _ _ _ _ _ _ w2 (ArrP.below _ _ _ _ hc2.out b2) (ArrP.below _ _ _ _ hd2.out b2)
  replace hcall := Lib.hid hcall
  have g0 := x2.c0; have g1 := x2.c1; have g2 := x2.c2
  have l0 := y2.c0; have l1 := y2.c1; have l2 := y2.c2
  replace b2 := Lib.hid b2
  clear x2 y2
  go_wp2_with fail
  refine hcall.out.mono ?_
  rintro e w3 ⟨r, rfl, hr, hb3⟩
  have hr' := Lib.hid hr; have b3 := Lib.hid (b2.out.trans (hb3.mono b2.out.size))
  clear hr hb3 hcall g0 g1 g2 l0 l1 l2
  go_wp2_with fail
  go_ret
  exact ⟨r, rfl, hr'.out, b3.out⟩

theorem sameAC : SameAC := fun A B c0 c1 c2 d0 d1 d2 w h h' _ _ => (sameW A B c0 c1 c2 d0 d1 d2 w h h').mono fun _ _ ⟨r, e, hr, hb⟩ => ⟨r, e, hr.trans (agT_same A B), hb⟩

end Go.Proofs.Ytlfilpjiepdejaa

namespace Go.Proofs.Ytlfilpjiepdejaa
open Go.RowKit Num

theorem CellRQ.plain {w : World} {Q : Nat → Prop} {c : CellD} {e : Nat → Value} (h : CellRQ w Q c e) : CellR w c e := by
  obtain ⟨q0, q1, q2, q3, ⟨p0, ⟨ao, ac, p1, p2, p3, p4⟩, ⟨bo, bc, p5, p6, p7, p8⟩⟩, q5, q6, io, kc, q7, q8, q9⟩ := h
  refine ⟨q0, q1, q2, q3, ⟨p0, ⟨ao, ac, p1, p2, p3.plain, p4⟩, ⟨bo, bc, p5, p6, p7.plain, p8⟩⟩, q5, q6, io, kc, q7, q8, ?_⟩
  rcases q9 with q9 | ⟨b', o', rfl, _, q9⟩
  · exact .inl q9
  · refine .inr ⟨b', o', rfl, fun j hj => ?_⟩
    obtain ⟨d0, d1, d2, r0, r1, r2, r3⟩ := q9 j hj
    exact ⟨d0, d1, d2, r0, r1, r2, ArrQ.plain _ _ _ _ r3⟩

theorem isZ2 : IsZ 2 := ⟨by decide, by decide⟩

theorem isN1 : IsN 1 1 := ⟨Nat.le_refl _, by decide, by decide⟩

/-- A cell that lies in a new block is an array of one cell. -/
theorem scalarQ {w : World} {c : CellD} {Q Q' : Nat → Prop} {e : Nat → Value} {U : Nat} (t : TypeId) (h : CellRQ w Q c e) (hQ : ∀ b, Q b → b < w.heap.size → Q' b) (hU : U = w.heap.size) (hn : Q' U) :
    ArrQ (w.alloc (.cells #[e 0, e 1, e 2, e 3, e 4, e 5, e 6] t)) Q' (scalarT c) (.int .u64 ((0 : Nat) : Int)) (.slice none 0 0) (.slice (some ⟨U, 0, none⟩) 1 1) := by
  have hb : Below w.heap.size w (w.alloc (.cells #[e 0, e 1, e 2, e 3, e 4, e 5, e 6] t)) := (Below.refl _ _).alloc (Nat.le_refl _) _
  have n7 := Box7.new (w := w) (B := U) (e 0) (e 1) (e 2) (e 3) (e 4) (e 5) (e 6) t hU
  refine ⟨rfl, isL0, ⟨none, 0, rfl, isN0, .inl rfl, fun j hj => absurd hj (Nat.not_lt_zero _)⟩, _, 1, rfl, isN1, .inr ⟨U, 0, rfl, hn, fun i hi => ?_⟩⟩
  obtain rfl : i = 0 := by omega
  refine ⟨e, fun t ht => ?_, h.keep (fun b _ hlt => hb.block b hlt) hQ⟩
  have : t = 0 ∨ t = 1 ∨ t = 2 ∨ t = 3 ∨ t = 4 ∨ t = 5 ∨ t = 6 := by omega
  rcases this with rfl | rfl | rfl | rfl | rfl | rfl | rfl
  · exact n7.c0
  · exact n7.c1
  · exact n7.c2
  · exact n7.c3
  · exact n7.c4
  · exact n7.c5
  · exact n7.c6

set_option maxRecDepth 20000 in
set_option maxHeartbeats 4000000 in
theorem scalarW (c : CellD) (e : Nat → Value) (w : World) (h : CellR w c e) (hp : partsC c ≤ 5000) :
    Calls Try.prog 40 #[.agg #[e 0, e 1, e 2, e 3, e 4, e 5, e 6]] w (TreeNew (scalarT c) w) := by
  have h' := Lib.hid h
  obtain ⟨p0, _, p1, _, ⟨p2, ⟨a1, ac, p3, ha, _⟩, ⟨b1, bc, p4, hb, _⟩⟩, p5, _, io, kc, p6, hk, _⟩ := h
  have n1 := ha.1; have n2 := ha.2.1; have n3 := hb.1; have n4 := hb.2.1; have n5 := hk.1; have n6 := hk.2.1
  have hv := Lib.hid (show (Value.agg #[.int .u64 c.L, .int .i64 c.K, .bool c.N.neg, .slice a1 c.N.an ac, .slice b1 c.N.am bc, .int .i64 c.C, .slice io c.k kc]) = .agg #[e 0, e 1, e 2, e 3, e 4, e 5, e 6] by rw [p0, p1, p2, p3, p4, p5, p6])
  rw [p0, p1, p2, p3, p4, p5, p6]
  have hbel := (((Below.refl w.heap.size w).alloc (Nat.le_refl _) (.cells #[.int .u64 c.L, .int .i64 c.K, .bool c.N.neg, .slice a1 c.N.an ac, .slice b1 c.N.am bc, .int .i64 c.C, .slice io c.k kc] 32)).alloc (by simp) (.cells #[.int .u64 0, .slice none 0 0, .slice none 0 0] 26))
  have hx := (Box7.new (w := w) (B := w.heap.size) (.int .u64 c.L) (.int .i64 c.K) (.bool c.N.neg) (.slice a1 c.N.an ac) (.slice b1 c.N.am bc) (.int .i64 c.C) (.slice io c.k kc) 32 rfl).alloc (.cells #[.int .u64 0, .slice none 0 0, .slice none 0 0] 26)
  have hy := Box3.new (w := w.alloc (.cells #[.int .u64 c.L, .int .i64 c.K, .bool c.N.neg, .slice a1 c.N.an ac, .slice b1 c.N.am bc, .int .i64 c.C, .slice io c.k kc] 32)) (B := w.heap.size + 1) (.int .u64 0) (.slice none 0 0) (.slice none 0 0) 26 (by simp)
  clear p0 p1 p2 p3 p4 p5 p6 ha hb hk
  go_enter Try.func40, Try.ntmps40
  go_upto_region 1 with fail
  refine told_wp (fun w' => Below w.heap.size w w' ∧ Box7 w' w.heap.size (.int .u64 c.L) (.int .i64 c.K) (.bool c.N.neg) (.slice a1 c.N.an ac) (.slice b1 c.N.am bc) (.int .i64 c.C) (.slice io c.k kc) ∧ Box3 w' (w.heap.size + 1) (.int .u64 0) (.slice none 0 0) (.slice none 0 0)) ⟨hbel, hx, hy⟩ ?_
  clear hbel hx hy
  rintro w2 ⟨b2, x2, y2⟩
  have hcall : Calls Try.prog 49 #[.agg #[.int .u64 c.L, .int .i64 c.K, .bool c.N.neg, .slice a1 c.N.an ac, .slice b1 c.N.am bc, .int .i64 c.C, .slice io c.k kc], .func (.func 50) #[] #[]] w2 (CellNew (mapC Md.same.g c) w2) := by rw [hv.out]; exact cellBy_any .same c e w2 (h'.out.later b2) trivial hp
  replace hcall := Lib.hid hcall
  have g0 := x2.c0; have g1 := x2.c1; have g2 := x2.c2; have g3 := x2.c3; have g4 := x2.c4; have g5 := x2.c5; have g6 := x2.c6
  have hy2 := Lib.hid y2; have hb2 := Lib.hid b2
  clear x2 y2 b2
  go_wp2_with fail
  refine hcall.out.mono ?_
  intro e1 w3 hnew
  rw [mapC_same] at hnew
  obtain ⟨bo, co', io', bc', cc', kc', rfl, hres, hb3⟩ := hnew.form
  have y3 := hy2.out.later hb3
  have hlt2 := hy2.out.lt
  have d0 := y3.c0; have d1 := y3.c1; have d2 := y3.c2
  have f0 := y3.fr 0; have f1 := y3.fr 1; have f2 := y3.fr 2
  have hsz : w.heap.size + 1 < w3.heap.size := y3.lt
  have z := y3.set (.int .u64 0) (.slice none 0 0) (.slice (some ⟨w3.heap.size, 0, none⟩) 1 1)
  have bz := below_set3 (hb2.out.trans (hb3.mono hb2.out.size)) (B := w.heap.size + 1) (by omega) (.int .u64 0) (.slice none 0 0) (.slice (some ⟨w3.heap.size, 0, none⟩) 1 1)
  have hres2 := hres.keep (Q' := (w.heap.size ≤ ·)) (w' := ((w3.setCell ⟨w.heap.size + 1, 0, none⟩ (.int .u64 0)).setCell ⟨w.heap.size + 1, 1, none⟩ (.slice none 0 0)).setCell ⟨w.heap.size + 1, 2, none⟩ (.slice (some ⟨w3.heap.size, 0, none⟩) 1 1)) (fun b hb _ => heap_set3 (by omega) _ _ _) (fun b hb _ => by omega)
  have hmade := Lib.hid (scalarQ (U := w3.heap.size) (Q' := (w.heap.size ≤ ·)) 32 hres2 (fun b hb _ => hb) (by simp) (by omega))
  have zA := z.alloc (.cells #[.int .u64 (c.L : Nat), .int .i64 c.K, .bool c.N.neg, .slice bo c.N.an bc', .slice co' c.N.am cc', .int .i64 c.C, .slice io' c.k kc'] 32)
  have e0 := zA.c0; have e1 := zA.c1; have e2 := zA.c2
  have hbw := Lib.hid (bz.alloc bz.size (.cells #[.int .u64 (c.L : Nat), .int .i64 c.K, .bool c.N.neg, .slice bo c.N.an bc', .slice co' c.N.am cc', .int .i64 c.C, .slice io' c.k kc'] 32))
  clear y3 z zA bz hres hres2 hb3 hcall hnew g0 g1 g2 g3 g4 g5 g6
  go_wp2_with fail
  refine bodyPost_ret (v := .agg #[.int .u64 0, .slice none 0 0, .slice (some ⟨w3.heap.size, 0, none⟩) 1 1]) (by simp [results, Try.results40, go_sem, e0, e1, e2]) rfl ?_
  exact ⟨_, _, _, rfl, hmade.out, hbw.out⟩

theorem scalar_parts {c : CellD} (h : partsT (scalarT c) ≤ 5000) : partsC c ≤ 5000 := by
  have h' : 1 + 0 + (0 + (1 + c.N.an + c.N.am + sumN (fun j => partsT (c.sub j)) c.k)) ≤ 5000 := h
  show 1 + c.N.an + c.N.am + sumN (fun j => partsT (c.sub j)) c.k ≤ 5000
  omega

theorem scalarC : ScalarC := fun c e w h hp => (scalarW c e w h (scalar_parts hp)).mono fun _ _ h => h.plain


theorem packed_alone {S m : Nat} {sh : Nat → Int} {L : Nat → Nat} {K C : Nat → Int} {N : Nat → NumF} {k : Nat → Nat} {sub : Nat → Nat → Tree} (hm : m = 1) : packT (.arr S 0 sh m L K C N k sub) = ⟨orL (L 0) S, K 0, N 0, C 0, k 0, sub 0⟩ := by
  subst hm
  have e : orL (L 0) S = orL S (L 0) := Nat.or_comm _ _
  rw [e]; simp [packT]

/-- A cell by the seven values of a new block. -/
theorem box_cell {w : World} {Q Q' : Nat → Prop} {A : Tree} {d0 d1 d2 : Value} {U S : Nat} (t : TypeId) (h : ArrQ w Q A d0 d1 d2) (hS : IsL S) (hQ : ∀ b, Q b → b < w.heap.size → Q' b) (hU : U = w.heap.size) (hn : Q' U) :
    CellRQ (w.alloc (.cells #[d0, d1, d2] t)) Q' ⟨S, 2, zeroN, 0, 1, fun _ => A⟩ (fun q => [Value.int .u64 S, .int .i64 2, .bool false, .slice none 0 0, .slice none 0 0, .int .i64 0, .slice (some ⟨U, 0, none⟩) 1 1].getD q undef) := by
  have hb : Below w.heap.size w (w.alloc (.cells #[d0, d1, d2] t)) := (Below.refl _ _).alloc (Nat.le_refl _) _
  have n3 := Box3.new (w := w) (B := U) d0 d1 d2 t hU
  refine ⟨rfl, hS, rfl, isZ2, ⟨rfl, ⟨none, 0, rfl, isN0, .inl rfl, fun j hj => absurd hj (Nat.not_lt_zero _)⟩, ⟨none, 0, rfl, isN0, .inl rfl, fun j hj => absurd hj (Nat.not_lt_zero _)⟩⟩, rfl, isZ0, _, 1, rfl, isN1, .inr ⟨U, 0, rfl, hn, fun j hj => ?_⟩⟩
  have hj' : j < 1 := hj
  obtain rfl : j = 0 := by omega
  exact ⟨d0, d1, d2, n3.c0, n3.c1, n3.c2, ArrQ.keep (fun b _ hlt => hb.block b hlt) hQ _ _ _ _ h⟩

theorem CellR.again' {w : World} {c : CellD} {L' : Nat} {v0 v1 v2 v3 v4 v5 v6 u0 : Value} (h : CellR w c (fun q => [v0, v1, v2, v3, v4, v5, v6].getD q undef)) (hL : IsL L') (hu : u0 = .int .u64 L') : CellR w ⟨L', c.K, c.N, c.C, c.k, c.sub⟩ (fun q => [u0, v1, v2, v3, v4, v5, v6].getD q undef) := by
  obtain ⟨_, _, h⟩ := h
  exact ⟨hu, hL, h⟩


end Go.Proofs.Ytlfilpjiepdejaa

namespace Go.Proofs.Ytlfilpjiepdejaa
open Go.RowKit Num

theorem fieldNum (v0 v1 v2 v3 v4 v5 v6 : Value) (w : World) : (Instr.field 32 (.agg #[v0, v1, v2, v3, v4, v5, v6]) 2).run Try.prog w = .ok (.agg #[v2, v3, v4]) w := by kernel_rfl

attribute [local go_sem] fieldNum

set_option maxRecDepth 20000 in
set_option maxHeartbeats 8000000 in
theorem cellV_of (o : Nat) (ho : IsL o) (c : CellD) (hsub : ∀ j, j < c.k → HideV o (c.sub j)) : CellV o c := by
  intro e w hR hp
  obtain ⟨q0, qL, q1, qK, hNum, q5, qC, io, kc, q6, hk, hrow⟩ := hR
  have hNw := hNum
  obtain ⟨q2, ⟨a1, ac, q3, ha, _, _⟩, ⟨b1, bc, q4, hb', _, _⟩⟩ := hNum
  rw [q2, q3, q4] at hNw
  rw [q0, q1, q2, q3, q4, q5, q6]
  have k1 := hk.1; have k2 := hk.2.1
  have hph := partsC_here c
  have hna : c.N.an ≤ 6000 := by omega
  have hnb : c.N.am ≤ 6000 := by omega
  have hk5 : c.k ≤ 6000 := by omega
  obtain ⟨E, hE1, hE2⟩ := rows_vals hrow
  have hl : ∀ i, i < c.k → ((fun i => three (E i)) i).length = 3 := fun _ _ => rfl
  have hE1' := Lib.hid hE1; have hE2' := Lib.hid hE2; have hsub' := Lib.hid hsub; have hNw' := Lib.hid hNw; have ho' := Lib.hid ho
  have hsp := Lib.hid (fun j (hj : j < c.k) => Nat.le_trans (partsC_sub hj) hp)
  have hgl := Lib.hid (show IsL c.L ∧ IsZ c.K ∧ IsZ c.C from ⟨qL, qK, qC⟩)
  have hbel := (((Below.refl w.heap.size w).alloc (Nat.le_refl _) (.cells #[.int .u64 c.L, .int .i64 c.K, .bool c.N.neg, .slice a1 c.N.an ac, .slice b1 c.N.am bc, .int .i64 c.C, .slice io c.k kc] 32)).alloc (by simp) (.cells #[.int .u64 0, .int .i64 0, .bool false, .slice none 0 0, .slice none 0 0, .int .i64 0, .slice none 0 0] 32))
  have hx := (Box7.new (w := w) (B := w.heap.size) (.int .u64 c.L) (.int .i64 c.K) (.bool c.N.neg) (.slice a1 c.N.an ac) (.slice b1 c.N.am bc) (.int .i64 c.C) (.slice io c.k kc) 32 rfl).alloc (.cells #[.int .u64 0, .int .i64 0, .bool false, .slice none 0 0, .slice none 0 0, .int .i64 0, .slice none 0 0] 32)
  have hy := Box7.new (w := w.alloc (.cells #[.int .u64 c.L, .int .i64 c.K, .bool c.N.neg, .slice a1 c.N.an ac, .slice b1 c.N.am bc, .int .i64 c.C, .slice io c.k kc] 32)) (B := w.heap.size + 1) (.int .u64 0) (.int .i64 0) (.bool false) (.slice none 0 0) (.slice none 0 0) (.int .i64 0) (.slice none 0 0) 32 (by simp)
  clear q0 qL q1 qK q2 q3 q4 q5 qC q6 ha hb' hk hrow hsub hE1 hE2 hNw hp hph ho
  go_enter Try.func14, Try.ntmps14
  go_upto_region 1 with fail
  refine told_wp (fun w' => Below w.heap.size w w' ∧ Box7 w' w.heap.size (.int .u64 c.L) (.int .i64 c.K) (.bool c.N.neg) (.slice a1 c.N.an ac) (.slice b1 c.N.am bc) (.int .i64 c.C) (.slice io c.k kc) ∧ Box7 w' (w.heap.size + 1) (.int .u64 0) (.int .i64 0) (.bool false) (.slice none 0 0) (.slice none 0 0) (.int .i64 0) (.slice none 0 0)) ⟨hbel, hx, hy⟩ ?_
  clear hbel hx hy
  rintro w2 ⟨b2, x2, y2⟩
  have hb2 := Lib.hid b2; have hx2 := Lib.hid x2; have hy2 := Lib.hid y2
  have hlt2 : w.heap.size + 1 < w2.heap.size := y2.lt
  have g0 := x2.c0
  have hsrc := Lib.hid (hE2'.out.below b2)
  clear b2 x2 y2
  go_wp2_with fail
  refine (flowsV c.L o hgl.out.1 ho'.out w2).mono ?_
  rintro e w2' ⟨rfl, rfl⟩
  cases hsee : seesL c.L o with
  | false =>
    have y := hy2.out
    have q0 := y.c0; have q1 := y.c1; have q2 := y.c2; have q3 := y.c3; have q4 := y.c4; have q5 := y.c5; have q6 := y.c6
    have f0 := y.fr 0; have f1 := y.fr 1; have f2 := y.fr 2; have f3 := y.fr 3; have f4 := y.fr 4; have f5 := y.fr 5; have f6 := y.fr 6
    have z := y.setAll (.int .u64 18446744073709551615) (.int .i64 0) (.bool false) (.slice none 0 0) (.slice none 0 0) (.int .i64 0) (.slice none 0 0)
    have e0 := z.c0; have e1 := z.c1; have e2 := z.c2; have e3 := z.c3; have e4 := z.c4; have e5 := z.c5; have e6 := z.c6
    have hbw := Lib.hid (below_setAll hb2.out (B := w.heap.size + 1) (by omega) (.int .u64 18446744073709551615) (.int .i64 0) (.bool false) (.slice none 0 0) (.slice none 0 0) (.int .i64 0) (.slice none 0 0))
    have hs' := Lib.hid hsee
    clear z y hsee
    go_wp2_with fail
    refine bodyPost_ret (v := .agg #[.int .u64 18446744073709551615, .int .i64 0, .bool false, .slice none 0 0, .slice none 0 0, .int .i64 0, .slice none 0 0]) (by simp [results, Try.results14, go_sem, e0, e1, e2, e3, e4, e5, e6]) rfl ?_
    exact ⟨fun q => [Value.int .u64 18446744073709551615, .int .i64 0, .bool false, .slice none 0 0, .slice none 0 0, .int .i64 0, .slice none 0 0].getD q undef, rfl, hidden_cell hs'.out, hbw.out⟩
  | true =>
    have hs' := Lib.hid hsee
    have g6 := hx2.out.c6
    clear hsee
    go_wp2_with fail
    refine (cloneA_any io c.k kc (rowsN (fun i => three (E i)) c.k) _ hk5 (rowsN_length c.k hl) hsrc.out (rows_ones fun i hi => arr_ones (hE1'.out i hi))).mono ?_
    rintro e w1 ⟨ro, rc, rfl, hrow, hb1⟩
    obtain ⟨ao', cap', e', hcap1, hcap2, hform⟩ := own_form hrow.own
    injection e' with e1 e2 e3
    subst e1; subst e3
    obtain ⟨g, hg⟩ : ∃ g, c.k = 0 ∨ (ro = some ⟨g, 0, none⟩ ∧ w2.heap.size ≤ g ∧ g < w1.heap.size) := by
      rcases hform with h | ⟨g, h1, _, h2, h3⟩
      · exact ⟨0, .inl h⟩
      · exact ⟨g, .inr ⟨h1, h2, h3⟩⟩
    have hP := arrsF_keep (fun j => hideT (c.sub j) o)
    have hM0 := Lib.hid (Mapped.start (P := arrsF (fun j => hideT (c.sub j) o)) (g := g) hrow hl hb1)
    have hg' := Lib.hid hg
    have hsz1 := Lib.hid (Nat.le_refl w1.heap.size)
    have hrn := Lib.hid (show IsN c.k rc from ⟨hcap1, hcap2, by omega⟩)
    obtain ⟨kk, hkk⟩ : ∃ kk, kk = c.k := ⟨_, rfl⟩
    have hkk' := Lib.hid hkk
    rw [← hkk] at hM0 g6 hcap1 hg' k1 ⊢
    clear hform hrow hb1 hg g0 g6 hkk hsrc
    go_wp2_with fail
    go_loopw [19] (fun i wr => ∃ (t : Nat) (es : Nat → List Value), t ≤ kk ∧ i = .int .i64 t ∧ Hid (Mapped (arrsF (fun j => hideT (c.sub j) o)) w2 wr 26 3 g ro kk rc t es (fun i => three (E i))) ∧ Hid (w1.heap.size ≤ wr.heap.size)) (fun i _ => kk - (intOfZ i).toNat)
    case atStart => exact ⟨0, _, Nat.zero_le _, rfl, hM0, hsz1⟩
    case round =>
      obtain ⟨t, es, ht, rfl, hM, hsz⟩ := hrel
      clear hM0 hsz1
      by_cases hlt : t < kk
      · have hltc := Lib.hid (show t < c.k by rw [← hkk'.out]; exact hlt)
        rcases hg'.out with h0 | ⟨rfl, hg1, hg2⟩
        · omega
        have hA := hE1'.out t hltc.out
        obtain ⟨S', n', nc', m', mc', ao', co', q0, q1, q2⟩ := (ArrP.within _ _ _ _ hA).form
        rw [q0, q1, q2] at hA
        have hAb := Lib.hid (ArrP.below _ _ _ _ (ArrP.below _ _ _ _ hA hb2.out) (hM.out.bel))
        have y0 := hM.out.cell (q := 0) hlt (by decide) (v := E t 0) rfl
        have y1 := hM.out.cell (q := 1) hlt (by decide) (v := E t 1) rfl
        have y2 := hM.out.cell (q := 2) hlt (by decide) (v := E t 2) rfl
        have hq := Lib.hid (And.intro q0 (And.intro q1 q2))
        rw [q0, Nat.add_zero] at y0; rw [q1] at y1; rw [q2] at y2
        have hbz := (Below.refl wr.heap.size wr).alloc (Nat.le_refl _) (.cells #[.int .u64 S', .slice ao' n' nc', .slice co' m' mc'] 26)
        have hM2 := hM.out.later hP hbz
        have hA2 := ArrP.below _ _ _ _ hAb.out hbz
        have hx3 := Box3.new (w := wr) (B := wr.heap.size) (.int .u64 S') (.slice ao' n' nc') (.slice co' m' mc') 26 rfl
        have hsz2 : w1.heap.size ≤ (wr.alloc (.cells #[.int .u64 S', .slice ao' n' nc', .slice co' m' mc'] 26)).heap.size := Nat.le_trans hsz.out hbz.size
        obtain ⟨U, hU⟩ : ∃ U, U = wr.heap.size := ⟨_, rfl⟩
        clear q0 q1 q2 hA
        go_upto_region 7 with fail
        rw [← hU] at hx3 ⊢
        refine told_wp (fun w' => Mapped (arrsF (fun j => hideT (c.sub j) o)) w2 w' 26 3 g (some ⟨g, 0, none⟩) kk rc t es (fun i => three (E i)) ∧ ArrP w' (c.sub t) (.int .u64 S') (.slice ao' n' nc') (.slice co' m' mc') ∧ Box3 w' U (.int .u64 S') (.slice ao' n' nc') (.slice co' m' mc') ∧ w1.heap.size ≤ w'.heap.size) ⟨hM2, hA2, hx3, hsz2⟩ ?_
        clear hM hAb hM2 hA2 hx3 hsz2 hbz y0 y1 y2 hU hsz
        rintro wa ⟨hMa, hAa, hxa, hsa⟩
        have g0 := hxa.c0; have g1 := hxa.c1; have g2 := hxa.c2
        have hM := Lib.hid hMa
        have hcall := Lib.hid (hsub'.out t hltc.out _ _ _ wa hAa (hsp.out t hltc.out))
        have hga := Lib.hid (show g < wa.heap.size by omega)
        clear hMa hAa hxa
        go_wp2_with fail
        refine hcall.out.mono ?_
        intro e w4 hnew
        obtain ⟨S5, n5, nc5, m5, mc5, ao5, co5, rfl, hres, hb4⟩ := hnew.form
        have hMb := hM.out.later hP hb4
        obtain ⟨q0, q1, q2⟩ := hq.out
        have y0 := hMb.cell (q := 0) hlt (by decide) (v := E t 0) rfl
        have y1 := hMb.cell (q := 1) hlt (by decide) (v := E t 1) rfl
        have y2 := hMb.cell (q := 2) hlt (by decide) (v := E t 2) rfl
        rw [q0, Nat.add_zero] at y0; rw [q1] at y1; rw [q2] at y2
        clear q0 q1 q2
        have f0 := hMb.row.frozenAt (t * 3); have f1 := hMb.row.frozenAt (t * 3 + 1); have f2 := hMb.row.frozenAt (t * 3 + 2)
        have hfar := fun b (hb : b ≠ g) => far3 (w := w4) (o := t * 3) hb (.int .u64 (S5 : Nat)) (.slice ao5 n5 nc5) (.slice co5 m5 mc5)
        have hput := own_put3 hMb.row hMb.len (t := t) (.int .u64 (S5 : Nat)) (.slice ao5 n5 nc5) (.slice co5 m5 mc5)
        have hbel2 := below_far3 (o := t * 3) hMb.bel hg1 (.int .u64 (S5 : Nat)) (.slice ao5 n5 nc5) (.slice co5 m5 mc5)
        have hM3 := Lib.hid (hMb.put hP _ rfl hfar hput hbel2 (ArrQ.keep (Q' := fun b => w2.heap.size ≤ b ∧ b ≠ g) (fun _ _ _ => rfl) (fun b hq _ => ⟨by have := hM.out.bel.size; omega, by have := hga.out; omega⟩) _ _ _ _ hres))
        have hs3 := Lib.hid (show w1.heap.size ≤ _ from Nat.le_trans hsa (Nat.le_trans hb4.size (by simp [World.setCell] : w4.heap.size ≤ (((w4.setCell ⟨g, t * 3, none⟩ (.int .u64 (S5 : Nat))).setCell ⟨g, t * 3 + 1, none⟩ (.slice ao5 n5 nc5)).setCell ⟨g, t * 3 + 2, none⟩ (.slice co5 m5 mc5)).heap.size)))
        clear hfar hput hbel2 hres hb4 hMb hM hcall hnew g0 g1 g2
        go_wp2_with fail
        go_roundw
        case rel => exact ⟨t + 1, _, by omega, by go_num, hM3, hs3⟩
        case measure => simp [intOfZ]; omega
      · obtain rfl : t = kk := by omega
        have hmb := hM.out.bel
        have hI0 := hM.out.inRow (B := w.heap.size + 2) (by omega)
        have hx3 := hx2.out.later hmb
        have hy3 := hy2.out.later hmb
        have hb3 := hb2.out.trans (hmb.mono (by omega))
        have hN3 := (hNw'.out.below hb2.out).below hmb
        rw [hkk'.out] at hI0
        obtain rfl := hkk'.out
        go_upto_region 9 with fail
        refine told_wp (fun w' => Below w.heap.size w w' ∧ Box7 w' w.heap.size (.int .u64 c.L) (.int .i64 c.K) (.bool c.N.neg) (.slice a1 c.N.an ac) (.slice b1 c.N.am bc) (.int .i64 c.C) (.slice io c.k kc) ∧ Box7 w' (w.heap.size + 1) (.int .u64 0) (.int .i64 0) (.bool false) (.slice none 0 0) (.slice none 0 0) (.int .i64 0) (.slice none 0 0) ∧ NumP w' c.N (.bool c.N.neg) (.slice a1 c.N.an ac) (.slice b1 c.N.am bc) ∧ InRow w' (w.heap.size + 2) ro c.k (fun j => hideT (c.sub j) o)) ⟨hb3, hx3, hy3, hN3, hI0⟩ ?_
        clear hM hmb hI0 hx3 hy3 hb3 hN3 hsz
        rintro w3 ⟨bb, x, y, hN, hI⟩
        have sa0 := True.intro
        go_region_held3 (fun w' => w'.cell? ⟨w.heap.size, 0, none⟩ = some (.int .u64 c.L) ∧ w'.cell? ⟨w.heap.size, 1, none⟩ = some (.int .i64 c.K) ∧ w'.cell? ⟨w.heap.size, 2, none⟩ = some (.bool c.N.neg) ∧ w'.cell? ⟨w.heap.size, 3, none⟩ = some (.slice a1 c.N.an ac) ∧ w'.cell? ⟨w.heap.size, 4, none⟩ = some (.slice b1 c.N.am bc) ∧ w'.cell? ⟨w.heap.size, 5, none⟩ = some (.int .i64 c.C))
          (first | with_reducible exact ⟨x.drew.c0, x.drew.c1, x.drew.c2, x.drew.c3, x.drew.c4, x.drew.c5⟩ | with_reducible exact ⟨x.c0, x.c1, x.c2, x.c3, x.c4, x.c5⟩ | go_keep)
          (first
          | (go_at_call 30; clear sa0; have hd := (Below.refl w3.heap.size w3).drew; have bb := bb.drew; have x := x.drew; have y := y.drew; have hN := hN.below hd; have hI := hI.later hd; clear hd; have hlt1 := y.lt; refine (numCell_any c.N _ _ _ _ hN hna hnb).mono ?_; rintro e w' ⟨po, pc, qo, qc, rfl, hQ, hb⟩; have bb := below_then bb (Nat.le_refl _) hb; have x := x.later hb; have y := y.later hb; have hI := hI.later hb; clear hb hN; have d0 := y.c0; have d1 := y.c1; have d2 := y.c2; have d3 := y.c3; have d4 := y.c4; have d5 := y.c5; have d6 := y.c6; have f0 := y.fr 0; have f1 := y.fr 1; have f2 := y.fr 2; have f3 := y.fr 3; have f4 := y.fr 4; have f5 := y.fr 5; have f6 := y.fr 6; have sa1 := True.intro))
        have z := y.setAll (.int .u64 c.L) (.int .i64 c.K) (.bool c.N.neg) (.slice po c.N.an pc) (.slice qo c.N.am qc) (.int .i64 c.C) (.slice ro c.k rc)
        have e0 := z.c0; have e1 := z.c1; have e2 := z.c2; have e3 := z.c3; have e4 := z.c4; have e5 := z.c5; have e6 := z.c6
        have hbw := Lib.hid (below_setAll bb (B := w.heap.size + 1) (by omega) (.int .u64 c.L) (.int .i64 c.K) (.bool c.N.neg) (.slice po c.N.an pc) (.slice qo c.N.am qc) (.int .i64 c.C) (.slice ro c.k rc))
        have hne := fun b (hb : w.heap.size + 2 ≤ b) => heap_set7 (w := w') (B := w.heap.size + 1) (b := b) (by omega) (.int .u64 c.L) (.int .i64 c.K) (.bool c.N.neg) (.slice po c.N.an pc) (.slice qo c.N.am qc) (.int .i64 c.C) (.slice ro c.k rc)
        have hres := Lib.hid (seen_cell hs'.out hgl.out.1 hgl.out.2.1 hgl.out.2.2 (hQ.keep (Q' := (w.heap.size ≤ ·)) (fun b hb _ => hne b (by omega)) (fun b hb _ => by omega)) hrn.out (hI.q.keep (Q' := (w.heap.size ≤ ·)) (fun b hb _ => hne b hb) (fun b hb _ => by omega) (fun j d0 d1 d2 hd => ArrQ.keep (fun b hb _ => hne b hb) (fun b hb _ => by omega) _ _ _ _ hd)))
        clear z x y bb hI hQ hne
        go_wp2_with fail
        refine bodyPost_ret (v := .agg #[.int .u64 c.L, .int .i64 c.K, .bool c.N.neg, .slice po c.N.an pc, .slice qo c.N.am qc, .int .i64 c.C, .slice ro c.k rc]) (by simp [results, Try.results14, go_sem, e0, e1, e2, e3, e4, e5, e6]) rfl ?_
        exact ⟨fun q => [Value.int .u64 c.L, .int .i64 c.K, .bool c.N.neg, .slice po c.N.an pc, .slice qo c.N.am qc, .int .i64 c.C, .slice ro c.k rc].getD q undef, rfl, hres.out, hbw.out⟩

theorem hideV_any (o : Nat) (ho : IsL o) : ∀ A, HideV o A := by
  intro A
  induction A with
  | leaf => intro c0 c1 c2 w h; exact (ArrP.leaf h).elim
  | arr S n sh m L K C N k sub ih => exact hideV_of o ho S n sh m L K C N k sub fun i _ => cellV_of o ho ((fun i => ⟨L i, K i, N i, C i, k i, sub i⟩) i) fun _ _ => ih i _

theorem cellV_any (o : Nat) (ho : IsL o) (c : CellD) : CellV o c := cellV_of o ho c fun _ _ => hideV_any o ho _

theorem CellNew.plain {c : CellD} {w w' : World} {e : Ending} (h : CellNew c w e w') : CellPost c w e w' := by
  obtain ⟨v, rfl, hv, hb⟩ := h
  exact ⟨v, rfl, hv.plain, hb⟩

theorem hideVC : HideC := fun A o c0 c1 c2 w h hf ho => (hideV_any o ho A c0 c1 c2 w h (Nat.le_trans hf.1 (by decide))).mono fun _ _ h => h.plain

theorem partsC_scalar (c : CellD) : partsT (scalarT c) = 1 + partsC c := by
  show 1 + 0 + (0 + partsC c) = _
  omega

theorem cellVC : CellVC := fun c o e w h hf ho => (cellV_any o ho c e w h (by have := hf.1; rw [partsC_scalar] at this; omega)).mono fun _ _ h => h.plain

set_option maxRecDepth 20000 in
set_option maxHeartbeats 4000000 in
theorem alikeVC : AlikeVC := by
  intro A B o c0 c1 c2 d0 d1 d2 w h h' hf hf' ho
  have hA0 : A ≠ .leaf := fun e => by rw [e] at h; exact ArrP.leaf h
  have hfull := Lib.hid (And.intro hA0 (And.intro (ArrP.full _ _ _ _ h) (ArrP.full _ _ _ _ h')))
  obtain ⟨S, n, nc, m, mc, ao, co, rfl, rfl, rfl⟩ := (ArrP.within _ _ _ _ h).form
  obtain ⟨S', n', nc', m', mc', ao', co', rfl, rfl, rfl⟩ := (ArrP.within _ _ _ _ h').form
  have hfe := Lib.hid (And.intro hf (And.intro hf' ho))
  have hbel := (((Below.refl w.heap.size w).alloc (Nat.le_refl _) (.cells #[.int .u64 S, .slice ao n nc, .slice co m mc] 26)).alloc (by simp) (.cells #[.int .u64 S', .slice ao' n' nc', .slice co' m' mc'] 26))
  have hx := (Box3.new (w := w) (B := w.heap.size) (.int .u64 S) (.slice ao n nc) (.slice co m mc) 26 rfl).alloc (.cells #[.int .u64 S', .slice ao' n' nc', .slice co' m' mc'] 26)
  have hy := Box3.new (w := w.alloc (.cells #[.int .u64 S, .slice ao n nc, .slice co m mc] 26)) (B := w.heap.size + 1) (.int .u64 S') (.slice ao' n' nc') (.slice co' m' mc') 26 (by simp)
  have hA := ArrP.below _ _ _ _ h hbel
  have hB := ArrP.below _ _ _ _ h' hbel
  clear h h' hf hf' ho hA0
  go_enter Try.func16, Try.ntmps16
  go_upto_region 1 with fail
  refine told_wp (fun w' => Below w.heap.size w w' ∧ Box3 w' w.heap.size (.int .u64 S) (.slice ao n nc) (.slice co m mc) ∧ Box3 w' (w.heap.size + 1) (.int .u64 S') (.slice ao' n' nc') (.slice co' m' mc') ∧ ArrP w' A (.int .u64 S) (.slice ao n nc) (.slice co m mc) ∧ ArrP w' B (.int .u64 S') (.slice ao' n' nc') (.slice co' m' mc')) ⟨hbel, hx, hy, hA, hB⟩ ?_
  clear hbel hx hy hA hB
  rintro w2 ⟨bb, x, y, hA, hB⟩
  have sa0 := True.intro
  go_region_held3 (fun w' => w'.cell? ⟨w.heap.size, 0, none⟩ = some (.int .u64 S) ∧ w'.cell? ⟨w.heap.size, 1, none⟩ = some (.slice ao n nc) ∧ w'.cell? ⟨w.heap.size, 2, none⟩ = some (.slice co m mc) ∧ w'.cell? ⟨w.heap.size + 1, 0, none⟩ = some (.int .u64 S') ∧ w'.cell? ⟨w.heap.size + 1, 1, none⟩ = some (.slice ao' n' nc') ∧ w'.cell? ⟨w.heap.size + 1, 2, none⟩ = some (.slice co' m' mc'))
    (first | with_reducible exact ⟨x.drew.c0, x.drew.c1, x.drew.c2, y.drew.c0, y.drew.c1, y.drew.c2⟩ | with_reducible exact ⟨x.c0, x.c1, x.c2, y.c0, y.c1, y.c2⟩ | go_keep)
    (first
    | (go_at_call 10; clear sa0; have hd := (Below.refl w2.heap.size w2).drew; have bb := bb.drew; have x := x.drew; have y := y.drew; have hA := ArrP.below _ _ _ _ hA hd; have hB := ArrP.below _ _ _ _ hB hd; clear hd; refine (hideVC A o _ _ _ _ hA hfe.out.1 hfe.out.2.2).mono ?_; intro e w' hp1; obtain ⟨Sa, na, nca, ma, mca, aoa, coa, rfl, ha1, hb⟩ := hp1.form; have bb := below_then bb (Nat.le_refl _) hb; have x := x.later hb; have y := y.later hb; have hB := ArrP.below _ _ _ _ hB hb; clear hb hA hp1; have sa1 := True.intro)
    | (go_at_call 10; clear sa1; refine (hideVC B o _ _ _ _ hB hfe.out.2.1 hfe.out.2.2).mono ?_; intro e w' hp2; obtain ⟨Sb, nb, ncb, mb, mcb, aob, cob, rfl, hb1, hb⟩ := hp2.form; have bb := below_then bb (Nat.le_refl _) hb; have x := x.later hb; have y := y.later hb; have ha1 := ArrP.below _ _ _ _ ha1 hb; clear hb hB hp2; have sa2 := True.intro)
    | (go_at_call 18; clear sa2; refine (sameAC (hideT A o) (hideT B o) _ _ _ _ _ _ _ ha1 hb1 (few_hide o hfe.out.1) (few_hide o hfe.out.2.1)).mono ?_; rintro e w' ⟨r, rfl, hr, hb⟩; have bb := below_then bb (Nat.le_refl _) hb; have x := x.later hb; have y := y.later hb; clear hb ha1 hb1; have sa3 := True.intro))
  have hbw := Lib.hid bb; have hr' := Lib.hid hr
  clear bb x y hr
  go_wp2_with fail
  go_ret
  exact ⟨r, rfl, hr'.out.trans (alike_hide o A B hfull.out.1 hfull.out.2.1 hfull.out.2.2).symm, hbw.out⟩

theorem awake9C : Awake9C := fun w => awake9_any intAC scalarC alikeVC w

end Go.Proofs.Ytlfilpjiepdejaa
