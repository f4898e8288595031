/-
  nat.takeTimes and nat.putBack: x times a number, taken off; a number, put back.
  Plain facts on long division: a guess from the top limbs is never too small; what a guess that is not too great means; the whole division.
  nat.divideLimb: one limb of a quotient.
  nat.moveUp and nat.moveDown: a number times, and by, a power of two below 2^32.
  nat.DivMod: the quotient and the rest.
  nat.word, fromWord, gcdOfWords and Gcd: the greatest number that divides both.
  A law on append that the kit lacks: nothing, whatever its address, appended to a nil slice.
  scrimref02.Same and Norm, scrimlaw02.few and awake.
  scrimlaw02.awake: chapter 2's examples hold.
  whole.Sign, whole.Cmp, whole.Of.
  Rational numbers: what Make tells of two whole ones (mkE the error, mkT the top with its sign, mkB the bottom), numbers in lowest terms ('Low'), facts on these; blocks of three cells ('Box3'); a number as a call hands it back ('Rt': its top and its bottom without noughts on top; 'ResPost': with an error; 'RatPost': without).
-/
import Derived.Test.YtlfilpjiepdejaaMrgA
import Derived.Deep.RegionWith
import Derived.Deep.LoopGhost
import Derived.WalkKit
namespace Go.Proofs.Ytlfilpjiepdejaa
open Go.RowKit Num

theorem bne_toNat {c : Nat} (h : c ≤ 1) : ((c : Int) != 0).toNat = c := by
  have : c = 0 ∨ c = 1 := by omega
  rcases this with rfl | rfl <;> rfl

/-- takeTimes: in a block of N limbs the m + 1 limbs from off on become themselves less x times the other number, and 2^(32 (m + 1)) if that is below 0. -/
def TakePost (b N off m x : Nat) (F g : Nat → Nat) (w : World) (e : Ending) (w' : World) : Prop :=
  ∃ (B : Bool) (F' : Nat → Nat), e = .returned (.bool B) ∧ Blk w' b N F' ∧ Lim F' N ∧ (∀ j, (j < off ∨ off + (m + 1) ≤ j) → F' j = F j) ∧
    val (fun j => F' (off + j)) (m + 1) + x * val g m = val (fun j => F (off + j)) (m + 1) + B.toNat * pw (m + 1) ∧ w.grownBy w' (some b)

/-- putBack: the m + 1 limbs from off on become themselves and the other number, less 2^(32 (m + 1)) if that is no less. -/
def BackPost (b N off m : Nat) (F g : Nat → Nat) (w : World) (e : Ending) (w' : World) : Prop :=
  ∃ (B : Bool) (F' : Nat → Nat), e = .returned (.bool B) ∧ Blk w' b N F' ∧ Lim F' N ∧ (∀ j, (j < off ∨ off + (m + 1) ≤ j) → F' j = F j) ∧
    val (fun j => F' (off + j)) (m + 1) + B.toNat * pw (m + 1) = val (fun j => F (off + j)) (m + 1) + val g m ∧ w.grownBy w' (some b)

end Go.Proofs.Ytlfilpjiepdejaa

namespace Go.Proofs.Ytlfilpjiepdejaa.Num

theorem guess_ok {F g : Nat → Nat} {m : Nat} (lF : Lim F (m + 1 + 1)) (hlt : F (m + 1) < g m) :
    val F (m + 1 + 1) / val g (m + 1) ≤ (F (m + 1) * 4294967296 + F m) / g m := by
  have hg : 0 < g m := by omega
  have hp := pw_pos m
  rw [Nat.le_div_iff_mul_le hg]
  have h1 : val F (m + 1 + 1) / val g (m + 1) * val g (m + 1) ≤ val F (m + 1 + 1) := Nat.div_mul_le_self _ _
  have h2 : val F (m + 1 + 1) < (F (m + 1) * 4294967296 + F m + 1) * pw m := by
    have a := val_lt (lF.mono (show m ≤ m + 1 + 1 by omega))
    rw [val_succ, val_succ, pw_succ, Nat.add_mul, Nat.add_mul, Nat.mul_assoc]
    omega
  generalize val F (m + 1 + 1) / val g (m + 1) = q at *
  have h3 : q * (g m * pw m) ≤ q * val g (m + 1) := Nat.mul_le_mul_left _ (by rw [val_succ]; omega)
  have h4 : q * g m * pw m < (F (m + 1) * 4294967296 + F m + 1) * pw m := by
    rw [Nat.mul_assoc]; omega
  exact Nat.lt_succ_iff.1 ((Nat.mul_lt_mul_right hp).1 h4)

/-- Nothing is left to give back: the guess is the quotient. -/
theorem guess_done {T q D R : Nat} (h : T + q * D = R) (hq : R / D ≤ q) (hD : 0 < D) : q = R / D ∧ T = R % D := by
  have a : q ≤ R / D := by rw [Nat.le_div_iff_mul_le hD]; omega
  have e : q = R / D := by omega
  refine ⟨e, ?_⟩
  have := Nat.div_add_mod' R D
  rw [← e] at this
  omega

/-- Something is to be given back: the guess is too great. -/
theorem guess_great {T q D R P : Nat} (h : T + q * D = R + P) (hT : T < P) (hD : 0 < D) : R / D + 1 ≤ q := by
  rw [Nat.succ_le_iff, Nat.div_lt_iff_lt_mul hD]
  omega

theorem give_back {T T' q D R P B : Nat} (h : T + (q + 1) * D = R + P) (h' : T' + B * P = T + D) (hB : B ≤ 1) : T' + q * D = R + (1 - B) * P := by
  rw [Nat.add_mul] at h
  have : B = 0 ∨ B = 1 := by omega
  rcases this with rfl | rfl <;> omega

/-- A number below D times 2^(32 j) has nothing from limb j + m on, if D is of m limbs. -/
theorem high_noughts {F : Nat → Nat} {N j m D : Nat} (hD : D ≤ pw m) (h : val F N < D * pw j) : ∀ t, j + m ≤ t → t < N → F t = 0 := by
  intro t h1 h2
  apply Classical.byContradiction
  intro h0
  have a := val_ge h0
  have b : val F (t + 1) ≤ val F N := by
    obtain ⟨k, rfl⟩ := Nat.le.dest (show t + 1 ≤ N by omega)
    rw [val_add F (t + 1) k]
    omega
  have c : pw (j + m) ≤ pw t := pw_le h1
  have d : D * pw j ≤ pw m * pw j := Nat.mul_le_mul_right _ hD
  rw [pw_add, Nat.mul_comm] at c
  omega

theorem val_window {F : Nat → Nat} {N i k : Nat} (hk : i + k ≤ N) (hz : ∀ t, i + k ≤ t → t < N → F t = 0) : val F N = val F i + pw i * val (fun t => F (i + t)) k := by
  rw [← val_add]
  obtain ⟨d, rfl⟩ := Nat.le.dest hk
  rw [val_add F (i + k) d]
  have : val (fun t => F (i + k + t)) d = 0 := by
    rw [val_congr (g := fun _ => 0) (fun t ht => hz (i + k + t) (by omega) (by omega)), val_noughts]
  rw [this]; simp

theorem val_cons (h : Nat → Nat) (n : Nat) : val h (n + 1) = h 0 + 4294967296 * val (fun j => h (j + 1)) n := by
  have e := val_add h 1 n
  rw [Nat.add_comm 1 n] at e
  rw [e, val_congr (f := fun j => h (1 + j)) (g := fun j => h (j + 1)) (fun j _ => by rw [Nat.add_comm])]
  simp [val, pw]

/-- Where a division begins: what is divided is below the divisor times 2^(32 (t + 1)). -/
theorem div_start {x y u k l t : Nat} (hx : x < pw k) (hk : k = l + 1 + t) (hy : 2147483648 * pw l ≤ y) (hu : u < 32) : x * 2 ^ u < y * pw (t + 1) := by
  have h1 : (2 : Nat) ^ u ≤ 2147483648 := by
    have : (2 : Nat) ^ u ≤ 2 ^ 31 := Nat.pow_le_pow_right (by decide) (by omega)
    exact this
  have h2 : x * 2 ^ u < pw k * 2 ^ u := (Nat.mul_lt_mul_right (Nat.pow_pos (by decide))).2 hx
  have h3 : pw k * 2 ^ u ≤ pw k * 2147483648 := Nat.mul_le_mul_left _ h1
  have h4 : 2147483648 * pw l * pw (t + 1) ≤ y * pw (t + 1) := Nat.mul_le_mul_right _ hy
  rw [Nat.mul_assoc, ← pw_add] at h4
  have h5 : l + (t + 1) = k := by omega
  rw [h5, Nat.mul_comm] at h4
  omega

theorem lead_big {g : Nat → Nat} {l P : Nat} (h : 2147483648 ≤ g l * P) : 2147483648 * pw l ≤ val g (l + 1) * P := by
  rw [val_succ, Nat.add_mul]
  have h1 : 2147483648 * pw l ≤ g l * P * pw l := Nat.mul_le_mul_right _ h
  have h2 : g l * pw l * P = g l * P * pw l := Nat.mul_right_comm _ _ _
  omega

/-- One limb of the quotient. -/
theorem div_round {V V' L P Rw D Q A q : Nat} (hV : V = L + P * Rw) (hV' : V' = L + P * (Rw % D)) (hA : V + D * (P * 4294967296) * Q = A) (hq : q = Rw / D) (hL : L < P) (hD : 0 < D) :
    V' + D * P * (q + 4294967296 * Q) = A ∧ V' < D * P := by
  have e := Nat.div_add_mod Rw D
  have e1 : P * Rw = D * P * q + P * (Rw % D) := by
    rw [hq]
    have : P * Rw = P * (D * (Rw / D) + Rw % D) := by rw [e]
    rw [this, Nat.mul_add, ← Nat.mul_assoc, Nat.mul_comm P D]
  constructor
  · rw [Nat.mul_add]
    have e2 : D * P * (4294967296 * Q) = D * (P * 4294967296) * Q := by rw [← Nat.mul_assoc, Nat.mul_assoc D P]
    omega
  · have h1 : P * (Rw % D + 1) ≤ P * D := Nat.mul_le_mul_left _ (Nat.mod_lt _ hD)
    rw [Nat.mul_add, Nat.mul_comm P D] at h1
    omega

theorem div_window {V L P Rw D : Nat} (hV : V = L + P * Rw) (h : V < D * (P * 4294967296)) : Rw < 4294967296 * D := by
  have e : D * (P * 4294967296) = P * (4294967296 * D) := by rw [Nat.mul_left_comm, Nat.mul_comm D]
  rw [e, hV] at h
  have : P * Rw < P * (4294967296 * D) := by omega
  exact Nat.lt_of_mul_lt_mul_left this

/-- The whole division: by a divisor and a number, both moved up. -/
theorem div_whole {V D Q A x y u : Nat} (hA : V + D * Q = A) (hx : A = x * 2 ^ u) (hy : D = y * 2 ^ u) (hV : V < D) : Q = x / y ∧ V / 2 ^ u = x % y := by
  have hp : 0 < 2 ^ u := Nat.pow_pos (by decide)
  have hy0 : 0 < y := Nat.pos_of_ne_zero (fun e => by rw [hy, e] at hV; omega)
  have e1 : D * Q = y * Q * 2 ^ u := by rw [hy, Nat.mul_right_comm]
  have hQ : y * Q * 2 ^ u ≤ x * 2 ^ u := by omega
  have hQ' : y * Q ≤ x := Nat.le_of_mul_le_mul_right hQ hp
  have e2 : V = (x - y * Q) * 2 ^ u := by rw [Nat.sub_mul]; omega
  have e3 : V / 2 ^ u = x - y * Q := by rw [e2, Nat.mul_div_cancel _ hp]
  have lt : x - y * Q < y := by
    rw [e2, hy] at hV
    exact (Nat.mul_lt_mul_right hp).1 hV
  have := Nat.div_mod_unique (b := y) (a := x) (c := x - y * Q) (d := Q) hy0
  obtain ⟨a, b⟩ := this.2 ⟨by omega, lt⟩
  exact ⟨a.symm, by rw [e3, b]⟩

/-- Moved up till its top bit is 1, a number has as many limbs. -/
theorem lead_len {g : Nat → Nat} {m P : Nat} (lg : Lim g m) (h : g m * P < 4294967296) (hPE : ∃ E, P * E = 4294967296) : val g (m + 1) * P < pw (m + 1) := by
  obtain ⟨E, hE⟩ := hPE
  have hP : 0 < P := Nat.pos_of_ne_zero (fun e => by rw [e] at hE; simp at hE)
  have h1 : g m < E := by
    rw [← hE, Nat.mul_comm P] at h
    exact (Nat.mul_lt_mul_right hP).1 h
  have h2 : val g (m + 1) < (g m + 1) * pw m := by
    have := val_lt lg
    rw [val_succ, Nat.add_mul]; omega
  have h3 : (g m + 1) * pw m ≤ E * pw m := Nat.mul_le_mul_right _ h1
  have h4 : val g (m + 1) * P < E * pw m * P := (Nat.mul_lt_mul_right hP).2 (by omega)
  have h5 : E * pw m * P = pw (m + 1) := by rw [pw_succ, ← hE, Nat.mul_right_comm, Nat.mul_comm E]
  omega

end Go.Proofs.Ytlfilpjiepdejaa.Num

namespace Go.Proofs.Ytlfilpjiepdejaa
open Go.RowKit Num

/-- divideLimb, at a value R of the m + 1 limbs from off on, and a divisor D: it tells the quotient, and leaves the rest there. -/
def LimbPost (b N off m R D : Nat) (F : Nat → Nat) (w : World) (e : Ending) (w' : World) : Prop :=
  ∃ (q : Nat) (F' : Nat → Nat), q = R / D ∧ e = .returned (.int .u32 q) ∧ Blk w' b N F' ∧ Lim F' N ∧ (∀ j, (j < off ∨ off + (m + 1) ≤ j) → F' j = F j) ∧
    val (fun j => F' (off + j)) (m + 1) = R % D ∧ w.grownBy w' (some b)

end Go.Proofs.Ytlfilpjiepdejaa

namespace Go.Proofs.Ytlfilpjiepdejaa
open Go.RowKit Num

/-- moveUp: new limbs, one more. -/
def UpPost (n v : Nat) (w : World) (e : Ending) (w' : World) : Prop :=
  ∃ B F, e = .returned (.slice (some ⟨B, 0, none⟩) (n + 1) (n + 1)) ∧ w.heap.size ≤ B ∧ B < w'.heap.size ∧ Blk w' B (n + 1) F ∧ Lim F (n + 1) ∧ val F (n + 1) = v ∧ Below w.heap.size w w'

/-- moveDown, in its own limbs. -/
def DownPost (b n v : Nat) (w : World) (e : Ending) (w' : World) : Prop :=
  ∃ F, e = .returned (.tuple #[]) ∧ Blk w' b n F ∧ Lim F n ∧ val F n = v ∧ w.grownBy w' (some b)

end Go.Proofs.Ytlfilpjiepdejaa

namespace Go.Proofs.Ytlfilpjiepdejaa
open Go.RowKit Num

def DivPost (x y : Nat) (w : World) (e : Ending) (w' : World) : Prop :=
  Below w.heap.size w w' ∧ ((y = 0 ∧ e = .returned (.tuple #[.slice none 0 0, .slice none 0 0, .bool false])) ∨
    (y ≠ 0 ∧ ∃ ao n nc f bo m mc g, e = .returned (.tuple #[.slice ao n nc, .slice bo m mc, .bool true]) ∧ n ≤ nc ∧ nc ≤ 9223372036854775807 ∧ m ≤ mc ∧ mc ≤ 9223372036854775807 ∧
      Sl w' ao n f ∧ Canon (x / y) n f ∧ Sl w' bo m g ∧ Canon (x % y) m g))

end Go.Proofs.Ytlfilpjiepdejaa

namespace Go.Proofs.Ytlfilpjiepdejaa
open Go.RowKit Num

theorem val_two {f : Nat → Nat} {n : Nat} (h : n ≤ 2) : at0 f n 1 * 4294967296 + at0 f n 0 = val f n := by
  rw [← val_at0_ge h]
  simp [val, pw]
  omega

/-- A number of at most 1000000 limbs without noughts on top, that may be handed on. -/
theorem Num.Canon.arg {w : World} {ao : Option Addr} {n nc v : Nat} {f : Nat → Nat} (h : Canon v n f) (hs : Sl w ao n f) (hn : n ≤ nc) (hc : nc ≤ 9223372036854775807) (hv : v < pw 1000000) : Arg w ao n nc f :=
  ⟨hn, hc, h.len_le hv, hs, h.lim⟩

end Go.Proofs.Ytlfilpjiepdejaa

namespace Go.Proofs.Ytlfilpjiepdejaa
open Go.RowKit

theorem wpList_append_empty {P : Program} {w : World} {ops : Array Oper} {rest : List Oper} {o : Oper} {a : Act} {Q : Exit → Act → World → Prop} (hgd : o.guard = none) (s x : Operand) (t : TypeId)
    (ho : o.op = .call { callee := .builtin .append, args := #[s, x], argTypes := #[t, t] }) (e : TypeId) (i : TypeInfo) (ht : P.underlying t = some (.slice e)) (hi : P.info? e = some i)
    (ao : Option Addr) (c : Nat) (hs : a.eval s = .slice none 0 0) (hx : a.eval x = .slice ao 0 c)
    (h : wpList P ops Q rest (a.put o.dst (.slice none 0 0)) w) : wpList P ops Q (o :: rest) a w := by
  refine wpList_plain hgd fun K hK => ?_
  have hrun : (Builtin.append_ #[t, t] o.type #[.slice none 0 0, .slice ao 0 c]).run P w = .ok (.slice none 0 0) w := by
    cases ao <;> simp [Builtin.append_, run_underlying ht, sizeOf, typeInfo, hi, Builtin.lenOf, Builtin.firstCells, loadCells, loadCellsFrom]
  unfold Oper.wp
  simp [execOp, ho, resolve, invoke, builtin, hs, hx, hrun, Result.andThen]
  exact hK _ _ h

end Go.Proofs.Ytlfilpjiepdejaa

namespace Go.Proofs.Ytlfilpjiepdejaa
open Go.RowKit Num

set_option maxHeartbeats 400000 in
/-- Same, of the same limbs. -/
theorem same_yes (ao bo : Option Addr) (n nc mc : Nat) (f g : Nat → Nat) (w : World) (hn : n ≤ 9223372036854775807) (hf : Sl w ao n f) (hg : Sl w bo n g) (he : ∀ j, j < n → f j = g j) :
    Calls Try.prog 41 #[.slice ao n nc, .slice bo n mc] w fun e w' => e = .returned (.bool true) ∧ ∃ q, w' = w.drewN q := by
  have he' := Lib.hid he
  clear he
  go_enter Try.func41, Try.ntmps41
  go_wp2_with fail
  go_loopw [5] (fun i wr => ∃ j : Nat, j ≤ n ∧ i = .int .i64 j ∧ ∃ q, wr = w.drewN q) (fun i _ => n - (intOf i).toNat)
  case atStart => exact ⟨0, Nat.zero_le _, rfl, 0, rfl⟩
  case round =>
    obtain ⟨j, hj, rfl, q, rfl⟩ := hrel
    by_cases hlt : j < n
    · rcases hf with h | ⟨b, off, rfl, hc⟩
      · omega
      rcases hg with h | ⟨b', off', rfl, hc'⟩
      · omega
      have c1 := hc j hlt
      have c2 := hc' j hlt
      rw [← he'.out j hlt] at c2
      clear hc hc'
      go_wp2_with fail
      go_quiet (fail)
      go_wp2_with fail
      go_roundw
      case rel => exact ⟨j + 1, by omega, by go_num, _, rfl⟩
      case measure => simp [intOf]; omega
    · go_wp2_with fail
      go_ret
      exact ⟨rfl, q, rfl⟩

theorem same_canon (ao bo : Option Addr) (v n nc m mc : Nat) (f g : Nat → Nat) (w : World) (hn : n ≤ nc) (hnc : nc ≤ 9223372036854775807) (hf : Sl w ao n f) (hg : Sl w bo m g) (cf : Canon v n f) (cg : Canon v m g) :
    Calls Try.prog 41 #[.slice ao n nc, .slice bo m mc] w fun e w' => e = .returned (.bool true) ∧ ∃ q, w' = w.drewN q := by
  obtain rfl := cf.len cg
  exact same_yes ao bo n nc mc f g w (by omega) hf hg (cf.eq cg)

theorem owns_slice {w : World} {base n : Nat} {t : TypeId} {v : Value} {f : Nat → Nat} (h : w.ownsRow base t 1 v n (limbCells f n)) :
    ∃ ao cap, v = .slice ao n cap ∧ n ≤ cap ∧ cap ≤ 9223372036854775807 ∧ Sl w ao n f := by
  rcases h.2 with ⟨rfl, rfl⟩ | ⟨g, cap, cur, hv, hb, hg, hnc, hcm, hcs, ht⟩
  · exact ⟨none, 0, rfl, Nat.le_refl _, by omega, .inl rfl⟩
  · subst hv
    refine ⟨_, cap, rfl, hnc, by unfold maxLen at hcm; omega, ?_⟩
    by_cases h0 : n = 0
    · exact .inl h0
    · refine .inr ⟨g, 0, rfl, fun j hj => ?_⟩
      rw [Nat.zero_add, h.cellAt j (by omega), limbCells_get f n j hj]

end Go.Proofs.Ytlfilpjiepdejaa

namespace Go.Proofs.Ytlfilpjiepdejaa
open Go.RowKit Num

theorem sl_new1 (w : World) (t : TypeId) (v : Int) (x : Nat) (h : v = x) : Sl (w.alloc (.cells #[.int .u32 v] t)) (some ⟨w.heap.size, 0, none⟩) 1 (fun _ => x) := by
  subst h
  refine .inr ⟨w.heap.size, 0, rfl, fun j hj => ?_⟩
  obtain rfl : j = 0 := by omega
  rw [Nat.zero_add, World.cell?_alloc_new]
  rfl

theorem sl_new2 (w : World) (t : TypeId) (u v : Int) (x y : Nat) (hu : u = x) (hv : v = y) : Sl (w.alloc (.cells #[.int .u32 u, .int .u32 v] t)) (some ⟨w.heap.size, 0, none⟩) 2 (put (fun _ => x) 1 y) := by
  subst hu hv
  refine .inr ⟨w.heap.size, 0, rfl, fun j hj => ?_⟩
  rw [Nat.zero_add, World.cell?_alloc_new]
  have : j = 0 ∨ j = 1 := by omega
  rcases this with rfl | rfl <;> rfl

theorem canon_one (x : Nat) (h0 : x ≠ 0) (h : x < 4294967296) : Canon x 1 (fun _ => x) := ⟨fun _ _ => h, .inr h0, by simp [val, pw]⟩

def AwakePost (w : World) (e : Ending) (w' : World) : Prop := e = .returned (.bool true) ∧ Below w.heap.size w w'

end Go.Proofs.Ytlfilpjiepdejaa

namespace Go.Proofs.Ytlfilpjiepdejaa
open Go.RowKit Num

attribute [local go_sem ↓] Go.wp_at_zero Go.wp_at_succ

/-- This comes back; what lay there before lies there still. -/
def Says (v : Value) (w : World) (e : Ending) (w' : World) : Prop := e = .returned v ∧ Below w.heap.size w w'

theorem below_drawn {w w' : World} (h : ∃ q, w' = w.drewN q) : Below w.heap.size w w' := by
  obtain ⟨q, rfl⟩ := h
  exact below_drewN (Below.refl _ _) q

theorem sign_sgn (b : Bool) (v : Nat) : (sgn b v).sign = if b then -cmpI v 0 else cmpI v 0 := by
  cases b
  · by_cases h : v = 0
    · subst h; simp [sgn, cmpI]
    · have h1 : (0 : Int) < (v : Int) := by omega
      simp only [sgn_false, Int.sign_eq_one_of_pos h1, cmpI_gt h1]; simp
  · by_cases h : v = 0
    · subst h; simp [sgn, cmpI]
    · have h1 : (0 : Int) < (v : Int) := by omega
      simp only [sgn_true, Int.sign_neg, Int.sign_eq_one_of_pos h1, cmpI_gt h1]; simp

theorem wrap_back (v : Nat) (h : v ≤ 9223372036854775808) : IntKind.u64.wrap (-IntKind.u64.wrap (-(v : Int))) = (v : Int) := by
  simp [IntKind.wrap, IntKind.bits, IntKind.signed]
  omega

theorem sl_two {w : World} {B : Nat} {u v : Int} {x y : Nat} (t : TypeId) (h : B = w.heap.size) (hu : u = x) (hv : v = y) : Sl (w.alloc (.cells #[.int .u32 u, .int .u32 v] t)) (some ⟨B, 0, none⟩) 2 (put (fun _ => x) 1 y) := by
  subst h
  exact sl_new2 w t u v x y hu hv

theorem lim_two {x y : Nat} (hx : x < 4294967296) (hy : y < 4294967296) : Lim (put (fun _ => x) 1 y) 2 := put_lim (fun _ _ => hx) hy

theorem val_pair (x y : Nat) : val (put (fun _ => x) 1 y) 2 = x + 4294967296 * y := by
  rw [val_succ, val_succ, val_zero, put_at, put_ne (by decide)]
  simp [pw]
  omega

set_option maxHeartbeats 1000000 in
theorem wOf_any (n : Int) (w : World) (h0 : -9223372036854775808 ≤ n) (h1 : n ≤ 9223372036854775807) :
    Calls Try.prog 56 #[.int .i64 n] w (IntPost n w) := by
  by_cases hn : n < 0
  · obtain ⟨v, hv⟩ : ∃ v : Nat, n = -(v : Int) := ⟨n.natAbs, by omega⟩
    subst hv
    have hw := wrap_back v (by omega)
    have hp : 0 < v := by omega
    go_enter Try.func56, Try.ntmps56
    go_wp2_with fail
    refine gen_calls (fun w' => Below w.heap.size w w' ∧ Box w' w.heap.size (.bool false) (.slice none 0 0) ∧ Sl w' (some ⟨w.heap.size + 1, 0, none⟩) 2 (put (fun _ => v % 4294967296) 1 (v / 4294967296)))
      ⟨((Below.refl _ w).alloc (Nat.le_refl _) _).alloc (by simp) _, (Box.new _ _ _ rfl).alloc _, sl_two _ (by simp) (by omega) (by omega)⟩ ?_
    rintro w0 ⟨hb0, x0, hs⟩
    refine (norm_any (some ⟨w.heap.size + 1, 0, none⟩) 2 2 _ _ ⟨Nat.le_refl _, by omega, by omega, hs, lim_two (by omega) (by omega)⟩).mono ?_
    rw [val_pair, Nat.mod_add_div]
    rintro e w1 ⟨co, cn, cc, c, rfl, g1, g2, g3, g4, hb⟩
    have y0 := x0.later hb
    have hb1 := Lib.hid (below_then hb0 (Nat.le_refl _) hb)
    have g3' := Lib.hid g3; have g4' := Lib.hid g4
    clear g3 g4 hb hs x0 hb0
    go_wp2_with fail
    refine (signed_any true co _ cn cc c _ g1 g2 g3'.out g4'.out).mono ?_
    rintro e w3 ⟨sb, so, sn, sc, rfl, hR, hb4⟩
    have z2 := y0.later hb4
    have q1 := z2.c0; have q2 := z2.c1; have q3 := z2.fr 0; have q4 := z2.fr 1
    have hb2 := below_then hb1.out (Nat.le_refl _) hb4
    have z3 := z2.set (.bool sb) (.slice so sn sc)
    have e0 := z3.c0; have e1 := z3.c1
    have hR' := Lib.hid hR; have z2' := Lib.hid z2; have hb2' := Lib.hid hb2
    clear hR z2 hb2 hb4 y0
    go_wp2_with fail
    refine bodyPost_ret (v := .agg #[.bool sb, .slice so sn sc]) (by simp [results, Try.results56, go_sem, e0, e1]) rfl ?_
    exact IntPost.stored hR'.out z2'.out hb2'.out (by omega)
  · obtain ⟨v, hv⟩ : ∃ v : Nat, n = (v : Int) := ⟨n.natAbs, by omega⟩
    subst hv
    go_enter Try.func56, Try.ntmps56
    go_wp2_with fail
    refine gen_calls (fun w' => Below w.heap.size w w' ∧ Box w' w.heap.size (.bool false) (.slice none 0 0) ∧ Sl w' (some ⟨w.heap.size + 1, 0, none⟩) 2 (put (fun _ => v % 4294967296) 1 (v / 4294967296)))
      ⟨((Below.refl _ w).alloc (Nat.le_refl _) _).alloc (by simp) _, (Box.new _ _ _ rfl).alloc _, sl_two _ (by simp) (by omega) (by omega)⟩ ?_
    rintro w0 ⟨hb0, x0, hs⟩
    refine (norm_any (some ⟨w.heap.size + 1, 0, none⟩) 2 2 _ _ ⟨Nat.le_refl _, by omega, by omega, hs, lim_two (by omega) (by omega)⟩).mono ?_
    rw [val_pair, Nat.mod_add_div]
    rintro e w1 ⟨co, cn, cc, c, rfl, g1, g2, g3, g4, hb⟩
    have y0 := x0.later hb
    have hb1 := Lib.hid (below_then hb0 (Nat.le_refl _) hb)
    have g3' := Lib.hid g3; have g4' := Lib.hid g4
    clear g3 g4 hb hs x0 hb0
    go_wp2_with fail
    refine (signed_any false co _ cn cc c _ g1 g2 g3'.out g4'.out).mono ?_
    rintro e w3 ⟨sb, so, sn, sc, rfl, hR, hb4⟩
    have z2 := y0.later hb4
    have q1 := z2.c0; have q2 := z2.c1; have q3 := z2.fr 0; have q4 := z2.fr 1
    have hb2 := below_then hb1.out (Nat.le_refl _) hb4
    have z3 := z2.set (.bool sb) (.slice so sn sc)
    have e0 := z3.c0; have e1 := z3.c1
    have hR' := Lib.hid hR; have z2' := Lib.hid z2; have hb2' := Lib.hid hb2
    clear hR z2 hb2 hb4 y0
    go_wp2_with fail
    refine bodyPost_ret (v := .agg #[.bool sb, .slice so sn sc]) (by simp [results, Try.results56, go_sem, e0, e1]) rfl ?_
    exact IntPost.stored hR'.out z2'.out hb2'.out (by omega)

end Go.Proofs.Ytlfilpjiepdejaa

namespace Go.Proofs.Ytlfilpjiepdejaa
open Go.RowKit Num

/-- In lowest terms, of at most 32 limbs each. -/
def Low (P : Int) (Q : Nat) : Prop := Q ≠ 0 ∧ Nat.gcd P.natAbs Q = 1 ∧ P.natAbs < pw 32 ∧ Q < pw 32

/-- What Make tells of p by q: the error, the top, the bottom. -/
def mkG (p q : Int) : Nat := Nat.gcd p.natAbs q.natAbs

def mkE (p q : Int) : Int := if q = 0 then 3 else if p.natAbs / mkG p q < pw 32 ∧ q.natAbs / mkG p q < pw 32 then 0 else 7

def mkT (p q : Int) : Int := if mkE p q = 0 then sgn (decide (p.sign * q.sign < 0)) (p.natAbs / mkG p q) else 0

def mkB (p q : Int) : Nat := if mkE p q = 0 then q.natAbs / mkG p q else 0

theorem mkG_pos {p q : Int} (hq : q ≠ 0) : 0 < mkG p q := Nat.gcd_pos_of_pos_right _ (by omega)

theorem mkE_ok {p q : Int} : mkE p q = 0 ↔ q ≠ 0 ∧ p.natAbs / mkG p q < pw 32 ∧ q.natAbs / mkG p q < pw 32 := by
  unfold mkE
  by_cases h : q = 0
  · simp [h]
  · by_cases k : p.natAbs / mkG p q < pw 32 ∧ q.natAbs / mkG p q < pw 32
    · simp only [h, k, if_false, if_true, ne_eq, not_false_eq_true, and_self]
    · simp only [h, k, if_false, ne_eq, not_false_eq_true, true_and, iff_false]
      decide

theorem mkE_cases (p q : Int) : mkE p q = 0 ∨ mkE p q = 3 ∨ mkE p q = 7 := by
  unfold mkE; repeat' split
  all_goals simp

theorem mk_bad {p q : Int} (h : mkE p q ≠ 0) : mkT p q = 0 ∧ mkB p q = 0 := by simp [mkT, mkB, h]

theorem mk_three {p q : Int} : mkE p q = 3 ↔ q = 0 := by
  unfold mkE
  by_cases h : q = 0
  · simp [h]
  · simp only [h, if_false, iff_false]; split <;> decide

theorem mkT_ok {p q : Int} (h : mkE p q = 0) : mkT p q = sgn (decide (p.sign * q.sign < 0)) (p.natAbs / mkG p q) := by simp [mkT, h]

theorem mkB_ok {p q : Int} (h : mkE p q = 0) : mkB p q = q.natAbs / mkG p q := by simp [mkB, h]

theorem mkT_abs {p q : Int} (h : mkE p q = 0) : (mkT p q).natAbs = p.natAbs / mkG p q := by rw [mkT_ok h, sgn_abs]

theorem mkT_le (p q : Int) : (mkT p q).natAbs ≤ p.natAbs := by
  by_cases h : mkE p q = 0
  · rw [mkT_abs h]; exact Nat.div_le_self _ _
  · rw [(mk_bad h).1]; exact Nat.zero_le _

theorem mkB_le (p q : Int) : mkB p q ≤ q.natAbs := by
  by_cases h : mkE p q = 0
  · rw [mkB_ok h]; exact Nat.div_le_self _ _
  · rw [(mk_bad h).2]; exact Nat.zero_le _

theorem mkT_lt (p q : Int) : (mkT p q).natAbs < pw 32 := by
  by_cases h : mkE p q = 0
  · rw [mkT_abs h]; exact (mkE_ok.1 h).2.1
  · rw [(mk_bad h).1]; exact pw_pos _

theorem mkB_lt (p q : Int) : mkB p q < pw 32 := by
  by_cases h : mkE p q = 0
  · rw [mkB_ok h]; exact (mkE_ok.1 h).2.2
  · rw [(mk_bad h).2]; exact pw_pos _

theorem mkE_small {p q : Int} (hq : q ≠ 0) (hp : p.natAbs < pw 32) (h : q.natAbs < pw 32) : mkE p q = 0 :=
  mkE_ok.2 ⟨hq, Nat.lt_of_le_of_lt (Nat.div_le_self _ _) hp, Nat.lt_of_le_of_lt (Nat.div_le_self _ _) h⟩

theorem mk_low {p q : Int} (h : mkE p q = 0) : Low (mkT p q) (mkB p q) := by
  obtain ⟨hq, h1, h2⟩ := mkE_ok.1 h
  have hg := mkG_pos (p := p) hq
  refine ⟨?_, ?_, mkT_lt _ _, mkB_lt _ _⟩
  · rw [mkB_ok h]
    have : mkG p q ≤ q.natAbs := Nat.gcd_le_right _ (by omega)
    have := Nat.div_pos this hg
    omega
  · rw [mkT_abs h, mkB_ok h]
    rw [mkG, Nat.gcd_div (Nat.gcd_dvd_left _ _) (Nat.gcd_dvd_right _ _)]; exact Nat.div_self hg

theorem abs_sign (x : Int) : (x.natAbs : Int) * x.sign = x := by rw [Int.mul_comm]; exact Int.sign_mul_natAbs x

theorem sgn_sign {x : Int} {v : Nat} (h' : x = 0 → v = 0) : sgn (decide (x < 0)) v = x.sign * v := by
  rcases Int.lt_trichotomy x 0 with hx | hx | hx
  · rw [Int.sign_eq_neg_one_of_neg hx]; simp [hx, sgn]
  · rw [hx, h' hx]; simp [sgn]
  · rw [Int.sign_eq_one_of_pos hx]; simp [sgn, Int.not_lt.2 (Int.le_of_lt hx)]

theorem mk_cross {p q : Int} (h : mkE p q = 0) : mkT p q * q = p * mkB p q := by
  obtain ⟨hq, _, _⟩ := mkE_ok.1 h
  have hg := mkG_pos (p := p) hq
  have e1 : mkG p q * (p.natAbs / mkG p q) = p.natAbs := Nat.mul_div_cancel' (Nat.gcd_dvd_left _ _)
  have e2 : mkG p q * (q.natAbs / mkG p q) = q.natAbs := Nat.mul_div_cancel' (Nat.gcd_dvd_right _ _)
  rw [mkT_ok h, mkB_ok h]
  generalize p.natAbs / mkG p q = a at *
  generalize q.natAbs / mkG p q = b at *
  generalize mkG p q = g at *
  have es : (p.sign * q.sign).sign = p.sign * q.sign := by rw [Int.sign_mul, Int.sign_sign, Int.sign_sign]
  have k1 : p.sign * q.sign = 0 → a = 0 := by
    intro h0
    rcases Int.mul_eq_zero.1 h0 with h1 | h1
    · have : p = 0 := Int.sign_eq_zero_iff_zero.1 h1
      subst this
      rcases Nat.mul_eq_zero.1 (e1.trans rfl) with h2 | h2
      · omega
      · exact h2
    · exact absurd (Int.sign_eq_zero_iff_zero.1 h1) hq
  rw [sgn_sign k1, es]
  have sq : q.sign * q.sign = 1 := by
    rcases Int.lt_or_gt_of_ne hq with h1 | h1
    · rw [Int.sign_eq_neg_one_of_neg h1]; rfl
    · rw [Int.sign_eq_one_of_pos h1]; rfl
  have ep := abs_sign p
  have eq := abs_sign q
  have f1 : (g : Int) * a = p.natAbs := by exact_mod_cast e1
  have f2 : (g : Int) * b = q.natAbs := by exact_mod_cast e2
  generalize p.sign = sp at *
  generalize q.sign = sq' at *
  generalize (p.natAbs : Int) = pa at *
  generalize (q.natAbs : Int) = qa at *
  generalize (a : Int) = a at *
  generalize (b : Int) = b at *
  generalize (g : Int) = g at *
  subst f1 f2 ep eq
  grind

theorem low_unique {P P' : Int} {Q Q' : Nat} (a : Low P Q) (b : Low P' Q') (h : P * Q' = P' * Q) : P = P' ∧ Q = Q' := by
  obtain ⟨a0, a1, _, _⟩ := a
  obtain ⟨b0, b1, _, _⟩ := b
  have hn : P.natAbs * Q' = P'.natAbs * Q := by
    have := congrArg Int.natAbs h
    simpa [Int.natAbs_mul] using this
  have d1 : Q ∣ Q' := (Nat.Coprime.symm a1).dvd_of_dvd_mul_left ⟨P'.natAbs, by rw [hn, Nat.mul_comm]⟩
  have d2 : Q' ∣ Q := (Nat.Coprime.symm b1).dvd_of_dvd_mul_left ⟨P.natAbs, by rw [← hn, Nat.mul_comm]⟩
  have e : Q = Q' := Nat.dvd_antisymm d1 d2
  subst e
  exact ⟨Int.eq_of_mul_eq_mul_right (by omega) h, rfl⟩

/-- A number that is right, told by any two that make it. -/
theorem mk_of_low {p q : Int} {P : Int} {Q : Nat} (a : Low P Q) (hq : q ≠ 0) (e : p * Q = P * q) : mkE p q = 0 ∧ mkT p q = P ∧ mkB p q = Q := by
  have h : mkE p q = 0 := by
    obtain ⟨a0, a1, a2, a3⟩ := a
    have hn : p.natAbs * Q = P.natAbs * q.natAbs := by
      have := congrArg Int.natAbs e
      simpa [Int.natAbs_mul] using this
    have d1 : Q ∣ q.natAbs := (Nat.Coprime.symm a1).dvd_of_dvd_mul_left ⟨p.natAbs, by rw [← hn, Nat.mul_comm]⟩
    obtain ⟨k, hk⟩ := d1
    have hp : p.natAbs = P.natAbs * k := by
      rw [hk, Nat.mul_left_comm, Nat.mul_comm] at hn
      exact Nat.eq_of_mul_eq_mul_left (by omega) hn
    have hk0 : 0 < k := by
      rcases Nat.eq_zero_or_pos k with rfl | h
      · simp at hk; omega
      · exact h
    have hg : mkG p q = k := by
      unfold mkG
      rw [hp, hk, Nat.gcd_mul_right, a1, Nat.one_mul]
    refine mkE_ok.2 ⟨hq, ?_, ?_⟩
    · rw [hg, hp, Nat.mul_div_cancel _ hk0]; exact a2
    · rw [hg, hk, Nat.mul_div_cancel _ hk0]; exact a3
  have c := mk_cross h
  refine ⟨h, low_unique (mk_low h) a ?_⟩
  refine Int.eq_of_mul_eq_mul_right hq ?_
  rw [Int.mul_right_comm, c, Int.mul_right_comm, e, Int.mul_right_comm]

theorem mk_same {p q p' q' : Int} (h : mkE p q = 0) (hq' : q' ≠ 0) (e : p * q' = p' * q) : mkE p' q' = 0 ∧ mkT p' q' = mkT p q ∧ mkB p' q' = mkB p q := by
  refine mk_of_low (mk_low h) hq' ?_
  have c := mk_cross h
  obtain ⟨hq, _, _⟩ := mkE_ok.1 h
  refine Int.eq_of_mul_eq_mul_right hq ?_
  grind

theorem Low.nz {P : Int} {Q : Nat} (a : Low P Q) : (Q : Int) ≠ 0 := by have := a.1; omega

theorem mk_self {P : Int} {Q : Nat} (a : Low P Q) : mkE P Q = 0 ∧ mkT P Q = P ∧ mkB P Q = Q := mk_of_low a a.nz rfl

theorem low_one {P : Int} (h : P.natAbs < pw 32) : Low P 1 := ⟨by omega, Nat.gcd_one_right _, h, Nat.lt_of_lt_of_le (by decide : 1 < pw 1) (pw_le (by omega))⟩

theorem low_zero {Q : Nat} (a : Low 0 Q) : Q = 1 := by have := a.2.1; simpa using this

theorem Low.neg {P : Int} {Q : Nat} (a : Low P Q) : Low (-P) Q := ⟨a.1, by rw [Int.natAbs_neg]; exact a.2.1, by rw [Int.natAbs_neg]; exact a.2.2.1, a.2.2.2⟩

theorem Low.abs {P : Int} {Q : Nat} (a : Low P Q) : Low P.natAbs Q := ⟨a.1, by rw [Int.natAbs_natCast]; exact a.2.1, by rw [Int.natAbs_natCast]; exact a.2.2.1, a.2.2.2⟩

theorem fdiv_abs (P : Int) {Q : Nat} (hQ : Q ≠ 0) : (P.fdiv Q).natAbs ≤ P.natAbs := by
  have hq : (0 : Int) < (Q : Int) := by omega
  have e := Int.fmod_add_mul_fdiv P Q
  have h1 := Int.fmod_nonneg_of_pos P hq
  have h2 := Int.fmod_lt_of_pos P hq
  generalize P.fdiv Q = f at *
  generalize P.fmod Q = r at *
  have hQ1 : (1 : Int) ≤ (Q : Int) := by omega
  by_cases hf : 0 ≤ f
  · have : 1 * f ≤ (Q : Int) * f := Int.mul_le_mul_of_nonneg_right hQ1 hf
    omega
  · have : (Q : Int) * (f + 1) ≤ 1 * (f + 1) := Int.mul_le_mul_of_nonpos_right hQ1 (by omega)
    rw [Int.mul_add] at this
    omega

theorem low_floor {P : Int} {Q : Nat} (a : Low P Q) : Low (P.fdiv Q) 1 := low_one (Nat.lt_of_le_of_lt (fdiv_abs P a.1) a.2.2.1)

/-- A block of three cells, none of them frozen. -/
structure Box3 (w : World) (B : Nat) (v0 v1 v2 : Value) : Prop where
  c0 : w.cell? ⟨B, 0, none⟩ = some v0
  c1 : w.cell? ⟨B, 1, none⟩ = some v1
  c2 : w.cell? ⟨B, 2, none⟩ = some v2
  fr : ∀ j, w.frozen? ⟨B, j, none⟩ = false

theorem Box3.lt {w : World} {B : Nat} {v0 v1 v2 : Value} (h : Box3 w B v0 v1 v2) : B < w.heap.size := World.block_lt_of_cell? w _ h.c0

theorem Box3.new {w : World} {B : Nat} (v0 v1 v2 : Value) (t : TypeId) (h : B = w.heap.size) : Box3 (w.alloc (.cells #[v0, v1, v2] t)) B v0 v1 v2 := by
  subst h
  exact ⟨by simp, by simp, by simp, fun j => by
    have hh := heap_alloc_new w (.cells #[v0, v1, v2] t)
    simp only [World.frozen?, hh]
    simp⟩

theorem Box3.below {w w' : World} {B C : Nat} {v0 v1 v2 : Value} (h : Box3 w B v0 v1 v2) (hb : Below C w w') (hC : B < C) : Box3 w' B v0 v1 v2 :=
  ⟨(hb.cell hC).trans h.c0, (hb.cell hC).trans h.c1, (hb.cell hC).trans h.c2, fun j => (hb.frozen hC).trans (h.fr j)⟩

theorem Box3.later {w w' : World} {B : Nat} {v0 v1 v2 : Value} (h : Box3 w B v0 v1 v2) (hb : Below w.heap.size w w') : Box3 w' B v0 v1 v2 := h.below hb h.lt

theorem Box3.alloc {w : World} {B : Nat} {v0 v1 v2 : Value} (h : Box3 w B v0 v1 v2) (o : Obj) : Box3 (w.alloc o) B v0 v1 v2 := h.later ((Below.refl _ w).alloc (Nat.le_refl _) o)

theorem Box3.drew {w : World} {B : Nat} {v0 v1 v2 : Value} (h : Box3 w B v0 v1 v2) : Box3 w.drew B v0 v1 v2 := ⟨h.c0, h.c1, h.c2, h.fr⟩

theorem cell_set_ne {w : World} {a b : Addr} {v : Value} (h : a ≠ b) : (w.setCell b v).cell? a = w.cell? a := World.cell?_setCell_other _ _ _ _ (fun e => h e.symm)

theorem Box3.set {w : World} {B : Nat} {v0 v1 v2 : Value} (h : Box3 w B v0 v1 v2) (u0 u1 u2 : Value) : Box3 (((w.setCell ⟨B, 0, none⟩ u0).setCell ⟨B, 1, none⟩ u1).setCell ⟨B, 2, none⟩ u2) B u0 u1 u2 := by
  have ne : ∀ {j k : Nat}, j ≠ k → (⟨B, j, none⟩ : Addr) ≠ ⟨B, k, none⟩ := fun h e => h (by injection e)
  refine ⟨?_, ?_, ?_, fun j => by rw [World.frozen?_setCell, World.frozen?_setCell, World.frozen?_setCell]; exact h.fr j⟩
  · rw [cell_set_ne (ne (by decide)), cell_set_ne (ne (by decide))]
    exact World.cell?_setCell_same _ _ _ h.c0
  · rw [cell_set_ne (ne (by decide))]
    refine World.cell?_setCell_same _ _ _ (?_ : _ = some v1)
    rw [cell_set_ne (ne (by decide))]
    exact h.c1
  · refine World.cell?_setCell_same _ _ _ (?_ : _ = some v2)
    rw [cell_set_ne (ne (by decide)), cell_set_ne (ne (by decide))]
    exact h.c2

theorem Box3.other {w : World} {B C : Nat} {v0 v1 v2 : Value} (h : Box3 w B v0 v1 v2) (hne : B ≠ C) (u0 u1 : Value) : Box3 ((w.setCell ⟨C, 0, none⟩ u0).setCell ⟨C, 1, none⟩ u1) B v0 v1 v2 := by
  have ne : ∀ j k, (⟨B, j, none⟩ : Addr) ≠ ⟨C, k, none⟩ := fun j k e => hne (by injection e)
  refine ⟨?_, ?_, ?_, fun j => by rw [World.frozen?_setCell, World.frozen?_setCell]; exact h.fr j⟩
  · rw [cell_set_ne (ne _ _), cell_set_ne (ne _ _)]; exact h.c0
  · rw [cell_set_ne (ne _ _), cell_set_ne (ne _ _)]; exact h.c1
  · rw [cell_set_ne (ne _ _), cell_set_ne (ne _ _)]; exact h.c2

theorem Box3.other3 {w : World} {B C : Nat} {v0 v1 v2 : Value} (h : Box3 w B v0 v1 v2) (hne : B ≠ C) (u0 u1 u2 : Value) : Box3 (((w.setCell ⟨C, 0, none⟩ u0).setCell ⟨C, 1, none⟩ u1).setCell ⟨C, 2, none⟩ u2) B v0 v1 v2 := by
  have ne : ∀ j k, (⟨B, j, none⟩ : Addr) ≠ ⟨C, k, none⟩ := fun j k e => hne (by injection e)
  refine ⟨?_, ?_, ?_, fun j => by rw [World.frozen?_setCell, World.frozen?_setCell, World.frozen?_setCell]; exact h.fr j⟩
  · rw [cell_set_ne (ne _ _), cell_set_ne (ne _ _), cell_set_ne (ne _ _)]; exact h.c0
  · rw [cell_set_ne (ne _ _), cell_set_ne (ne _ _), cell_set_ne (ne _ _)]; exact h.c1
  · rw [cell_set_ne (ne _ _), cell_set_ne (ne _ _), cell_set_ne (ne _ _)]; exact h.c2

theorem Box.other3 {w : World} {B C : Nat} {v0 v1 : Value} (h : Box w B v0 v1) (hne : B ≠ C) (u0 u1 u2 : Value) : Box (((w.setCell ⟨C, 0, none⟩ u0).setCell ⟨C, 1, none⟩ u1).setCell ⟨C, 2, none⟩ u2) B v0 v1 := by
  have ne : ∀ j k, (⟨B, j, none⟩ : Addr) ≠ ⟨C, k, none⟩ := fun j k e => hne (by injection e)
  refine ⟨?_, ?_, fun j => by rw [World.frozen?_setCell, World.frozen?_setCell, World.frozen?_setCell]; exact h.fr j⟩
  · rw [cell_set_ne (ne _ _), cell_set_ne (ne _ _), cell_set_ne (ne _ _)]; exact h.c0
  · rw [cell_set_ne (ne _ _), cell_set_ne (ne _ _), cell_set_ne (ne _ _)]; exact h.c1

theorem below_set3 {w w' : World} {A B : Nat} (h : Below A w w') (hB : A ≤ B) (u0 u1 u2 : Value) : Below A w (((w'.setCell ⟨B, 0, none⟩ u0).setCell ⟨B, 1, none⟩ u1).setCell ⟨B, 2, none⟩ u2) := ((h.setCell (p := ⟨B, 0, none⟩) hB u0).setCell (p := ⟨B, 1, none⟩) hB u1).setCell (p := ⟨B, 2, none⟩) hB u2

theorem Sl.box3 {w : World} {ao : Option Addr} {n B : Nat} {f : Nat → Nat} {c : Bool} {p q : Option Addr} {k l k' l' : Nat} (h : Sl w ao n f) (z : Box3 w B (.bool c) (.slice p k l) (.slice q k' l')) (u0 u1 u2 : Value) : Sl (((w.setCell ⟨B, 0, none⟩ u0).setCell ⟨B, 1, none⟩ u1).setCell ⟨B, 2, none⟩ u2) ao n f := by
  rcases h with rfl | ⟨d, off, rfl, hc⟩
  · exact .inl rfl
  · refine .inr ⟨d, off, rfl, fun j hj => ?_⟩
    have e := hc j hj
    rw [cell_set_ne (fun e1 => by rw [e1, z.c2] at e; cases e), cell_set_ne (fun e1 => by rw [e1, z.c1] at e; cases e), cell_set_ne (fun e1 => by rw [e1, z.c0] at e; cases e)]
    exact e

theorem Right.box3 {w : World} {b : Bool} {ao : Option Addr} {n nc B : Nat} {x : Int} {c : Bool} {p q : Option Addr} {k l k' l' : Nat} (h : Right w b ao n nc x) (z : Box3 w B (.bool c) (.slice p k l) (.slice q k' l')) (u0 u1 u2 : Value) : Right (((w.setCell ⟨B, 0, none⟩ u0).setCell ⟨B, 1, none⟩ u1).setCell ⟨B, 2, none⟩ u2) b ao n nc x := by
  obtain ⟨f, h1, h2, h3, h4, h5⟩ := h.ex
  exact ⟨f, h1, h2, h3.box3 z u0 u1 u2, h4, h5⟩

theorem Whole.box3 {w : World} {b : Bool} {ao : Option Addr} {n nc B : Nat} {x : Int} {c : Bool} {p q : Option Addr} {k l k' l' : Nat} (h : Whole w b ao n nc x) (z : Box3 w B (.bool c) (.slice p k l) (.slice q k' l')) (u0 u1 u2 : Value) : Whole (((w.setCell ⟨B, 0, none⟩ u0).setCell ⟨B, 1, none⟩ u1).setCell ⟨B, 2, none⟩ u2) b ao n nc x := by
  obtain ⟨f, A, e⟩ := h.ex
  exact ⟨f, ⟨A.len, A.cap, A.few, A.sl.box3 z u0 u1 u2, A.lim⟩, e⟩

/-- A number as a call hands it back: top and bottom without noughts on top, a sign below 0 alone. -/
structure Rt (w : World) (b : Bool) (ao : Option Addr) (n nc : Nat) (bo : Option Addr) (m mc : Nat) (P : Int) (Q : Nat) : Prop where
  top : Right w b ao n nc P
  bot : Right w false bo m mc Q

theorem Rt.below {w w' : World} {b : Bool} {ao bo : Option Addr} {n nc m mc Q : Nat} {P : Int} (h : Rt w b ao n nc bo m mc P Q) (hb : Below w.heap.size w w') : Rt w' b ao n nc bo m mc P Q := ⟨h.top.below hb, h.bot.below hb⟩

theorem Rt.box {w : World} {b : Bool} {ao bo : Option Addr} {n nc m mc Q B : Nat} {P : Int} {c : Bool} {p : Option Addr} {k l : Nat} (h : Rt w b ao n nc bo m mc P Q) (z : Box w B (.bool c) (.slice p k l)) (u0 u1 : Value) : Rt ((w.setCell ⟨B, 0, none⟩ u0).setCell ⟨B, 1, none⟩ u1) b ao n nc bo m mc P Q := ⟨h.top.box z u0 u1, h.bot.box z u0 u1⟩

theorem Rt.box3 {w : World} {b : Bool} {ao bo : Option Addr} {n nc m mc Q B : Nat} {P : Int} {c : Bool} {p q : Option Addr} {k l k' l' : Nat} (h : Rt w b ao n nc bo m mc P Q) (z : Box3 w B (.bool c) (.slice p k l) (.slice q k' l')) (u0 u1 u2 : Value) : Rt (((w.setCell ⟨B, 0, none⟩ u0).setCell ⟨B, 1, none⟩ u1).setCell ⟨B, 2, none⟩ u2) b ao n nc bo m mc P Q := ⟨h.top.box3 z u0 u1 u2, h.bot.box3 z u0 u1 u2⟩

theorem Right.whole32 {w : World} {b : Bool} {ao : Option Addr} {n nc : Nat} {x : Int} (h : Right w b ao n nc x) (hx : x.natAbs < pw 32) : Whole w b ao n nc x := h.whole hx (by omega)

theorem Low.abs_lt {P : Int} {Q : Nat} (h : Low P Q) : P.natAbs < pw 32 := h.2.2.1

theorem Low.bot_lt {P : Int} {Q : Nat} (h : Low P Q) : (Q : Int).natAbs < pw 32 := by rw [Int.natAbs_natCast]; exact h.2.2.2

theorem Rt.upper {w : World} {b : Bool} {ao bo : Option Addr} {n nc m mc Q : Nat} {P : Int} (h : Rt w b ao n nc bo m mc P Q) (l : Low P Q) : Whole w b ao n nc P := h.top.whole32 l.abs_lt

theorem Rt.lower {w : World} {b : Bool} {ao bo : Option Addr} {n nc m mc Q : Nat} {P : Int} (h : Rt w b ao n nc bo m mc P Q) (l : Low P Q) : Whole w false bo m mc Q := h.bot.whole32 l.bot_lt

theorem rt_zero (w : World) : Rt w false none 0 0 none 0 0 0 0 := ⟨⟨fun _ => 0, Nat.le_refl _, by omega, .inl rfl, canon_zero _, rfl⟩, ⟨fun _ => 0, Nat.le_refl _, by omega, .inl rfl, canon_zero _, rfl⟩⟩

/-- A number and an error come back. -/
def ResPost (T : Int) (B : Nat) (E : Int) (w : World) (e : Ending) (w' : World) : Prop :=
  ∃ b ao n nc bo m mc, e = .returned (.tuple #[.agg #[.bool b, .slice ao n nc, .slice bo m mc], .int .i64 E]) ∧ Rt w' b ao n nc bo m mc T B ∧ Below w.heap.size w w'

/-- A number comes back. -/
def RatPost (T : Int) (B : Nat) (w : World) (e : Ending) (w' : World) : Prop :=
  ∃ b ao n nc bo m mc, e = .returned (.agg #[.bool b, .slice ao n nc, .slice bo m mc]) ∧ Rt w' b ao n nc bo m mc T B ∧ Below w.heap.size w w'

abbrev MakePost (p q : Int) := ResPost (mkT p q) (mkB p q) (mkE p q)

theorem ResPost.stored {w w2 : World} {b : Bool} {ao bo : Option Addr} {n nc m mc B Q : Nat} {T E : Int} {c : Bool} {p q : Option Addr} {k l k' l' : Nat} (h : Rt w2 b ao n nc bo m mc T Q) (z : Box3 w2 B (.bool c) (.slice p k l) (.slice q k' l')) (hb : Below w.heap.size w w2) (hB : w.heap.size ≤ B) :
    ResPost T Q E w (.returned (.tuple #[.agg #[.bool b, .slice ao n nc, .slice bo m mc], .int .i64 E])) (((w2.setCell ⟨B, 0, none⟩ (.bool b)).setCell ⟨B, 1, none⟩ (.slice ao n nc)).setCell ⟨B, 2, none⟩ (.slice bo m mc)) :=
  ⟨b, ao, n, nc, bo, m, mc, rfl, h.box3 z _ _ _, below_set3 hb hB _ _ _⟩

theorem RatPost.stored {w w2 : World} {b : Bool} {ao bo : Option Addr} {n nc m mc B Q : Nat} {T : Int} {c : Bool} {p q : Option Addr} {k l k' l' : Nat} (h : Rt w2 b ao n nc bo m mc T Q) (z : Box3 w2 B (.bool c) (.slice p k l) (.slice q k' l')) (hb : Below w.heap.size w w2) (hB : w.heap.size ≤ B) :
    RatPost T Q w (.returned (.agg #[.bool b, .slice ao n nc, .slice bo m mc])) (((w2.setCell ⟨B, 0, none⟩ (.bool b)).setCell ⟨B, 1, none⟩ (.slice ao n nc)).setCell ⟨B, 2, none⟩ (.slice bo m mc)) :=
  ⟨b, ao, n, nc, bo, m, mc, rfl, h.box3 z _ _ _, below_set3 hb hB _ _ _⟩

end Go.Proofs.Ytlfilpjiepdejaa
