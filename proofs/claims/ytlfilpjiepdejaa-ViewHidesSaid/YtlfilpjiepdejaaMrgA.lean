/-
  Plain facts on numbers that are limbs of 32 bits, the lowest one first: the value of n limbs, its bounds, that limbs without noughts on top are one value's alone. No program is named here.
  What the walks say of slices of limbs in memory: 'Sl' (a slice reads as these limbs), small laws. No program is named here but for the limbs' type.
  nat.trim and nat.limb: what a call of each comes to.
  Blocks of limbs that a call makes itself: 'Blk' (block b holds these limbs, none of them frozen), and what a store, a new block, a draw do to it; what a number in new memory is ('NumPost').
  nat.Norm: the same number, in new memory, without noughts on top.
  Whole numbers with a sign: what the walks say of them ('Whole': a sign and a slice of limbs make this number; 'IntPost': a call hands back this number, its limbs without noughts on top, its sign below 0 alone); whole.signed and whole.Norm.
  Plain facts on bit operations of numbers of 32 and 64 bits: no program is named here.
  The calls of math/bits and cmp that nat makes: what each comes to.
  More plain facts on limbs: order, products, differences.
  nat.Cmp: how two numbers stand.
  Plain facts on limbs moved up and down, and on the steps of a division.
-/
import Derived.WalkKit
import Derived.WalkSpells
import Derived.WalkLawsBesides
import Derived.Lib.Hide
import Derived.Test.YtlfilpjiepdejaaProg
import Derived.Laws.CopyOwn
import Derived.Deep.RegionHeld3
import Derived.Deep.DrawnRows
import Derived.Lib.BitFns
import Derived.Lib.Small
import Derived.Lib.Walk
import Derived.Deep.QuietTactic
import Derived.BigQuiet
namespace Go.Proofs.Ytlfilpjiepdejaa.Num

/-- 2^(32 n). -/
def pw : Nat → Nat
  | 0 => 1
  | n + 1 => 4294967296 * pw n

theorem pw_pos (n : Nat) : 0 < pw n := by
  induction n with
  | zero => decide
  | succ n ih => show 0 < 4294967296 * pw n; omega

theorem pw_succ (n : Nat) : pw (n + 1) = 4294967296 * pw n := rfl

theorem pw_add (n m : Nat) : pw (n + m) = pw n * pw m := by
  induction m with
  | zero => simp [pw]
  | succ m ih => rw [← Nat.add_assoc, pw_succ, ih, pw_succ, Nat.mul_left_comm]

theorem pw_le {n m : Nat} (h : n ≤ m) : pw n ≤ pw m := by
  obtain ⟨k, rfl⟩ := Nat.le.dest h
  rw [pw_add]
  exact Nat.le_mul_of_pos_right _ (pw_pos k)

/-- The value of the first n limbs. -/
def val (f : Nat → Nat) : Nat → Nat
  | 0 => 0
  | n + 1 => val f n + f n * pw n

theorem val_zero (f : Nat → Nat) : val f 0 = 0 := rfl

theorem val_succ (f : Nat → Nat) (n : Nat) : val f (n + 1) = val f n + f n * pw n := rfl

/-- Each of the first n is a limb. -/
def Lim (f : Nat → Nat) (n : Nat) : Prop := ∀ j, j < n → f j < 4294967296

theorem Lim.mono {f : Nat → Nat} {n m : Nat} (h : Lim f n) (hm : m ≤ n) : Lim f m := fun j hj => h j (Nat.lt_of_lt_of_le hj hm)

theorem mul_lt_pw {x n : Nat} (h : x < 4294967296) : x * pw n + pw n ≤ pw (n + 1) := by
  rw [pw_succ, ← Nat.succ_mul]
  exact Nat.mul_le_mul_right _ h

theorem val_lt {f : Nat → Nat} {n : Nat} (h : Lim f n) : val f n < pw n := by
  induction n with
  | zero => exact Nat.zero_lt_one
  | succ n ih =>
    have a := ih (h.mono (Nat.le_succ n))
    have b := mul_lt_pw (n := n) (h n (Nat.lt_succ_self n))
    rw [val_succ]
    omega

theorem val_congr {f g : Nat → Nat} {n : Nat} (h : ∀ j, j < n → f j = g j) : val f n = val g n := by
  induction n with
  | zero => rfl
  | succ n ih => rw [val_succ, val_succ, ih (fun j hj => h j (Nat.lt_succ_of_lt hj)), h n (Nat.lt_succ_self n)]

theorem val_ge {f : Nat → Nat} {n : Nat} (h : f n ≠ 0) : pw n ≤ val f (n + 1) := by
  rw [val_succ]
  have : 1 * pw n ≤ f n * pw n := Nat.mul_le_mul_right _ (by omega)
  omega

theorem val_nought {f : Nat → Nat} {n : Nat} (h : f n = 0) : val f (n + 1) = val f n := by rw [val_succ, h]; simp

/-- Equal values, equal limbs. -/
theorem val_inj {f g : Nat → Nat} {n : Nat} (hf : Lim f n) (hg : Lim g n) (h : val f n = val g n) : ∀ j, j < n → f j = g j := by
  induction n with
  | zero => intro j hj; omega
  | succ n ih =>
    have a := val_lt (hf.mono (Nat.le_succ n))
    have b := val_lt (hg.mono (Nat.le_succ n))
    rw [val_succ, val_succ] at h
    have e : f n = g n := by
      have h1 := congrArg (· / pw n) h
      simp only [Nat.add_mul_div_right _ _ (pw_pos n), Nat.div_eq_of_lt a, Nat.div_eq_of_lt b, Nat.zero_add] at h1
      exact h1
    have e2 : val f n = val g n := by rw [e] at h; omega
    intro j hj
    by_cases c : j = n
    · subst c; exact e
    · exact ih (hf.mono (Nat.le_succ n)) (hg.mono (Nat.le_succ n)) e2 j (by omega)

/-- No nought on top. -/
def Top (f : Nat → Nat) (n : Nat) : Prop := n = 0 ∨ f (n - 1) ≠ 0

theorem len_le_of_val_le {f g : Nat → Nat} {n m : Nat} (hg : Lim g m) (tf : Top f n) (h : val f n ≤ val g m) : n ≤ m := by
  rcases tf with rfl | tf
  · omega
  · apply Nat.le_of_not_lt
    intro hlt
    have hn : n = n - 1 + 1 := by omega
    have a : pw (n - 1) ≤ val f n := by
      rw [hn]
      exact val_ge tf
    have b := val_lt hg
    have c : pw m ≤ pw (n - 1) := pw_le (by omega)
    omega

theorem canon_len {f g : Nat → Nat} {n m : Nat} (hf : Lim f n) (hg : Lim g m) (tf : Top f n) (tg : Top g m) (h : val f n = val g m) : n = m :=
  Nat.le_antisymm (len_le_of_val_le hg tf (Nat.le_of_eq h)) (len_le_of_val_le hf tg (Nat.le_of_eq h.symm))

/-- n limbs without noughts on top, whose value is v. -/
structure Canon (v : Nat) (n : Nat) (f : Nat → Nat) : Prop where
  lim : Lim f n
  top : Top f n
  val : val f n = v

theorem Canon.len {v n m : Nat} {f g : Nat → Nat} (a : Canon v n f) (b : Canon v m g) : n = m := canon_len a.lim b.lim a.top b.top (a.val.trans b.val.symm)

theorem Canon.eq {v n m : Nat} {f g : Nat → Nat} (a : Canon v n f) (b : Canon v m g) : ∀ j, j < n → f j = g j := by
  obtain rfl := a.len b
  exact val_inj a.lim b.lim (a.val.trans b.val.symm)

theorem Canon.zero {n : Nat} {f : Nat → Nat} (a : Canon 0 n f) : n = 0 := a.len (g := f) ⟨fun j hj => by omega, .inl rfl, rfl⟩

theorem Canon.ne_zero {v n : Nat} {f : Nat → Nat} (a : Canon v n f) : n = 0 ↔ v = 0 := by
  constructor
  · rintro rfl; exact a.val.symm
  · rintro rfl; exact a.zero

theorem canon_zero (f : Nat → Nat) : Canon 0 0 f := ⟨fun j hj => by omega, .inl rfl, rfl⟩

theorem Canon.lt_pw {v n : Nat} {f : Nat → Nat} (a : Canon v n f) : v < pw n := by rw [← a.val]; exact val_lt a.lim

theorem Canon.len_le {v n k : Nat} {f : Nat → Nat} (a : Canon v n f) (h : v < pw k) : n ≤ k := by
  rcases a.top with rfl | t
  · omega
  · apply Nat.le_of_not_lt
    intro hlt
    have hn : n = n - 1 + 1 := by omega
    have e : pw (n - 1) ≤ Num.val f n := by
      rw [hn]
      exact val_ge t
    have c : pw k ≤ pw (n - 1) := pw_le (by omega)
    have := a.val
    omega

/-- The limb at a place, which may be above the top. -/
def at0 (f : Nat → Nat) (n i : Nat) : Nat := if i < n then f i else 0

theorem at0_lt {f : Nat → Nat} {n : Nat} (h : Lim f n) (i : Nat) : at0 f n i < 4294967296 := by
  unfold at0
  split
  · exact h i ‹_›
  · decide

theorem at0_in {f : Nat → Nat} {n i : Nat} (h : i < n) : at0 f n i = f i := if_pos h

theorem at0_out {f : Nat → Nat} {n i : Nat} (h : n ≤ i) : at0 f n i = 0 := if_neg (by omega)

theorem val_at0_le {f : Nat → Nat} {n m : Nat} (h : m ≤ n) : val (at0 f n) m = val f m := val_congr fun j hj => at0_in (by omega)

theorem val_at0_ge {f : Nat → Nat} {n m : Nat} (h : n ≤ m) : val (at0 f n) m = val f n := by
  induction m with
  | zero => obtain rfl : n = 0 := by omega
            rfl
  | succ m ih =>
    by_cases c : n = m + 1
    · subst c; exact val_at0_le (Nat.le_refl _)
    · rw [val_succ, ih (by omega), at0_out (by omega)]; simp

theorem at0_lim {f : Nat → Nat} {n : Nat} (h : Lim f n) (m : Nat) : Lim (at0 f n) m := fun i _ => at0_lt h i

/-- A limb put at a place. -/
def put (f : Nat → Nat) (i x : Nat) : Nat → Nat := fun j => if j = i then x else f j

theorem put_at (f : Nat → Nat) (i x : Nat) : put f i x i = x := if_pos rfl

theorem put_ne {f : Nat → Nat} {i x j : Nat} (h : j ≠ i) : put f i x j = f j := if_neg h

theorem val_put (f : Nat → Nat) (i x n : Nat) (h : n ≤ i) : val (put f i x) n = val f n := val_congr fun j hj => put_ne (by omega)

theorem val_put_succ (f : Nat → Nat) (i x : Nat) : val (put f i x) (i + 1) = val f i + x * pw i := by rw [val_succ, val_put f i x i (Nat.le_refl _), put_at]

theorem put_lim {f : Nat → Nat} {n i x : Nat} (h : Lim f n) (hx : x < 4294967296) : Lim (put f i x) n := by
  intro j hj
  by_cases c : j = i
  · subst c; rw [put_at]; exact hx
  · rw [put_ne c]; exact h j hj

/-- A step of a sum with carries: what it does to the values. -/
theorem sum_step {A B S c c' s x y P : Nat} (h : S + c * P = A + B) (e : s + 4294967296 * c' = x + y + c) : S + s * P + c' * (4294967296 * P) = A + x * P + (B + y * P) := by
  have e' := congrArg (· * P) e
  simp only [Nat.add_mul] at e'
  have : c' * (4294967296 * P) = 4294967296 * c' * P := by rw [Nat.mul_left_comm, Nat.mul_assoc]
  omega

/-- A step of a difference with borrows. -/
theorem dif_step {A B D c c' d x y P : Nat} (h : D + B = A + c * P) (e : d + y + c = x + 4294967296 * c') : D + d * P + (B + y * P) = A + x * P + c' * (4294967296 * P) := by
  have e' := congrArg (· * P) e
  simp only [Nat.add_mul] at e'
  have : c' * (4294967296 * P) = 4294967296 * c' * P := by rw [Nat.mul_left_comm, Nat.mul_assoc]
  omega

theorem sum_end {S c A B N : Nat} (h : S + c * pw (N + 1) = A + B) (hA : A < pw N) (hB : B < pw N) : S = A + B ∧ c = 0 := by
  have hp := pw_pos N
  rw [pw_succ] at h
  by_cases h0 : c = 0
  · subst h0; omega
  · have : 1 * (4294967296 * pw N) ≤ c * (4294967296 * pw N) := Nat.mul_le_mul_right _ (by omega)
    omega

end Go.Proofs.Ytlfilpjiepdejaa.Num

namespace Go.Proofs.Ytlfilpjiepdejaa
open Go.RowKit Num

/-- The slice at this address reads as the n limbs f. -/
def Sl (w : World) (ao : Option Addr) (n : Nat) (f : Nat → Nat) : Prop :=
  n = 0 ∨ ∃ b off, ao = some ⟨b, off, none⟩ ∧ ∀ j, j < n → w.cell? ⟨b, off + j, none⟩ = some (.int .u32 (f j))

/-- A slice's length, for a measure. -/
def lenOf : Value → Nat
  | .slice _ n _ => n
  | _ => 0

theorem Sl.nil (w : World) (ao : Option Addr) (f : Nat → Nat) : Sl w ao 0 f := .inl rfl

theorem Sl.mono {w : World} {ao : Option Addr} {n m : Nat} {f : Nat → Nat} (h : Sl w ao n f) (hm : m ≤ n) : Sl w ao m f := by
  rcases h with rfl | ⟨b, off, rfl, hc⟩
  · exact .inl (by omega)
  · exact .inr ⟨b, off, rfl, fun j hj => hc j (by omega)⟩

theorem Sl.congr {w : World} {ao : Option Addr} {n : Nat} {f g : Nat → Nat} (h : Sl w ao n f) (e : ∀ j, j < n → f j = g j) : Sl w ao n g := by
  rcases h with rfl | ⟨b, off, rfl, hc⟩
  · exact .inl rfl
  · exact .inr ⟨b, off, rfl, fun j hj => by rw [← e j hj]; exact hc j hj⟩

theorem Sl.below {w w' : World} {ao : Option Addr} {n : Nat} {f : Nat → Nat} (h : Sl w ao n f) (hb : Below w.heap.size w w') : Sl w' ao n f := by
  rcases h with rfl | ⟨b, off, rfl, hc⟩
  · exact .inl rfl
  · exact .inr ⟨b, off, rfl, fun j hj => (hb.cell (World.block_lt_of_cell? w _ (hc j hj))).trans (hc j hj)⟩

theorem Sl.same {w w' : World} {ao : Option Addr} {n : Nat} {f : Nat → Nat} (h : Sl w ao n f) (e : ∀ a, w'.cell? a = w.cell? a) : Sl w' ao n f := by
  rcases h with rfl | ⟨b, off, rfl, hc⟩
  · exact .inl rfl
  · exact .inr ⟨b, off, rfl, fun j hj => (e _).trans (hc j hj)⟩

/-- A slice of limbs, handed in to be read. -/
structure Arg (w : World) (ao : Option Addr) (n nc : Nat) (f : Nat → Nat) : Prop where
  len : n ≤ nc
  cap : nc ≤ 9223372036854775807
  few : n ≤ 1000000
  sl : Sl w ao n f
  lim : Lim f n

theorem Arg.below {w w' : World} {ao : Option Addr} {n nc : Nat} {f : Nat → Nat} (h : Arg w ao n nc f) (hb : Below w.heap.size w w') : Arg w' ao n nc f := ⟨h.len, h.cap, h.few, h.sl.below hb, h.lim⟩

theorem Arg.same {w w' : World} {ao : Option Addr} {n nc : Nat} {f : Nat → Nat} (h : Arg w ao n nc f) (e : ∀ a, w'.cell? a = w.cell? a) : Arg w' ao n nc f := ⟨h.len, h.cap, h.few, h.sl.same e, h.lim⟩

end Go.Proofs.Ytlfilpjiepdejaa

namespace Go.Proofs.Ytlfilpjiepdejaa
open Go.RowKit Num

theorem ret_int {k : IntKind} {a b : Int} (h : a = b) : Ending.returned (.int k a) = .returned (.int k b) := by rw [h]

/-- nat.trim hands back the same limbs, without the noughts on top. -/
def TrimPost (ao : Option Addr) (n cap : Nat) (f : Nat → Nat) (w : World) (e : Ending) (w' : World) : Prop :=
  ∃ k, k ≤ n ∧ e = .returned (.slice ao k cap) ∧ Top f k ∧ val f k = val f n ∧ w = w'

set_option maxHeartbeats 400000 in
theorem trim_some (b off n cap : Nat) (f : Nat → Nat) (w : World) (hcap : n ≤ cap) (hmax : cap ≤ 9223372036854775807)
    (hc : ∀ j, j < n → w.cell? ⟨b, off + j, none⟩ = some (.int .u32 (f j))) :
    Calls Try.prog 63 #[.slice (some ⟨b, off, none⟩) n cap] w (TrimPost (some ⟨b, off, none⟩) n cap f w) := by
  go_enter Try.func63, Try.ntmps63
  go_wp2
  go_loop [0] (fun a => ∃ k : Nat, k ≤ n ∧ a = .slice (some ⟨b, off, none⟩) k cap ∧ val f k = val f n) (fun a => lenOf a)
  case atStart => exact ⟨n, Nat.le_refl _, rfl, rfl⟩
  case round =>
    obtain ⟨k, hk, rfl, hv0⟩ := hrel
    have hv := Lib.hid hv0; clear hv0
    by_cases h0 : k = 0
    · subst h0
      go_wp2
      go_ret
      exact ⟨0, Nat.zero_le _, rfl, .inl rfl, hv.out, rfl⟩
    · have hpos : 0 < k := by omega
      have hcell := hc (k - 1) (by omega)
      clear hc
      by_cases hz : f (k - 1) = 0
      · have hzi : ((f (k - 1) : Int) == 0) = true := by simp [hz]
        have hz' := Lib.hid hz; clear hz
        go_wp2
        go_round
        case rel =>
          have hk1 : k = k - 1 + 1 := by omega
          have e := val_nought hz'.out
          rw [← hk1] at e
          exact ⟨k - 1, by omega, rfl, e.symm.trans hv.out⟩
        case measure => simp [lenOf]; omega
      · have hzi : ((f (k - 1) : Int) == 0) = false := by simp [hz]
        go_wp2
        go_ret
        exact ⟨k, hk, rfl, .inr hz, hv.out, rfl⟩

set_option maxHeartbeats 400000 in
theorem trim_none (ao : Option Addr) (cap : Nat) (f : Nat → Nat) (w : World) :
    Calls Try.prog 63 #[.slice ao 0 cap] w (TrimPost ao 0 cap f w) := by
  go_enter Try.func63, Try.ntmps63
  go_wp2
  go_loop [0] (fun a => a = .slice ao 0 cap) (fun a => lenOf a)
  case atStart => exact rfl
  case round =>
    obtain rfl := hrel
    go_wp2
    go_ret
    exact ⟨0, Nat.zero_le _, rfl, .inl rfl, rfl, rfl⟩

theorem trim_any (ao : Option Addr) (n cap : Nat) (f : Nat → Nat) (w : World) (hcap : n ≤ cap) (hmax : cap ≤ 9223372036854775807) (hs : Sl w ao n f) :
    Calls Try.prog 63 #[.slice ao n cap] w (TrimPost ao n cap f w) := by
  rcases hs with rfl | ⟨b, off, rfl, hc⟩
  · exact trim_none ao cap f w
  · exact trim_some b off n cap f w hcap hmax hc

end Go.Proofs.Ytlfilpjiepdejaa

namespace Go.Proofs.Ytlfilpjiepdejaa
open Go.RowKit Num

theorem info32 : (Try.prog.info? 68).map (fun i => (i.zero, i.size, i.bytes)) = some (some (.int .u32 0), 1, 4) := by kernel_rfl

structure Blk (w : World) (b N : Nat) (F : Nat → Nat) : Prop where
  cell : ∀ j, j < N → w.cell? ⟨b, j, none⟩ = some (.int .u32 (F j))
  free : ∀ j, w.frozen? ⟨b, j, none⟩ = false

theorem Blk.lt {w : World} {b N : Nat} {F : Nat → Nat} (h : Blk w b N F) (hN : 0 < N) : b < w.heap.size := World.block_lt_of_cell? w _ (h.cell 0 hN)

theorem Blk.mono {w : World} {b N M : Nat} {F : Nat → Nat} (h : Blk w b N F) (hM : M ≤ N) : Blk w b M F := ⟨fun j hj => h.cell j (by omega), h.free⟩

theorem Blk.congr {w : World} {b N : Nat} {F G : Nat → Nat} (h : Blk w b N F) (e : ∀ j, j < N → F j = G j) : Blk w b N G := ⟨fun j hj => by rw [← e j hj]; exact h.cell j hj, h.free⟩

theorem Blk.of_made {w : World} {base g n : Nat} {e : TypeId} (h : w.ownsRow base e 1 (.slice (some ⟨g, 0, none⟩) n n) n (madeCells #[Value.int .u32 0] n).toList) : Blk w g n (fun _ => 0) := by
  refine ⟨fun j hj => ?_, fun j => h.frozenAt j⟩
  rw [h.cellAt j (by omega), toList_madeCells_one]
  simp [hj]

theorem Blk.set {w : World} {b N : Nat} {F : Nat → Nat} (h : Blk w b N F) (i : Nat) (hi : i < N) (v : Int) (x : Nat) (hv : v = (x : Int)) : Blk (w.setCell ⟨b, i, none⟩ (.int .u32 v)) b N (put F i x) := by
  subst hv
  refine ⟨fun j hj => ?_, fun j => by rw [World.frozen?_setCell]; exact h.free j⟩
  by_cases c : j = i
  · subst c
    rw [put_at]
    exact World.cell?_setCell_same _ _ _ (h.cell j hj)
  · rw [put_ne c, World.cell?_setCell_other _ _ _ _ (fun e => c (by injection e with _ e2; exact e2.symm))]
    exact h.cell j hj

/-- Nothing but block b has turned. -/
theorem grown_setCell {w w' : World} {b : Nat} (h : w.grownBy w' (some b)) (i : Nat) (v : Value) : w.grownBy (w'.setCell ⟨b, i, none⟩ v) (some b) :=
  ⟨h.os, h.tape, h.output, by simpa [World.setCell] using h.size, fun k hk hne => by
    rw [Below.heap_setCell _ _ _ _ (fun e => hne (by rw [e]))]; exact h.block k hk hne⟩

theorem grown_refl (w : World) (r : Option Nat) : w.grownBy w r := ⟨rfl, rfl, rfl, Nat.le_refl _, fun _ _ _ => rfl⟩

theorem grown_any {w w' : World} (h : w.grownBy w' none) (r : Option Nat) : w.grownBy w' r := ⟨h.os, h.tape, h.output, h.size, fun k hk _ => h.block k hk (fun e => by cases e)⟩

theorem grown_drewN {w w' : World} {r : Option Nat} (h : w.grownBy w' r) (n : Nat) : w.grownBy (w'.drewN n) r := ⟨h.os, h.tape, h.output, h.size, h.block⟩

theorem grown_drew {w w' : World} {r : Option Nat} (h : w.grownBy w' r) : w.grownBy w'.drew r := ⟨h.os, h.tape, h.output, h.size, h.block⟩

theorem grown_trans {w w' w'' : World} {r : Option Nat} (h : w.grownBy w' r) (k : w'.grownBy w'' r) : w.grownBy w'' r :=
  ⟨k.os.trans h.os, k.tape.trans h.tape, k.output.trans h.output, Nat.le_trans h.size k.size, fun i hi hn => (k.block i (Nat.lt_of_lt_of_le hi h.size) hn).trans (h.block i hi hn)⟩

theorem grown_below {w w' : World} {B b : Nat} (h : w.grownBy w' (some b)) (hB : B ≤ b) (hs : B ≤ w.heap.size) : Below B w w' :=
  ⟨h.os, h.tape, h.output, h.size, fun k hk => h.block k (by omega) (fun e => by cases e; omega)⟩

theorem Blk.drew {w : World} {b N : Nat} {F : Nat → Nat} (h : Blk w b N F) : Blk w.drew b N F := ⟨h.cell, h.free⟩

theorem Blk.drewN {w : World} {b N : Nat} {F : Nat → Nat} (h : Blk w b N F) (n : Nat) : Blk (w.drewN n) b N F := ⟨h.cell, h.free⟩

theorem Blk.kept {w w' : World} {b c N : Nat} {F : Nat → Nat} (h : Blk w b N F) (hN : b < w.heap.size) (hg : w.grownBy w' (some c)) (hne : b ≠ c) : Blk w' b N F := by
  have hb : w'.heap[b]? = w.heap[b]? := hg.block b hN (fun e => hne (by cases e; rfl))
  exact ⟨fun j hj => (World.cell?_of_block (w := w) hb).trans (h.cell j hj), fun j => (World.frozen?_of_block (w := w) hb).trans (h.free j)⟩

theorem Blk.below {w w' : World} {b N B : Nat} {F : Nat → Nat} (h : Blk w b N F) (hb : Below B w w') (hB : b < B) : Blk w' b N F :=
  ⟨fun j hj => (hb.cell (by exact hB)).trans (h.cell j hj), fun j => (hb.frozen (by exact hB)).trans (h.free j)⟩

theorem Sl.of_blk {w : World} {b N : Nat} {F : Nat → Nat} (h : Blk w b N F) (off n : Nat) (hn : off + n ≤ N) : Sl w (some ⟨b, off, none⟩) n (fun j => F (off + j)) := by
  by_cases c : n = 0
  · exact .inl c
  · exact .inr ⟨b, off, rfl, fun j hj => h.cell (off + j) (by omega)⟩

theorem Sl.of_blk0 {w : World} {b N : Nat} {F : Nat → Nat} (h : Blk w b N F) (n : Nat) (hn : n ≤ N) : Sl w (some ⟨b, 0, none⟩) n F := by
  by_cases c : n = 0
  · exact .inl c
  · exact .inr ⟨b, 0, rfl, fun j hj => by rw [Nat.zero_add]; exact h.cell j (by omega)⟩

/-- Where a slice lies: below block B, if it has any cell. -/
def InB (B : Nat) (ao : Option Addr) (n : Nat) : Prop := n = 0 ∨ ∀ a, ao = some a → a.block < B

theorem Sl.inB {w : World} {ao : Option Addr} {n : Nat} {f : Nat → Nat} (h : Sl w ao n f) : InB w.heap.size ao n := by
  rcases h with rfl | ⟨b, off, rfl, hc⟩
  · exact .inl rfl
  · by_cases c : n = 0
    · exact .inl c
    · refine .inr fun a ha => ?_
      cases ha
      exact World.block_lt_of_cell? w _ (hc 0 (by omega))

theorem InB.mono {B C : Nat} {ao : Option Addr} {n : Nat} (h : InB B ao n) (hC : B ≤ C) : InB C ao n := by
  rcases h with rfl | h
  · exact .inl rfl
  · exact .inr fun a ha => Nat.lt_of_lt_of_le (h a ha) hC

theorem Sl.below' {w w' : World} {ao : Option Addr} {n B : Nat} {f : Nat → Nat} (h : Sl w ao n f) (hi : InB B ao n) (hb : Below B w w') : Sl w' ao n f := by
  rcases h with rfl | ⟨b, off, rfl, hc⟩
  · exact .inl rfl
  · rcases hi with rfl | hi
    · exact .inl rfl
    · have hlt : b < B := hi _ rfl
      exact .inr ⟨b, off, rfl, fun j hj => (hb.cell (p := ⟨b, off + j, none⟩) (by exact hlt)).trans (hc j hj)⟩

/-- Where a slice does not lie: in block b, if it has any cell. -/
def Off (b : Nat) (ao : Option Addr) (n : Nat) : Prop := n = 0 ∨ ∀ a, ao = some a → a.block ≠ b

theorem InB.off {b : Nat} {ao : Option Addr} {n : Nat} (h : InB b ao n) : Off b ao n := by
  rcases h with rfl | h
  · exact .inl rfl
  · exact .inr fun a ha e => by have := h a ha; omega

theorem Sl.off {w : World} {ao : Option Addr} {n : Nat} {f : Nat → Nat} (h : Sl w ao n f) : Off w.heap.size ao n := h.inB.off

/-- A store into block b, or more of them, leaves a slice that lies elsewhere. -/
theorem Sl.grown {w w' : World} {ao : Option Addr} {n b : Nat} {f : Nat → Nat} (h : Sl w ao n f) (hi : Off b ao n) (hg : w.grownBy w' (some b)) : Sl w' ao n f := by
  rcases h with rfl | ⟨c, off, rfl, hc⟩
  · exact .inl rfl
  · rcases hi with rfl | hi
    · exact .inl rfl
    · refine .inr ⟨c, off, rfl, fun j hj => ?_⟩
      have hne : c ≠ b := hi _ rfl
      exact (World.cell?_of_block (w := w) (hg.block c (World.block_lt_of_cell? w _ (hc j hj)) (fun e => hne (by cases e; rfl)))).trans (hc j hj)

theorem int_eq {k : IntKind} {a b : Int} (h : a = b) : Value.int k a = Value.int k b := by rw [h]

/-- A slice of limbs without noughts on top, whose value is v; what lay there before lies there still. -/
def NumPost (v : Nat) (w : World) (e : Ending) (w' : World) : Prop :=
  ∃ ao n cap f, e = .returned (.slice ao n cap) ∧ n ≤ cap ∧ cap ≤ 9223372036854775807 ∧ Sl w' ao n f ∧ Canon v n f ∧ Below w.heap.size w w'

end Go.Proofs.Ytlfilpjiepdejaa

namespace Go.Proofs.Ytlfilpjiepdejaa
open Go.RowKit Num

theorem size32 : (Try.prog.info? 68).map (·.size) = some 1 := by kernel_rfl

theorem heap_of_made {w : World} {base g n : Nat} {e : TypeId} (h : w.ownsRow base e 1 (.slice (some ⟨g, 0, none⟩) n n) n (madeCells #[Value.int .u32 0] n).toList) :
    w.heap[g]? = some (.cells (List.replicate n (Value.int .u32 0)).toArray e (0, 0)) := by
  rcases h.2 with ⟨hn, _⟩ | ⟨g', cap, cur, hv, hb, hg, hnc, hcm, hcs, ht⟩
  · cases hn
  · cases hv
    rw [toList_madeCells_one] at ht
    have hc : cur.toList = List.replicate n (Value.int .u32 0) := by
      rw [← ht, List.take_of_length_le]
      simpa using Nat.le_of_eq hcs
    rw [hg, ← hc]

theorem Blk.of_heap {w : World} {b N : Nat} {F : Nat → Nat} {l : List Value} {t : TypeId} (h : w.heap[b]? = some (.cells l.toArray t (0, 0))) (hl : ∀ j, j < N → l[j]? = some (.int .u32 (F j))) : Blk w b N F := by
  refine ⟨fun j hj => ?_, fun j => ?_⟩
  · simp [World.cell?, h, hl j hj]
  · simp [World.frozen?, h]

/-- n limbs as cells. -/
def limbCells (f : Nat → Nat) (n : Nat) : List Value := (List.range n).map fun j => .int .u32 (f j)

theorem limbCells_length (f : Nat → Nat) (n : Nat) : (limbCells f n).length = n := by simp [limbCells]

theorem limbCells_get (f : Nat → Nat) (n j : Nat) (h : j < n) : (limbCells f n)[j]? = some (.int .u32 (f j)) := by simp [limbCells, h]

theorem limbCells_one (f : Nat → Nat) (n : Nat) : ∀ v ∈ limbCells f n, v.oneCell' = true := by
  intro v hv
  simp only [limbCells, List.mem_map] at hv
  obtain ⟨j, _, rfl⟩ := hv
  rfl

theorem limbCells_at {w : World} {b off n : Nat} {f : Nat → Nat} (h : ∀ j, j < n → w.cell? ⟨b, off + j, none⟩ = some (.int .u32 (f j))) :
    ∀ j v, (limbCells f n)[j]? = some v → w.cell? ((⟨b, off, none⟩ : Addr).add j) = some v := by
  intro j v hv
  have hj : j < n := by
    have := (List.getElem?_eq_some_iff.1 hv).1
    simpa [limbCells_length] using this
  rw [limbCells_get f n j hj] at hv
  cases hv
  have e : (⟨b, off, none⟩ : Addr).add j = ⟨b, off + j, none⟩ := by unfold Addr.add; split <;> simp_all
  rw [e]
  exact h j hj

theorem Sl.cellsAt {w : World} {ao : Option Addr} {n : Nat} {f : Nat → Nat} (h : Sl w ao n f) (hn : 0 < (limbCells f n).length) : ∃ ad, ao = some ad ∧ ∀ j v, (limbCells f n)[j]? = some v → w.cell? (ad.add j) = some v := by
  rw [limbCells_length] at hn
  rcases h with rfl | ⟨b, off, rfl, hc⟩
  · omega
  · exact ⟨_, rfl, limbCells_at hc⟩

set_option maxHeartbeats 400000 in
theorem norm_any (ao : Option Addr) (n nc : Nat) (f : Nat → Nat) (w : World) (A : Arg w ao n nc f) :
    Calls Try.prog 62 #[.slice ao n nc] w (NumPost (val f n) w) := by
  obtain ⟨hn, hnc, hnb, hf, lf⟩ := A
  obtain ⟨i32, hi, hz0, hz1, hz2⟩ := info_parts info32
  go_enter Try.func62, Try.ntmps62
  go_wp2_with fail
  refine (trim_any ao n nc f w hn (by omega) hf).mono ?_
  rintro e w' ⟨k, hk, rfl, htf0, hvf0, rfl⟩
  have htf := Lib.hid htf0; have hvf := Lib.hid hvf0; clear htf0 hvf0
  go_wp2_with (at_make; refine wpList_make_full _ rfl (.tmp 7) (.tmp 7) 27 rfl w.heap.size 68 i32 (.int .u32 0) 1 Try.underlying27 hi hz0 hz1 .i64 .i64 _ _ k rfl rfl rfl rfl (by rw [hz2]; omega) (by unfold maxLen; omega) (Nat.le_refl _) ?_)
  intro w1 hown hgrow
  have hheap := heap_of_made hown
  have hsl1 := (hf.mono hk).grown (b := w.heap.size) (hf.mono hk).off (grown_any hgrow _)
  have hbel : Below w.heap.size w w1 := (Below.refl _ w).grown hgrow (Nat.le_refl _) (fun _ h => by cases h)
  obtain ⟨cs, hcs0⟩ : ∃ cs, cs = limbCells f k := ⟨_, rfl⟩
  have hlen : cs.length = k := by rw [hcs0, limbCells_length]
  have hlen' := Lib.hid hlen
  have hone : ∀ v ∈ cs, v.oneCell' = true := by rw [hcs0]; exact limbCells_one f k
  have hat : 0 < cs.length → (some (⟨w.heap.size, 0, none⟩ : Addr)) = some ⟨w.heap.size, 0, none⟩ ∧ ∃ ad, ao = some ad ∧ ∀ j v, cs[j]? = some v → w1.cell? (ad.add j) = some v := by
    rw [hcs0]; exact fun h => ⟨rfl, hsl1.cellsAt h⟩
  have hheap' := Lib.hid hheap
  have hcs := Lib.hid hcs0
  clear hcs0 hown hheap hlen
  go_wp2_with (with_reducible refine wpList_copy_splice rfl (.tmp 9) (.tmp 10) 27 27 rfl 68 Try.underlying27 size32 (some ⟨w.heap.size, 0, none⟩) ao k k k nc rfl rfl w.heap.size 0 (List.replicate k (Value.int .u32 0)) 68 hheap'.out cs ?c1 hat ?c2 hone w.heap.size w hbel (Nat.le_refl _) ?_)
  case c1 => simp [hlen'.out]
  case c2 => simp [hlen'.out]
  intro w2 hg2 hb2
  go_wp2_with fail
  go_ret
  have hblk : Blk w2 w.heap.size k f := Blk.of_heap hg2.out (fun j hj => by
    have e : splice (List.replicate k (Value.int .u32 0)) 0 cs = cs := by simp [splice, hlen'.out]
    rw [e, hcs.out, limbCells_get f k j hj])
  exact ⟨some ⟨w.heap.size, 0, none⟩, k, k, f, rfl, Nat.le_refl _, by omega, Sl.of_blk0 hblk k (Nat.le_refl _), ⟨lf.mono hk, htf.out, hvf.out⟩, hb2⟩

end Go.Proofs.Ytlfilpjiepdejaa

namespace Go.Proofs.Ytlfilpjiepdejaa
open Go.RowKit Num

/-- The number of a sign and a size. -/
def sgn (b : Bool) (v : Nat) : Int := if b then -(v : Int) else v

theorem sgn_false (v : Nat) : sgn false v = v := rfl

theorem sgn_true (v : Nat) : sgn true v = -(v : Int) := rfl

theorem sgn_abs (b : Bool) (v : Nat) : (sgn b v).natAbs = v := by cases b <;> simp [sgn]

theorem sgn_neg (b : Bool) (v : Nat) : decide (sgn b v < 0) = (b && decide (0 < v)) := by
  cases b
  · simp [sgn]
  · by_cases h : 0 < v
    · simp [sgn, h]
    · have : v = 0 := by omega
      subst this; simp [sgn]

theorem sgn_self (x : Int) : sgn (decide (x < 0)) x.natAbs = x := by
  by_cases h : x < 0
  · simp only [h, decide_true, sgn]; simp; omega
  · simp only [h, decide_false, sgn]; simp; omega

theorem sgn_not (b : Bool) (v : Nat) : sgn (!b) v = -sgn b v := by cases b <;> simp [sgn]

theorem sgn_mul (b c : Bool) (u v : Nat) : sgn b u * sgn c v = sgn (!(b == c)) (u * v) := by cases b <;> cases c <;> simp [sgn, Int.neg_mul, Int.mul_neg]

theorem sgn_add (b : Bool) (u v : Nat) : sgn b u + sgn b v = sgn b (u + v) := by cases b <;> simp [sgn] <;> omega

theorem sgn_sub {b c : Bool} (h : b ≠ c) {u v : Nat} (hv : v ≤ u) : sgn b u + sgn c v = sgn b (u - v) := by
  cases b <;> cases c <;> simp [sgn] at h ⊢ <;> omega

/-- A sign and a slice of limbs, handed in to be read, make the number x. -/
structure Whole (w : World) (b : Bool) (ao : Option Addr) (n nc : Nat) (x : Int) : Prop where
  ex : ∃ f, Arg w ao n nc f ∧ sgn b (val f n) = x

theorem Whole.below {w w' : World} {b : Bool} {ao : Option Addr} {n nc : Nat} {x : Int} (h : Whole w b ao n nc x) (hb : Below w.heap.size w w') : Whole w' b ao n nc x := by
  obtain ⟨f, A, e⟩ := h.ex
  exact ⟨f, A.below hb, e⟩

/-- A sign and a slice of limbs as a call hands them back: no noughts on top, 0 has no sign. -/
structure Right (w : World) (b : Bool) (ao : Option Addr) (n nc : Nat) (x : Int) : Prop where
  ex : ∃ f, n ≤ nc ∧ nc ≤ 9223372036854775807 ∧ Sl w ao n f ∧ Canon x.natAbs n f ∧ b = decide (x < 0)

theorem Right.below {w w' : World} {b : Bool} {ao : Option Addr} {n nc : Nat} {x : Int} (h : Right w b ao n nc x) (hb : Below w.heap.size w w') : Right w' b ao n nc x := by
  obtain ⟨f, h1, h2, h3, h4, h5⟩ := h.ex
  exact ⟨f, h1, h2, h3.below hb, h4, h5⟩

theorem Right.whole {w : World} {b : Bool} {ao : Option Addr} {n nc k : Nat} {x : Int} (h : Right w b ao n nc x) (hx : x.natAbs < pw k) (hk : k ≤ 1000000) : Whole w b ao n nc x := by
  obtain ⟨f, h1, h2, h3, h4, rfl⟩ := h.ex
  refine ⟨f, ⟨h1, h2, Nat.le_trans (h4.len_le hx) hk, h3, h4.lim⟩, ?_⟩
  rw [h4.val]; exact sgn_self x

theorem Right.neg {w : World} {b : Bool} {ao : Option Addr} {n nc : Nat} {x : Int} (h : Right w b ao n nc x) : b = decide (x < 0) := by
  obtain ⟨f, _, _, _, _, h⟩ := h.ex
  exact h

/-- The number x comes back; what lay there before lies there still. -/
def IntPost (x : Int) (w : World) (e : Ending) (w' : World) : Prop :=
  ∃ b ao n nc, e = .returned (.agg #[.bool b, .slice ao n nc]) ∧ Right w' b ao n nc x ∧ Below w.heap.size w w'

set_option maxHeartbeats 400000 in
/-- whole.signed: a sign put to limbs, but to none. -/
theorem signed_any (b : Bool) (ao : Option Addr) (v n nc : Nat) (f : Nat → Nat) (w : World) (hn : n ≤ nc) (hc : nc ≤ 9223372036854775807) (hs : Sl w ao n f) (cf : Canon v n f) :
    Calls Try.prog 61 #[.bool b, .slice ao n nc] w (IntPost (sgn b v) w) := by
  have hs' := Lib.hid hs; have cf' := Lib.hid cf
  have hb := Lib.hid (Below.refl w.heap.size w)
  clear hs cf
  have hd : (b && decide ((0 : Int) < (n : Int))) = decide (sgn b v < 0) := by
    rw [sgn_neg]
    congr 1
    have := cf'.out.ne_zero
    simp only [decide_eq_decide]
    omega
  have hd' := Lib.hid hd
  clear hd
  cases b
  · go_enter Try.func61, Try.ntmps61
    go_wp2_with fail
    refine bodyPost_ret (v := .agg #[.bool false, .slice ao n nc]) (by simp [results, Try.results61, go_sem]) rfl ?_
    have hb2 : Below w.heap.size w (w.alloc (.cells #[.bool false, .slice ao n nc] 73)) := (Below.refl _ w).alloc (Nat.le_refl _) _
    refine ⟨false, ao, n, nc, rfl, ⟨f, hn, hc, hs'.out.below hb2, by rw [sgn_abs]; exact cf'.out, ?_⟩, hb2⟩
    simpa using hd'.out
  · by_cases h0 : n = 0
    · subst h0
      go_enter Try.func61, Try.ntmps61
      go_wp2_with fail
      refine bodyPost_ret (v := .agg #[.bool false, .slice ao 0 nc]) (by simp [results, Try.results61, go_sem]) rfl ?_
      have hb2 : Below w.heap.size w (w.alloc (.cells #[.bool false, .slice ao 0 nc] 73)) := (Below.refl _ w).alloc (Nat.le_refl _) _
      refine ⟨false, ao, 0, nc, rfl, ⟨f, hn, hc, hs'.out.below hb2, by rw [sgn_abs]; exact cf'.out, ?_⟩, hb2⟩
      simpa using hd'.out
    · go_enter Try.func61, Try.ntmps61
      go_wp2_with fail
      simp only [Nat.pos_of_ne_zero h0, decide_true]
      refine bodyPost_ret (v := .agg #[.bool true, .slice ao n nc]) (by simp [results, Try.results61, go_sem]) rfl ?_
      have hb2 : Below w.heap.size w (w.alloc (.cells #[.bool true, .slice ao n nc] 73)) := (Below.refl _ w).alloc (Nat.le_refl _) _
      refine ⟨true, ao, n, nc, rfl, ⟨f, hn, hc, hs'.out.below hb2, by rw [sgn_abs]; exact cf'.out, ?_⟩, hb2⟩
      simpa [Nat.pos_of_ne_zero h0] using hd'.out

/-- A block of two cells, none of them frozen. -/
structure Box (w : World) (B : Nat) (v0 v1 : Value) : Prop where
  c0 : w.cell? ⟨B, 0, none⟩ = some v0
  c1 : w.cell? ⟨B, 1, none⟩ = some v1
  fr : ∀ j, w.frozen? ⟨B, j, none⟩ = false

theorem Box.lt {w : World} {B : Nat} {v0 v1 : Value} (h : Box w B v0 v1) : B < w.heap.size := World.block_lt_of_cell? w _ h.c0

theorem Box.new {w : World} {B : Nat} (v0 v1 : Value) (t : TypeId) (h : B = w.heap.size) : Box (w.alloc (.cells #[v0, v1] t)) B v0 v1 := by
  subst h
  exact ⟨by simp, by simp, fun j => by
    have hh := heap_alloc_new w (.cells #[v0, v1] t)
    simp only [World.frozen?, hh]
    simp⟩

theorem Box.below {w w' : World} {B C : Nat} {v0 v1 : Value} (h : Box w B v0 v1) (hb : Below C w w') (hC : B < C) : Box w' B v0 v1 :=
  ⟨(hb.cell hC).trans h.c0, (hb.cell hC).trans h.c1, fun j => (hb.frozen hC).trans (h.fr j)⟩

theorem Box.later {w w' : World} {B : Nat} {v0 v1 : Value} (h : Box w B v0 v1) (hb : Below w.heap.size w w') : Box w' B v0 v1 := h.below hb h.lt

theorem Box.alloc {w : World} {B : Nat} {v0 v1 : Value} (h : Box w B v0 v1) (o : Obj) : Box (w.alloc o) B v0 v1 := h.later ((Below.refl _ w).alloc (Nat.le_refl _) o)

theorem Box.drew {w : World} {B : Nat} {v0 v1 : Value} (h : Box w B v0 v1) : Box w.drew B v0 v1 := ⟨h.c0, h.c1, h.fr⟩

theorem Box.set {w : World} {B : Nat} {v0 v1 : Value} (h : Box w B v0 v1) (u0 u1 : Value) : Box ((w.setCell ⟨B, 0, none⟩ u0).setCell ⟨B, 1, none⟩ u1) B u0 u1 := by
  refine ⟨?_, ?_, fun j => by rw [World.frozen?_setCell, World.frozen?_setCell]; exact h.fr j⟩
  · rw [World.cell?_setCell_other _ _ _ _ (fun e => by injection e with _ e2; omega)]
    exact World.cell?_setCell_same _ _ _ h.c0
  · refine World.cell?_setCell_same _ _ _ (?_ : _ = some v1)
    rw [World.cell?_setCell_other _ _ _ _ (fun e => by injection e with _ e2; omega)]
    exact h.c1

theorem Box.other {w : World} {B C : Nat} {v0 v1 : Value} (h : Box w B v0 v1) (hne : B ≠ C) (u0 u1 : Value) : Box ((w.setCell ⟨C, 0, none⟩ u0).setCell ⟨C, 1, none⟩ u1) B v0 v1 := by
  have ne : ∀ j k, (⟨B, j, none⟩ : Addr) ≠ ⟨C, k, none⟩ := fun j k e => hne (by injection e)
  refine ⟨?_, ?_, fun j => by rw [World.frozen?_setCell, World.frozen?_setCell]; exact h.fr j⟩
  · rw [World.cell?_setCell_other _ _ _ _ (ne _ _).symm, World.cell?_setCell_other _ _ _ _ (ne _ _).symm]; exact h.c0
  · rw [World.cell?_setCell_other _ _ _ _ (ne _ _).symm, World.cell?_setCell_other _ _ _ _ (ne _ _).symm]; exact h.c1

theorem below_set {w w' : World} {A B : Nat} (h : Below A w w') (hB : A ≤ B) (u0 u1 : Value) : Below A w ((w'.setCell ⟨B, 0, none⟩ u0).setCell ⟨B, 1, none⟩ u1) := (h.setCell (p := ⟨B, 0, none⟩) hB u0).setCell (p := ⟨B, 1, none⟩) hB u1

theorem below_then {w w1 w2 : World} {A : Nat} (h : Below A w w1) (hA : A ≤ w.heap.size) (k : Below w1.heap.size w1 w2) : Below A w w2 := h.trans (k.mono (Nat.le_trans hA h.size))

theorem Sl.set {w : World} {ao : Option Addr} {n B : Nat} {f : Nat → Nat} (h : Sl w ao n f) (hB : Off B ao n) (u0 u1 : Value) : Sl ((w.setCell ⟨B, 0, none⟩ u0).setCell ⟨B, 1, none⟩ u1) ao n f := by
  rcases h with rfl | ⟨c, off, rfl, hc⟩
  · exact .inl rfl
  · rcases hB with rfl | hB
    · exact .inl rfl
    · have hne : c ≠ B := hB _ rfl
      refine .inr ⟨c, off, rfl, fun j hj => ?_⟩
      rw [World.cell?_setCell_other _ _ _ _ (fun e => hne (by injection e with e1 _; exact e1.symm)), World.cell?_setCell_other _ _ _ _ (fun e => hne (by injection e with e1 _; exact e1.symm))]
      exact hc j hj

theorem Sl.box {w : World} {ao : Option Addr} {n B : Nat} {f : Nat → Nat} {c : Bool} {p : Option Addr} {k l : Nat} (h : Sl w ao n f) (z : Box w B (.bool c) (.slice p k l)) (u0 u1 : Value) : Sl ((w.setCell ⟨B, 0, none⟩ u0).setCell ⟨B, 1, none⟩ u1) ao n f := by
  rcases h with rfl | ⟨d, off, rfl, hc⟩
  · exact .inl rfl
  · refine .inr ⟨d, off, rfl, fun j hj => ?_⟩
    have e := hc j hj
    rw [World.cell?_setCell_other _ _ _ _ (fun e1 => by rw [← e1, z.c1] at e; cases e), World.cell?_setCell_other _ _ _ _ (fun e1 => by rw [← e1, z.c0] at e; cases e)]
    exact e

theorem Right.box {w : World} {b : Bool} {ao : Option Addr} {n nc B : Nat} {x : Int} {c : Bool} {p : Option Addr} {k l : Nat} (h : Right w b ao n nc x) (z : Box w B (.bool c) (.slice p k l)) (u0 u1 : Value) : Right ((w.setCell ⟨B, 0, none⟩ u0).setCell ⟨B, 1, none⟩ u1) b ao n nc x := by
  obtain ⟨f, h1, h2, h3, h4, h5⟩ := h.ex
  exact ⟨f, h1, h2, h3.box z u0 u1, h4, h5⟩

theorem Whole.box {w : World} {b : Bool} {ao : Option Addr} {n nc B : Nat} {x : Int} {c : Bool} {p : Option Addr} {k l : Nat} (h : Whole w b ao n nc x) (z : Box w B (.bool c) (.slice p k l)) (u0 u1 : Value) : Whole ((w.setCell ⟨B, 0, none⟩ u0).setCell ⟨B, 1, none⟩ u1) b ao n nc x := by
  obtain ⟨f, A, e⟩ := h.ex
  exact ⟨f, ⟨A.len, A.cap, A.few, A.sl.box z u0 u1, A.lim⟩, e⟩

/-- What was made is laid into the block of the result. -/
theorem IntPost.stored {w w2 : World} {b : Bool} {ao : Option Addr} {n nc B : Nat} {x : Int} {c : Bool} {p : Option Addr} {k l : Nat} (h : Right w2 b ao n nc x) (z : Box w2 B (.bool c) (.slice p k l)) (hb : Below w.heap.size w w2) (hB : w.heap.size ≤ B) :
    IntPost x w (.returned (.agg #[.bool b, .slice ao n nc])) ((w2.setCell ⟨B, 0, none⟩ (.bool b)).setCell ⟨B, 1, none⟩ (.slice ao n nc)) :=
  ⟨b, ao, n, nc, rfl, h.box z _ _, below_set hb hB _ _⟩

/-- The world, told by what is known of it. -/
theorem gen_wp {P : Program} {c : Code} {Q : Exit → Act → World → Prop} {a : Act} {W : World} (R : World → Prop) (hW : R W) (h : ∀ w', R w' → Code.wp P c Q a w') : Code.wp P c Q a W := h W hW

theorem gen_calls {P : Program} {f : FuncId} {args : Array Value} {Q : Ending → World → Prop} {W : World} (R : World → Prop) (hW : R W) (h : ∀ w', R w' → Calls P f args w' Q) : Calls P f args W Q := h W hW

attribute [local go_sem ↓] Go.wp_at_zero Go.wp_at_succ

set_option maxHeartbeats 1000000 in
/-- whole.Norm -/
theorem wNorm_any (b : Bool) (ao : Option Addr) (n nc : Nat) (x : Int) (w : World) (A : Whole w b ao n nc x) :
    Calls Try.prog 58 #[.agg #[.bool b, .slice ao n nc]] w (IntPost x w) := by
  obtain ⟨f, A, hx⟩ := A.ex
  have A' := Lib.hid A; have hx' := Lib.hid hx
  clear A hx
  go_enter Try.func58, Try.ntmps58
  go_wp2_with fail
  refine gen_wp (fun w' => Below w.heap.size w w' ∧ Box w' w.heap.size (.bool b) (.slice ao n nc) ∧ Box w' (w.heap.size + 1) (.bool false) (.slice none 0 0))
    ⟨((Below.refl _ w).alloc (Nat.le_refl _) _).alloc (by simp) _, (Box.new _ _ _ rfl).alloc _, Box.new _ _ _ (by simp)⟩ ?_
  rintro w0 ⟨hb0, x0, x1⟩
  have hb0 := hb0.drew; have x0 := x0.drew; have x1 := x1.drew
  go_region_held3 (fun w' => w'.cell? ⟨w.heap.size, 0, none⟩ = some (.bool b) ∧ w'.cell? ⟨w.heap.size, 1, none⟩ = some (.slice ao n nc))
    (first | exact ⟨x0.c0, x0.c1⟩ | exact ⟨y0.c0, y0.c1⟩ | exact ⟨z0.c0, z0.c1⟩ | exact ⟨(z0.other (by omega) _ _).c0, (z0.other (by omega) _ _).c1⟩)
    (first
    | (go_at_call 62; refine (norm_any ao n nc f _ (A'.out.below hb0)).mono ?_; rintro e w1 ⟨co, cn, cc, c, rfl, h1, h2, h3, h4, hb⟩; have y0 := x0.later hb; have y1 := x1.later hb)
    | (go_at_call 61; refine (signed_any b co _ cn cc c _ h1 h2 h3 h4).mono ?_; rintro e w2 ⟨sb, so, sn, sc, rfl, hR, hb2⟩; have z0 := y0.later hb2; have z1 := y1.later hb2; have q1 := z1.c0; have q2 := z1.c1; have q3 := z1.fr 0; have q4 := z1.fr 1))
  have z2 := z1.set (.bool sb) (.slice so sn sc)
  have e0 := z2.c0; have e1 := z2.c1
  go_wp2_with fail
  refine bodyPost_ret (v := .agg #[.bool sb, .slice so sn sc]) (by simp [results, Try.results58, go_sem, e0, e1]) rfl ?_
  rw [← hx'.out]
  exact IntPost.stored hR z1 (below_then (below_then hb0 (Nat.le_refl _) hb) (Nat.le_refl _) hb2) (by omega)

end Go.Proofs.Ytlfilpjiepdejaa

namespace Go.Proofs.Ytlfilpjiepdejaa.Num

theorem wrap32_toNat (v : BitVec 32) : IntKind.u32.wrap (v.toNat : Int) = (v.toNat : Int) := by
  have h := v.isLt
  generalize v.toNat = n at h
  simp [IntKind.wrap, IntKind.signed, IntKind.bits]
  omega

theorem wrap64_toNat (v : BitVec 64) : IntKind.u64.wrap (v.toNat : Int) = (v.toNat : Int) := by
  have h := v.isLt
  generalize v.toNat = n at h
  simp [IntKind.wrap, IntKind.signed, IntKind.bits]
  omega

theorem ofInt_toNat32 (x : Nat) (h : x < 4294967296) : (BitVec.ofInt 32 (x : Int)).toNat = x := by
  rw [BitVec.ofInt_natCast, BitVec.toNat_ofNat]; omega

theorem ofInt_toNat64 (x : Nat) (h : x < 18446744073709551616) : (BitVec.ofInt 64 (x : Int)).toNat = x := by
  rw [BitVec.ofInt_natCast, BitVec.toNat_ofNat]; omega

theorem and32 (x y : Nat) (hx : x < 4294967296) (hy : y < 4294967296) : bits .and .u32 x y = ((x &&& y : Nat) : Int) := by
  show IntKind.u32.wrap ((BitVec.ofInt 32 x &&& BitVec.ofInt 32 y : BitVec 32).toNat : Int) = _
  rw [wrap32_toNat, BitVec.toNat_and, ofInt_toNat32 x hx, ofInt_toNat32 y hy]

theorem or32 (x y : Nat) (hx : x < 4294967296) (hy : y < 4294967296) : bits .or .u32 x y = ((x ||| y : Nat) : Int) := by
  show IntKind.u32.wrap ((BitVec.ofInt 32 x ||| BitVec.ofInt 32 y : BitVec 32).toNat : Int) = _
  rw [wrap32_toNat, BitVec.toNat_or, ofInt_toNat32 x hx, ofInt_toNat32 y hy]

theorem xor32 (x y : Nat) (hx : x < 4294967296) (hy : y < 4294967296) : bits .xor .u32 x y = ((x ^^^ y : Nat) : Int) := by
  show IntKind.u32.wrap ((BitVec.ofInt 32 x ^^^ BitVec.ofInt 32 y : BitVec 32).toNat : Int) = _
  rw [wrap32_toNat, BitVec.toNat_xor, ofInt_toNat32 x hx, ofInt_toNat32 y hy]

theorem or64 (x y : Nat) (hx : x < 18446744073709551616) (hy : y < 18446744073709551616) : bits .or .u64 x y = ((x ||| y : Nat) : Int) := by
  show IntKind.u64.wrap ((BitVec.ofInt 64 x ||| BitVec.ofInt 64 y : BitVec 64).toNat : Int) = _
  rw [wrap64_toNat, BitVec.toNat_or, ofInt_toNat64 x hx, ofInt_toNat64 y hy]

/-- A borrow. -/
def bor (x y : Int) : Int := if x < y then 1 else 0

theorem bor_cases (x y : Int) : (x < y ∧ bor x y = 1) ∨ (y ≤ x ∧ bor x y = 0) := by
  unfold bor
  split
  · exact .inl ⟨‹_›, rfl⟩
  · exact .inr ⟨by omega, rfl⟩

theorem and_lt32 {x y : Nat} (hx : x < 4294967296) : x &&& y < 4294967296 := Nat.lt_of_le_of_lt Nat.and_le_left hx

theorem or_lt32 {x y : Nat} (hx : x < 4294967296) (hy : y < 4294967296) : x ||| y < 4294967296 := Nat.or_lt_two_pow (n := 32) hx hy

theorem xor_lt32 {x y : Nat} (hx : x < 4294967296) (hy : y < 4294967296) : x ^^^ y < 4294967296 := Nat.xor_lt_two_pow (n := 32) hx hy

theorem top_bit (v : Nat) (h : v < 4294967296) : v / 2147483648 = if v.testBit 31 then 1 else 0 := by
  rw [Nat.testBit_eq_decide_div_mod_eq]
  have : (2 : Nat) ^ 31 = 2147483648 := rfl
  rw [this]
  by_cases c : v / 2147483648 % 2 = 1
  · simp [c]; omega
  · simp [c]; omega

theorem bit31 (v : Nat) (h : v < 4294967296) : v.testBit 31 = decide (2147483648 ≤ v) := by
  rw [Nat.testBit_eq_decide_div_mod_eq]
  have : (2 : Nat) ^ 31 = 2147483648 := rfl
  rw [this, decide_eq_decide]
  omega

theorem sub32_bits (x y c : Int) (x0 : 0 ≤ x) (x1 : x < 4294967296) (y0 : 0 ≤ y) (y1 : y < 4294967296) (c0 : 0 ≤ c) (c1 : c ≤ 1) :
    bits BinOp.or IntKind.u32 (bits BinOp.and IntKind.u32 (bits BinOp.xor IntKind.u32 IntKind.u32.max x) y)
      (bits BinOp.and IntKind.u32 (bits BinOp.xor IntKind.u32 IntKind.u32.max (bits BinOp.xor IntKind.u32 x y)) ((x - y - c) % 4294967296)) / 2147483648 = bor x (y + c) := by
  obtain ⟨x, rfl⟩ := Int.eq_ofNat_of_zero_le x0
  obtain ⟨y, rfl⟩ := Int.eq_ofNat_of_zero_le y0
  obtain ⟨d, hd⟩ := Int.eq_ofNat_of_zero_le (show 0 ≤ ((x : Int) - y - c) % 4294967296 by omega)
  have hdl : d < 4294967296 := by omega
  have hx : x < 4294967296 := by omega
  have hy : y < 4294967296 := by omega
  have hm : IntKind.u32.max = ((4294967295 : Nat) : Int) := by decide
  have m1 : 4294967295 < 4294967296 := by decide
  rw [hd, hm, xor32 _ _ m1 hx, xor32 _ _ hx hy, xor32 _ _ m1 (xor_lt32 hx hy), and32 _ _ (xor_lt32 m1 hx) hy, and32 _ _ (xor_lt32 m1 (xor_lt32 hx hy)) hdl,
    or32 _ _ (and_lt32 (xor_lt32 m1 hx)) (and_lt32 (xor_lt32 m1 (xor_lt32 hx hy)))]
  have ht := top_bit ((4294967295 ^^^ x) &&& y ||| (4294967295 ^^^ (x ^^^ y)) &&& d) (or_lt32 (and_lt32 (xor_lt32 m1 hx)) (and_lt32 (xor_lt32 m1 (xor_lt32 hx hy))))
  have hb : (4294967295 : Nat).testBit 31 = true := by decide
  rw [Nat.testBit_or, Nat.testBit_and, Nat.testBit_and, Nat.testBit_xor, Nat.testBit_xor, Nat.testBit_xor, hb, bit31 x hx, bit31 y hy, bit31 d hdl] at ht
  have hgoal : (((4294967295 ^^^ x) &&& y ||| (4294967295 ^^^ (x ^^^ y)) &&& d : Nat) : Int) / 2147483648 = ((((4294967295 ^^^ x) &&& y ||| (4294967295 ^^^ (x ^^^ y)) &&& d) / 2147483648 : Nat) : Int) := by omega
  rw [hgoal, ht]
  have hc : c = 0 ∨ c = 1 := by omega
  unfold bor
  by_cases a1 : 2147483648 ≤ x <;> by_cases a2 : 2147483648 ≤ y <;> by_cases a3 : 2147483648 ≤ d <;> simp [a1, a2, a3] <;> omega

theorem or_shift (x y : Int) (x0 : 0 ≤ x) (x1 : x < 4294967296) (y0 : 0 ≤ y) (y1 : y < 4294967296) : bits BinOp.or IntKind.u64 (x * 4294967296) y = x * 4294967296 + y := by
  obtain ⟨x, rfl⟩ := Int.eq_ofNat_of_zero_le x0
  obtain ⟨y, rfl⟩ := Int.eq_ofNat_of_zero_le y0
  have e : (x : Int) * 4294967296 = ((x * 4294967296 : Nat) : Int) := by omega
  rw [e, or64 _ _ (by omega) (by omega)]
  have h3 := Nat.two_pow_add_eq_or_of_lt (i := 32) (b := y) (by omega) x
  have h4 : x * 4294967296 ||| y = x * 4294967296 + y := by
    rw [Nat.mul_comm]; exact h3.symm
  rw [h4]
  omega

end Go.Proofs.Ytlfilpjiepdejaa.Num

namespace Go.Proofs.Ytlfilpjiepdejaa
open Go.RowKit Num

theorem ret_pair {k l : IntKind} {a b c d : Int} (h : a = b) (h' : c = d) : Ending.returned (.tuple #[.int k a, .int l c]) = .returned (.tuple #[.int k b, .int l d]) := by rw [h, h']

theorem ret_num {k : IntKind} {a b : Int} (h : a = b) : Ending.returned (.int k a) = .returned (.int k b) := by rw [h]

/-- A difference of two limbs and a borrow: the limb, and the borrow. -/
def subD (x y c : Nat) : Nat := if y + c ≤ x then x - y - c else x + 4294967296 - y - c

def subC (x y c : Nat) : Nat := if y + c ≤ x then 0 else 1

theorem sub_eq {x y c : Nat} (hx : x < 4294967296) (hy : y < 4294967296) (hc : c ≤ 1) : subD x y c + y + c = x + 4294967296 * subC x y c ∧ subD x y c < 4294967296 ∧ subC x y c ≤ 1 := by
  unfold subD subC
  split <;> omega

/-- How two numbers stand. -/
def cmpI (x y : Int) : Int := if x < y then -1 else if y < x then 1 else 0

theorem cmpI_lt {x y : Int} (h : x < y) : cmpI x y = -1 := if_pos h

theorem cmpI_gt {x y : Int} (h : y < x) : cmpI x y = 1 := by unfold cmpI; rw [if_neg (by omega), if_pos h]

theorem cmpI_eq {x y : Int} (h : x = y) : cmpI x y = 0 := by unfold cmpI; rw [if_neg (by omega), if_neg (by omega)]

/-- How far a limb that isn't 0 must be moved up till its top bit is 1. -/
def lead (x : Nat) : Nat := 32 - Lib.bitLen x

theorem bitLenAux_zero (f : Nat) : Lib.bitLenAux f 0 = 0 := by cases f <;> simp [Lib.bitLenAux]

theorem bitLenAux_pow : ∀ (f x : Nat), x < 2 ^ f → x ≠ 0 → 1 ≤ Lib.bitLenAux f x ∧ 2 ^ (Lib.bitLenAux f x - 1) ≤ x ∧ x < 2 ^ Lib.bitLenAux f x := by
  intro f
  induction f with
  | zero => intro x hx h0; simp at hx; omega
  | succ f ih =>
    intro x hx h0
    have hp : (2 : Nat) ^ (f + 1) = 2 * 2 ^ f := by rw [Nat.pow_succ]; omega
    have e : Lib.bitLenAux (f + 1) x = 1 + Lib.bitLenAux f (x / 2) := by simp [Lib.bitLenAux, h0]
    rw [e]
    by_cases h1 : x / 2 = 0
    · rw [h1, bitLenAux_zero]
      simp
      omega
    · obtain ⟨a, b, c⟩ := ih (x / 2) (by omega) h1
      have h3 : 1 + Lib.bitLenAux f (x / 2) - 1 = (Lib.bitLenAux f (x / 2) - 1) + 1 := by omega
      have h4 : 1 + Lib.bitLenAux f (x / 2) = Lib.bitLenAux f (x / 2) + 1 := by omega
      rw [h3, h4, Nat.pow_succ, Nat.pow_succ]
      omega

theorem lead_fits (x : Nat) (h0 : x ≠ 0) (h1 : x < 4294967296) : lead x < 32 ∧ x * 2 ^ lead x < 4294967296 ∧ 2147483648 ≤ x * 2 ^ lead x := by
  obtain ⟨a, b, c⟩ := bitLenAux_pow 64 x (Nat.lt_of_lt_of_le h1 (by decide)) h0
  have l : Lib.bitLenAux 64 x ≤ 32 := Lib.bitLenAux_le 64 x 32 h1
  unfold lead Lib.bitLen
  generalize Lib.bitLenAux 64 x = n at *
  have e1 : (2 : Nat) ^ n * 2 ^ (32 - n) = 4294967296 := by rw [← Nat.pow_add]; have : n + (32 - n) = 32 := by omega
                                                            rw [this]
  have e2 : (2 : Nat) ^ (n - 1) * 2 ^ (32 - n) = 2147483648 := by rw [← Nat.pow_add]; have : n - 1 + (32 - n) = 31 := by omega
                                                                  rw [this]
  refine ⟨by omega, ?_, ?_⟩
  · rw [← e1]; exact (Nat.mul_lt_mul_right (Nat.pow_pos (by decide))).2 c
  · rw [← e2]; exact Nat.mul_le_mul_right _ b

end Go.Proofs.Ytlfilpjiepdejaa

namespace Go.Proofs.Ytlfilpjiepdejaa.Num

theorem val_lt_of_len {f g : Nat → Nat} {n m : Nat} (lf : Lim f n) (tg : Top g m) (h : n < m) : val f n < val g m := by
  rcases tg with rfl | t
  · omega
  · have a := val_lt lf
    have b : pw (m - 1) ≤ val g m := by
      have hm : m = m - 1 + 1 := by omega
      rw [hm]; exact val_ge t
    have c : pw n ≤ pw (m - 1) := pw_le (by omega)
    omega

/-- Where two numbers agree above a place, that place decides. -/
theorem val_lt_of_top {f g : Nat → Nat} {k : Nat} (lf : Lim f k) (j : Nat) (hj : j < k) (he : ∀ t, j < t → t < k → f t = g t) (hlt : f j < g j) : val f k < val g k := by
  induction k with
  | zero => omega
  | succ k ih =>
    rw [val_succ, val_succ]
    by_cases c : j = k
    · subst c
      have a := val_lt (lf.mono (Nat.le_succ j))
      have b : (f j + 1) * pw j ≤ g j * pw j := Nat.mul_le_mul_right _ hlt
      rw [Nat.add_mul] at b
      omega
    · have := ih (lf.mono (Nat.le_succ k)) (by omega) (fun t h1 h2 => he t h1 (by omega))
      rw [he k (by omega) (by omega)]
      omega

theorem dif_end {S c A B N : Nat} (h : S + B = A + c * pw N) (hS : S < pw N) (hc : c ≤ 1) : (c = 0 → B ≤ A ∧ S = A - B) ∧ (c ≠ 0 → A < B) := by
  constructor
  · rintro rfl; omega
  · intro h0
    have : c = 1 := by omega
    subst this
    omega

/-- A step of adding x times a number to a sum. -/
theorem mul_step {S A B c c' s y x d P : Nat} (h : S + c * P = A + x * B) (e : s + 4294967296 * c' = c + (x * y + d)) : S + s * P + c' * (4294967296 * P) = A + d * P + x * (B + y * P) := by
  have e' := congrArg (· * P) e
  simp only [Nat.add_mul] at e'
  have h1 : c' * (4294967296 * P) = 4294967296 * c' * P := by rw [Nat.mul_left_comm, Nat.mul_assoc]
  have h2 : x * (B + y * P) = x * B + x * y * P := by rw [Nat.mul_add, Nat.mul_assoc]
  omega

theorem mul_fits {x y d c : Nat} (hx : x < 4294967296) (hy : y < 4294967296) (hd : d < 4294967296) (hc : c < 4294967296) : c + (x * y + d) < 18446744073709551616 := by
  have : x * y ≤ 4294967295 * 4294967295 := Nat.mul_le_mul (by omega) (by omega)
  omega

theorem val_add (f : Nat → Nat) (n m : Nat) : val f (n + m) = val f n + pw n * val (fun j => f (n + j)) m := by
  induction m with
  | zero => simp [val]
  | succ m ih =>
    rw [← Nat.add_assoc, val_succ, ih, val_succ, pw_add, Nat.mul_add, Nat.add_assoc]
    congr 1
    rw [Nat.mul_left_comm]

theorem val_noughts (n : Nat) : val (fun _ => 0) n = 0 := by
  induction n with
  | zero => rfl
  | succ n ih => rw [val_succ, ih]; simp

/-- Adding x times a number from limb j on. -/
theorem mul_round {F F' g : Nat → Nat} {j l c x V : Nat} (h0 : ∀ t, t < j → F' t = F t) (h : val (fun t => F' (j + t)) l + c * pw l = val (fun t => F (j + t)) l + x * val g l) (hV : val F (j + l) = V * val g l) :
    val (put F' (j + l) c) (j + 1 + l) = (V + x * pw j) * val g l := by
  have e0 : j + 1 + l = j + l + 1 := by omega
  rw [e0, val_put_succ, val_add, val_congr (g := F) h0, Nat.add_mul, ← hV, val_add, pw_add]
  have e1 := congrArg (pw j * ·) h
  simp only [Nat.mul_add] at e1
  have e2 : pw j * (c * pw l) = c * (pw j * pw l) := Nat.mul_left_comm _ _ _
  have e3 : pw j * (x * val g l) = x * pw j * val g l := by rw [Nat.mul_left_comm, Nat.mul_assoc]
  omega

theorem val_shift_congr {F G : Nat → Nat} {o n : Nat} (h : ∀ j, o ≤ j → j < o + n → F j = G j) : val (fun j => F (o + j)) n = val (fun j => G (o + j)) n :=
  val_congr fun j hj => h (o + j) (by omega) (by omega)

end Go.Proofs.Ytlfilpjiepdejaa.Num

namespace Go.Proofs.Ytlfilpjiepdejaa
open Go.RowKit Num

theorem quiet_here {P : Program} {f : FuncId} {args : Array Value} {w : World} {n : Nat} {v : Value}
    (h : Calls P f args (w.drewN n) fun e w' => e = .returned v ∧ w.drewN n = w') : Calls P f args (w.drewN n) fun e w'' => e = .returned v ∧ ∃ m, w'' = w.drewN m :=
  h.mono fun _ _ ⟨he, hm⟩ => ⟨he, n, hm.symm⟩

theorem drewN_trans {w w2 : World} {a : Nat} (h : w2 = w.drewN a) (b : Nat) : ∃ q, w2.drewN b = w.drewN q := ⟨a + b, by rw [h, World.drewN_drewN]⟩

def CmpPost (x y : Nat) (w : World) (e : Ending) (w' : World) : Prop := e = .returned (.int .i64 (cmpI x y)) ∧ ∃ q, w' = w.drewN q

end Go.Proofs.Ytlfilpjiepdejaa

namespace Go.Proofs.Ytlfilpjiepdejaa.Num

/-- Moving up, a step: the limb's low part goes beside what is there, the high part above. -/
theorem up_parts {x P E : Nat} (hPE : P * E = 4294967296) (hx : x < 4294967296) (hP : 0 < P) : x * P % 4294967296 = P * (x % E) ∧ x * P / 4294967296 < P := by
  constructor
  · rw [← hPE, Nat.mul_comm x P, Nat.mul_mod_mul_left]
  · rw [Nat.div_lt_iff_lt_mul (by decide), Nat.mul_comm P]
    exact (Nat.mul_lt_mul_right hP).2 hx

theorem or_low {a u m : Nat} (ha : a < 2 ^ u) : a ||| 2 ^ u * m = a + 2 ^ u * m := by
  rw [Nat.or_comm, ← Nat.two_pow_add_eq_or_of_lt ha m, Nat.add_comm]

theorem wrap_u64 (n : Nat) (h : n < 18446744073709551616) : IntKind.u64.wrap (n : Int) = (n : Int) := by
  simp [IntKind.wrap, IntKind.signed, IntKind.bits]
  omega

theorem pow_parts {u : Nat} (hu : u < 32) : 2 ^ u * 2 ^ (32 - u) = 4294967296 := by
  rw [← Nat.pow_add]
  have : u + (32 - u) = 32 := by omega
  rw [this]

theorem cast_mul_pow (x u : Nat) : (x : Int) * 2 ^ u = ((x * 2 ^ u : Nat) : Int) := by
  rw [Int.natCast_mul, Int.natCast_pow]; rfl

theorem mul_pow_lt {x u : Nat} (hu : u < 32) (hx : x < 4294967296) : x * 2 ^ u < 18446744073709551616 := by
  have h1 := pow_parts hu
  have h2 : 0 < 2 ^ (32 - u) := Nat.pow_pos (by decide)
  have h3 : 2 ^ u * 1 ≤ 2 ^ u * 2 ^ (32 - u) := Nat.mul_le_mul_left _ h2
  have h4 : x * 2 ^ u ≤ 4294967295 * 2 ^ u := Nat.mul_le_mul_right _ (by omega)
  omega

theorem up_lo {a x u : Nat} (hu : u < 32) (hx : x < 4294967296) (ha : a < 2 ^ u) :
    bits BinOp.or IntKind.u32 (a : Int) (IntKind.u64.wrap ((x : Int) * 2 ^ u) % 4294967296) = ((a + x * 2 ^ u % 4294967296 : Nat) : Int) := by
  have h1 := pow_parts hu
  have h2 : 0 < 2 ^ (32 - u) := Nat.pow_pos (by decide)
  have h3 : 2 ^ u * 1 ≤ 2 ^ u * 2 ^ (32 - u) := Nat.mul_le_mul_left _ h2
  have e : ((x * 2 ^ u : Nat) : Int) % 4294967296 = ((x * 2 ^ u % 4294967296 : Nat) : Int) := by omega
  rw [cast_mul_pow, wrap_u64 _ (mul_pow_lt hu hx), e, or32 _ _ (by omega) (Nat.mod_lt _ (by decide)), (up_parts h1 hx (Nat.pow_pos (by decide))).1, or_low ha]

theorem up_hi {x u : Nat} (hu : u < 32) (hx : x < 4294967296) : IntKind.u64.wrap ((x : Int) * 2 ^ u) / 4294967296 % 4294967296 = ((x * 2 ^ u / 4294967296 : Nat) : Int) := by
  have h := mul_pow_lt hu hx
  rw [cast_mul_pow, wrap_u64 _ h]
  omega

theorem up_lo_lt {a x u : Nat} (hu : u < 32) (hx : x < 4294967296) (ha : a < 2 ^ u) : a + x * 2 ^ u % 4294967296 < 4294967296 ∧ x * 2 ^ u / 4294967296 < 2 ^ u ∧ x * 2 ^ u / 4294967296 < 4294967296 := by
  have h1 := pow_parts hu
  have h2 : 0 < 2 ^ (32 - u) := Nat.pow_pos (by decide)
  have h3 : 2 ^ u * 1 ≤ 2 ^ u * 2 ^ (32 - u) := Nat.mul_le_mul_left _ h2
  obtain ⟨e1, e2⟩ := up_parts h1 hx (Nat.pow_pos (by decide))
  refine ⟨?_, e2, by omega⟩
  have h4 : x % 2 ^ (32 - u) < 2 ^ (32 - u) := Nat.mod_lt _ h2
  have h5 : 2 ^ u * (x % 2 ^ (32 - u) + 1) ≤ 2 ^ u * 2 ^ (32 - u) := Nat.mul_le_mul_left _ h4
  rw [e1]
  rw [Nat.mul_add] at h5
  omega

/-- Moving up, a round. -/
theorem up_round {F : Nat → Nat} {j x u V : Nat} (hV : val F (j + 1) = V * 2 ^ u) :
    val (put (put F j (F j + x * 2 ^ u % 4294967296)) (j + 1) (x * 2 ^ u / 4294967296)) (j + 1 + 1) = (V + x * pw j) * 2 ^ u := by
  rw [val_put_succ, val_put_succ, pw_succ]
  rw [val_succ] at hV
  rw [Nat.add_mul V, ← hV, Nat.add_mul (F j)]
  have e : x * pw j * 2 ^ u = x * 2 ^ u * pw j := by rw [Nat.mul_right_comm]
  have e2 : x * 2 ^ u * pw j = (x * 2 ^ u % 4294967296 + 4294967296 * (x * 2 ^ u / 4294967296)) * pw j := by rw [Nat.mod_add_div]
  have e3 : x * 2 ^ u / 4294967296 * (4294967296 * pw j) = 4294967296 * (x * 2 ^ u / 4294967296) * pw j := by rw [Nat.mul_left_comm, Nat.mul_assoc]
  rw [e, e2, e3, Nat.add_mul]
  omega

/-- Moving down: what one limb becomes. -/
theorem down_limb {h l D E : Nat} (hDE : D * E = 4294967296) (hl : l < 4294967296) (hD : 0 < D) : (h * 4294967296 + l) / D % 4294967296 = h % D * E + l / D ∧ h % D * E + l / D < 4294967296 := by
  have hE : 0 < E := Nat.pos_of_ne_zero (fun e => by rw [e] at hDE; simp at hDE)
  have e1 : h * 4294967296 + l = D * (h * E) + l := by rw [← hDE, Nat.mul_left_comm]
  have e2 : (h * 4294967296 + l) / D = h * E + l / D := by rw [e1, Nat.mul_add_div hD]
  have e3 : h * E = h / D * 4294967296 + h % D * E := by
    have := Nat.div_add_mod h D
    have e4 : h * E = (D * (h / D) + h % D) * E := by rw [this]
    rw [e4, Nat.add_mul, ← hDE]
    congr 1
    rw [Nat.mul_comm D (h / D), Nat.mul_assoc]
  have b1 : l / D < E := by rw [Nat.div_lt_iff_lt_mul hD, Nat.mul_comm, hDE]; exact hl
  have b2 : h % D < D := Nat.mod_lt _ hD
  have b3 : (h % D + 1) * E ≤ D * E := Nat.mul_le_mul_right _ b2
  rw [Nat.add_mul, hDE] at b3
  rw [e2, e3]
  generalize h % D * E = g at *
  generalize l / D = q at *
  omega

theorem down_word {h l u : Nat} (hu : u < 32) (hh : h < 4294967296) (hl : l < 4294967296) :
    bits BinOp.or IntKind.u64 (IntKind.u64.wrap (IntKind.u64.wrap (h : Int) * 4294967296)) (IntKind.u64.wrap (l : Int)) / 2 ^ u % 4294967296 = ((h % 2 ^ u * 2 ^ (32 - u) + l / 2 ^ u : Nat) : Int) := by
  rw [wrap_u64 h (by omega), wrap_u64 l (by omega)]
  have e1 : (h : Int) * 4294967296 = ((h * 4294967296 : Nat) : Int) := by omega
  rw [e1, wrap_u64 _ (by omega), ← e1, or_shift _ _ (by omega) (by omega) (by omega) (by omega)]
  have e2 : (h : Int) * 4294967296 + l = ((h * 4294967296 + l : Nat) : Int) := by omega
  have e3 : (2 : Int) ^ u = ((2 ^ u : Nat) : Int) := by rw [Int.natCast_pow]; rfl
  rw [e2, e3, ← Int.natCast_ediv]
  have e4 : (((h * 4294967296 + l) / 2 ^ u : Nat) : Int) % 4294967296 = (((h * 4294967296 + l) / 2 ^ u % 4294967296 : Nat) : Int) := by omega
  rw [e4, (down_limb (pow_parts hu) hl (Nat.pow_pos (by decide))).1]

/-- Moving down, a step. -/
theorem down_step {G V r D E P h l : Nat} (hDE : D * E = 4294967296) (h0 : D * G + r = V + l % D * P) : D * (G + (h % D * E + l / D) * P) + r = V + l * P + h % D * (4294967296 * P) := by
  have e1 : D * ((h % D * E + l / D) * P) = h % D * (4294967296 * P) + D * (l / D) * P := by
    rw [Nat.add_mul, Nat.mul_add, ← hDE]
    congr 1
    · rw [Nat.mul_assoc, Nat.mul_left_comm, Nat.mul_assoc]
    · rw [Nat.mul_assoc]
  have e2 : l * P = D * (l / D) * P + l % D * P := by rw [← Nat.add_mul, Nat.div_add_mod]
  rw [Nat.mul_add, e1]
  omega

/-- The carry of 'take x times b off' stays a limb. -/
theorem take_carry {c x y r : Nat} (hc : c < 4294967296) (hx : x < 4294967296) (hy : y < 4294967296) (hr : r < 4294967296) (b : Nat) (hb : b = 0 ∨ (b = 1 ∧ r < (c + x * y) % 4294967296)) :
    c + x * y < 18446744073709551616 ∧ (c + x * y) / 4294967296 + b < 4294967296 := by
  have h1 : x * y ≤ 4294967295 * 4294967295 := Nat.mul_le_mul (by omega) (by omega)
  omega

/-- A step of taking x times a number off. -/
theorem take_step {S A B c c' s y x d b P : Nat} (h : S + x * B = A + c * P) (e : s + (c + x * y) % 4294967296 = d + 4294967296 * b) (hc : c' = (c + x * y) / 4294967296 + b) :
    S + s * P + x * (B + y * P) = A + d * P + c' * (4294967296 * P) := by
  have e0 : s + (c + x * y) = d + 4294967296 * c' := by omega
  have e' := congrArg (· * P) e0
  simp only [Nat.add_mul] at e'
  have h1 : c' * (4294967296 * P) = 4294967296 * c' * P := by rw [Nat.mul_left_comm, Nat.mul_assoc]
  have h2 : x * (B + y * P) = x * B + x * y * P := by rw [Nat.mul_add, Nat.mul_assoc]
  omega

end Go.Proofs.Ytlfilpjiepdejaa.Num
