/-
  Plain facts on numbers that are limbs of 32 bits, the lowest one first: the value of n limbs, its bounds, that limbs without noughts on top are one value's alone. No program is named here.
  What the walks say of slices of limbs in memory: 'Sl' (a slice reads as these limbs), small laws. No program is named here but for the limbs' type.
  nat.trim and nat.limb: what a call of each comes to.
  Blocks of limbs that a call makes itself: 'Blk' (block b holds these limbs, none of them frozen), and what a store, a new block, a draw do to it; what a number in new memory is ('NumPost').
  nat.Norm: the same number, in new memory, without noughts on top.
  Whole numbers with a sign: what the walks say of them ('Whole': a sign and a slice of limbs make this number; 'IntPost': a call hands back this number, its limbs without noughts on top, its sign below 0 alone); whole.signed and whole.Norm.
  Plain facts on bit operations of numbers of 32 and 64 bits: no program is named here.
  The calls of math/bits and cmp that nat makes: what each comes to.
  More plain facts on limbs: order, products, differences.
  nat.Cmp: how two numbers stand.
  Plain facts on limbs moved up and down, and on the steps of a division.
  nat.takeTimes and nat.putBack: x times a number, taken off; a number, put back.
  Plain facts on long division: a guess from the top limbs is never too small; what a guess that is not too great means; the whole division.
  nat.divideLimb: one limb of a quotient.
  nat.moveUp and nat.moveDown: a number times, and by, a power of two below 2^32.
  nat.DivMod: the quotient and the rest.
  nat.word, fromWord, gcdOfWords and Gcd: the greatest number that divides both.
  A law on append that the kit lacks: nothing, whatever its address, appended to a nil slice.
-/
import Derived.WalkKit
import Derived.WalkSpells
import Derived.WalkLawsBesides
import Derived.Lib.Hide
import Derived.Test.YtaepelipkkmeaaaGreatProg
import Derived.Laws.CopyOwn
import Derived.Deep.RegionHeld3
import Derived.Deep.DrawnRows
import Derived.Lib.BitFns
import Derived.Lib.Small
import Derived.Lib.Walk
import Derived.Deep.QuietTactic
import Derived.BigQuiet
import Derived.Deep.RegionWith
import Derived.Deep.LoopGhost
set_option maxRecDepth 20000
set_option maxHeartbeats 16000000
namespace Go.Proofs.YtaepelipkkmeaaaGreat.Num
def pw : Nat → Nat
 | 0 => 1
 | n + 1 => 4294967296 * pw n
theorem pw_pos (n : Nat) : 0 < pw n := by
 induction n with
 | zero => decide
 | succ n ih => show 0 < 4294967296 * pw n; omega
theorem pw_succ (n : Nat) : pw (n + 1) = 4294967296 * pw n := rfl
theorem pw_add (n m : Nat) : pw (n + m) = pw n * pw m := by
 induction m with
 | zero => simp [pw]
 | succ m ih => rw [← Nat.add_assoc, pw_succ, ih, pw_succ, Nat.mul_left_comm]
theorem pw_le {n m : Nat} (h : n ≤ m) : pw n ≤ pw m := by
 obtain ⟨k, rfl⟩ := Nat.le.dest h
 rw [pw_add]
 exact Nat.le_mul_of_pos_right _ (pw_pos k)
def val (f : Nat → Nat) : Nat → Nat
 | 0 => 0
 | n + 1 => val f n + f n * pw n
theorem val_zero (f : Nat → Nat) : val f 0 = 0 := rfl
theorem val_succ (f : Nat → Nat) (n : Nat) : val f (n + 1) = val f n + f n * pw n := rfl
def Lim (f : Nat → Nat) (n : Nat) : Prop := ∀ j, j < n → f j < 4294967296
theorem Lim.mono {f : Nat → Nat} {n m : Nat} (h : Lim f n) (hm : m ≤ n) : Lim f m := fun j hj => h j (Nat.lt_of_lt_of_le hj hm)
theorem mul_lt_pw {x n : Nat} (h : x < 4294967296) : x * pw n + pw n ≤ pw (n + 1) := by
 rw [pw_succ, ← Nat.succ_mul]
 exact Nat.mul_le_mul_right _ h
theorem val_lt {f : Nat → Nat} {n : Nat} (h : Lim f n) : val f n < pw n := by
 induction n with
 | zero => exact Nat.zero_lt_one
 | succ n ih =>
  have a := ih (h.mono (Nat.le_succ n))
  have b := mul_lt_pw (n := n) (h n (Nat.lt_succ_self n))
  rw [val_succ]
  omega
theorem val_congr {f g : Nat → Nat} {n : Nat} (h : ∀ j, j < n → f j = g j) : val f n = val g n := by
 induction n with
 | zero => rfl
 | succ n ih => rw [val_succ, val_succ, ih (fun j hj => h j (Nat.lt_succ_of_lt hj)), h n (Nat.lt_succ_self n)]
theorem val_ge {f : Nat → Nat} {n : Nat} (h : f n ≠ 0) : pw n ≤ val f (n + 1) := by
 rw [val_succ]
 have : 1 * pw n ≤ f n * pw n := Nat.mul_le_mul_right _ (by omega)
 omega
theorem val_nought {f : Nat → Nat} {n : Nat} (h : f n = 0) : val f (n + 1) = val f n := by rw [val_succ, h]; simp
theorem val_inj {f g : Nat → Nat} {n : Nat} (hf : Lim f n) (hg : Lim g n) (h : val f n = val g n) : ∀ j, j < n → f j = g j := by
 induction n with
 | zero => intro j hj; omega
 | succ n ih =>
  have a := val_lt (hf.mono (Nat.le_succ n))
  have b := val_lt (hg.mono (Nat.le_succ n))
  rw [val_succ, val_succ] at h
  have e : f n = g n := by
   have h1 := congrArg (· / pw n) h
   simp only [Nat.add_mul_div_right _ _ (pw_pos n), Nat.div_eq_of_lt a, Nat.div_eq_of_lt b, Nat.zero_add] at h1
   exact h1
  have e2 : val f n = val g n := by rw [e] at h; omega
  intro j hj
  by_cases c : j = n
  ·subst c; exact e
  ·exact ih (hf.mono (Nat.le_succ n)) (hg.mono (Nat.le_succ n)) e2 j (by omega)
def Top (f : Nat → Nat) (n : Nat) : Prop := n = 0 ∨ f (n - 1) ≠ 0
theorem len_le_of_val_le {f g : Nat → Nat} {n m : Nat} (hg : Lim g m) (tf : Top f n) (h : val f n ≤ val g m) : n ≤ m := by
 rcases tf with rfl | tf
 ·omega
 ·apply Nat.le_of_not_lt
  intro hlt
  have hn : n = n - 1 + 1 := by omega
  have a : pw (n - 1) ≤ val f n := by
   rw [hn]
   exact val_ge tf
  have b := val_lt hg
  have c : pw m ≤ pw (n - 1) := pw_le (by omega)
  omega
theorem canon_len {f g : Nat → Nat} {n m : Nat} (hf : Lim f n) (hg : Lim g m) (tf : Top f n) (tg : Top g m) (h : val f n = val g m) : n = m :=
 Nat.le_antisymm (len_le_of_val_le hg tf (Nat.le_of_eq h)) (len_le_of_val_le hf tg (Nat.le_of_eq h.symm))
structure Canon (v : Nat) (n : Nat) (f : Nat → Nat) : Prop where
 lim : Lim f n
 top : Top f n
 val : val f n = v
theorem Canon.len {v n m : Nat} {f g : Nat → Nat} (a : Canon v n f) (b : Canon v m g) : n = m := canon_len a.lim b.lim a.top b.top (a.val.trans b.val.symm)
theorem Canon.eq {v n m : Nat} {f g : Nat → Nat} (a : Canon v n f) (b : Canon v m g) : ∀ j, j < n → f j = g j := by
 obtain rfl := a.len b
 exact val_inj a.lim b.lim (a.val.trans b.val.symm)
theorem Canon.zero {n : Nat} {f : Nat → Nat} (a : Canon 0 n f) : n = 0 := a.len (g := f) ⟨fun j hj => by omega, .inl rfl, rfl⟩
theorem Canon.ne_zero {v n : Nat} {f : Nat → Nat} (a : Canon v n f) : n = 0 ↔ v = 0 := by
 constructor
 ·rintro rfl; exact a.val.symm
 ·rintro rfl; exact a.zero
theorem canon_zero (f : Nat → Nat) : Canon 0 0 f := ⟨fun j hj => by omega, .inl rfl, rfl⟩
theorem Canon.lt_pw {v n : Nat} {f : Nat → Nat} (a : Canon v n f) : v < pw n := by rw [← a.val]; exact val_lt a.lim
theorem Canon.len_le {v n k : Nat} {f : Nat → Nat} (a : Canon v n f) (h : v < pw k) : n ≤ k := by
 rcases a.top with rfl | t
 ·omega
 ·apply Nat.le_of_not_lt
  intro hlt
  have hn : n = n - 1 + 1 := by omega
  have e : pw (n - 1) ≤ Num.val f n := by
   rw [hn]
   exact val_ge t
  have c : pw k ≤ pw (n - 1) := pw_le (by omega)
  have := a.val
  omega
def at0 (f : Nat → Nat) (n i : Nat) : Nat := if i < n then f i else 0
theorem at0_lt {f : Nat → Nat} {n : Nat} (h : Lim f n) (i : Nat) : at0 f n i < 4294967296 := by
 unfold at0
 split
 ·exact h i ‹_›
 ·decide
theorem at0_in {f : Nat → Nat} {n i : Nat} (h : i < n) : at0 f n i = f i := if_pos h
theorem at0_out {f : Nat → Nat} {n i : Nat} (h : n ≤ i) : at0 f n i = 0 := if_neg (by omega)
theorem val_at0_le {f : Nat → Nat} {n m : Nat} (h : m ≤ n) : val (at0 f n) m = val f m := val_congr fun j hj => at0_in (by omega)
theorem val_at0_ge {f : Nat → Nat} {n m : Nat} (h : n ≤ m) : val (at0 f n) m = val f n := by
  induction m with
  | zero => obtain rfl : n = 0 := by omega
            rfl
  | succ m ih =>
    by_cases c : n = m + 1
    · subst c; exact val_at0_le (Nat.le_refl _)
    · rw [val_succ, ih (by omega), at0_out (by omega)]; simp
theorem at0_lim {f : Nat → Nat} {n : Nat} (h : Lim f n) (m : Nat) : Lim (at0 f n) m := fun i _ => at0_lt h i
def put (f : Nat → Nat) (i x : Nat) : Nat → Nat := fun j => if j = i then x else f j
theorem put_at (f : Nat → Nat) (i x : Nat) : put f i x i = x := if_pos rfl
theorem put_ne {f : Nat → Nat} {i x j : Nat} (h : j ≠ i) : put f i x j = f j := if_neg h
theorem val_put (f : Nat → Nat) (i x n : Nat) (h : n ≤ i) : val (put f i x) n = val f n := val_congr fun j hj => put_ne (by omega)
theorem val_put_succ (f : Nat → Nat) (i x : Nat) : val (put f i x) (i + 1) = val f i + x * pw i := by rw [val_succ, val_put f i x i (Nat.le_refl _), put_at]
theorem put_lim {f : Nat → Nat} {n i x : Nat} (h : Lim f n) (hx : x < 4294967296) : Lim (put f i x) n := by
 intro j hj
 by_cases c : j = i
 ·subst c; rw [put_at]; exact hx
 ·rw [put_ne c]; exact h j hj
theorem sum_step {A B S c c' s x y P : Nat} (h : S + c * P = A + B) (e : s + 4294967296 * c' = x + y + c) : S + s * P + c' * (4294967296 * P) = A + x * P + (B + y * P) := by
 have e' := congrArg (· * P) e
 simp only [Nat.add_mul] at e'
 have : c' * (4294967296 * P) = 4294967296 * c' * P := by rw [Nat.mul_left_comm, Nat.mul_assoc]
 omega
theorem dif_step {A B D c c' d x y P : Nat} (h : D + B = A + c * P) (e : d + y + c = x + 4294967296 * c') : D + d * P + (B + y * P) = A + x * P + c' * (4294967296 * P) := by
 have e' := congrArg (· * P) e
 simp only [Nat.add_mul] at e'
 have : c' * (4294967296 * P) = 4294967296 * c' * P := by rw [Nat.mul_left_comm, Nat.mul_assoc]
 omega
theorem sum_end {S c A B N : Nat} (h : S + c * pw (N + 1) = A + B) (hA : A < pw N) (hB : B < pw N) : S = A + B ∧ c = 0 := by
 have hp := pw_pos N
 rw [pw_succ] at h
 by_cases h0 : c = 0
 ·subst h0; omega
 ·have : 1 * (4294967296 * pw N) ≤ c * (4294967296 * pw N) := Nat.mul_le_mul_right _ (by omega)
  omega
end Go.Proofs.YtaepelipkkmeaaaGreat.Num
namespace Go.Proofs.YtaepelipkkmeaaaGreat
open Go.RowKit Num
def Sl (w : World) (ao : Option Addr) (n : Nat) (f : Nat → Nat) : Prop :=
 n = 0 ∨ ∃ b off, ao = some ⟨b, off, none⟩ ∧ ∀ j, j < n → w.cell? ⟨b, off + j, none⟩ = some (.int .u32 (f j))
def lenOf : Value → Nat
 | .slice _ n _ => n
 | _ => 0
theorem Sl.mono {w : World} {ao : Option Addr} {n m : Nat} {f : Nat → Nat} (h : Sl w ao n f) (hm : m ≤ n) : Sl w ao m f := by
 rcases h with rfl | ⟨b, off, rfl, hc⟩
 ·exact .inl (by omega)
 ·exact .inr ⟨b, off, rfl, fun j hj => hc j (by omega)⟩
theorem Sl.congr {w : World} {ao : Option Addr} {n : Nat} {f g : Nat → Nat} (h : Sl w ao n f) (e : ∀ j, j < n → f j = g j) : Sl w ao n g := by
 rcases h with rfl | ⟨b, off, rfl, hc⟩
 ·exact .inl rfl
 ·exact .inr ⟨b, off, rfl, fun j hj => by rw [← e j hj]; exact hc j hj⟩
theorem Sl.below {w w' : World} {ao : Option Addr} {n : Nat} {f : Nat → Nat} (h : Sl w ao n f) (hb : Below w.heap.size w w') : Sl w' ao n f := by
 rcases h with rfl | ⟨b, off, rfl, hc⟩
 ·exact .inl rfl
 ·exact .inr ⟨b, off, rfl, fun j hj => (hb.cell (World.block_lt_of_cell? w _ (hc j hj))).trans (hc j hj)⟩
theorem Sl.same {w w' : World} {ao : Option Addr} {n : Nat} {f : Nat → Nat} (h : Sl w ao n f) (e : ∀ a, w'.cell? a = w.cell? a) : Sl w' ao n f := by
 rcases h with rfl | ⟨b, off, rfl, hc⟩
 ·exact .inl rfl
 ·exact .inr ⟨b, off, rfl, fun j hj => (e _).trans (hc j hj)⟩
structure Arg (w : World) (ao : Option Addr) (n nc : Nat) (f : Nat → Nat) : Prop where
 len : n ≤ nc
 cap : nc ≤ 9223372036854775807
 few : n ≤ 1000000
 sl : Sl w ao n f
 lim : Lim f n
theorem Arg.below {w w' : World} {ao : Option Addr} {n nc : Nat} {f : Nat → Nat} (h : Arg w ao n nc f) (hb : Below w.heap.size w w') : Arg w' ao n nc f := ⟨h.len, h.cap, h.few, h.sl.below hb, h.lim⟩
end Go.Proofs.YtaepelipkkmeaaaGreat
namespace Go.Proofs.YtaepelipkkmeaaaGreat
open Go.RowKit Num
def TrimPost (ao : Option Addr) (n cap : Nat) (f : Nat → Nat) (w : World) (e : Ending) (w' : World) : Prop :=
 ∃ k, k ≤ n ∧ e = .returned (.slice ao k cap) ∧ Top f k ∧ val f k = val f n ∧ w = w'
theorem trim_some (b off n cap : Nat) (f : Nat → Nat) (w : World) (hcap : n ≤ cap) (hmax : cap ≤ 9223372036854775807)
  (hc : ∀ j, j < n → w.cell? ⟨b, off + j, none⟩ = some (.int .u32 (f j))) :
  Calls Tryz.prog 169 #[.slice (some ⟨b, off, none⟩) n cap] w (TrimPost (some ⟨b, off, none⟩) n cap f w) := by
 go_enter Tryz.func169, Tryz.ntmps169
 go_wp2
 go_loop [0] (fun a => ∃ k : Nat, k ≤ n ∧ a = .slice (some ⟨b, off, none⟩) k cap ∧ val f k = val f n) (fun a => lenOf a)
 case atStart => exact ⟨n, Nat.le_refl _, rfl, rfl⟩
 case round =>
  obtain ⟨k, hk, rfl, hv0⟩ := hrel
  have hv := Lib.hid hv0; clear hv0
  by_cases h0 : k = 0
  ·subst h0
   go_wp2
   go_ret
   exact ⟨0, Nat.zero_le _, rfl, .inl rfl, hv.out, rfl⟩
  ·have hpos : 0 < k := by omega
   have hcell := hc (k - 1) (by omega)
   clear hc
   by_cases hz : f (k - 1) = 0
   ·have hzi : ((f (k - 1) : Int) == 0) = true := by simp [hz]
    have hz' := Lib.hid hz; clear hz
    go_wp2
    go_round
    case rel =>
     have hk1 : k = k - 1 + 1 := by omega
     have e := val_nought hz'.out
     rw [← hk1] at e
     exact ⟨k - 1, by omega, rfl, e.symm.trans hv.out⟩
    case measure => simp [lenOf]; omega
   ·have hzi : ((f (k - 1) : Int) == 0) = false := by simp [hz]
    go_wp2
    go_ret
    exact ⟨k, hk, rfl, .inr hz, hv.out, rfl⟩
theorem trim_none (ao : Option Addr) (cap : Nat) (f : Nat → Nat) (w : World) :
  Calls Tryz.prog 169 #[.slice ao 0 cap] w (TrimPost ao 0 cap f w) := by
 go_enter Tryz.func169, Tryz.ntmps169
 go_wp2
 go_loop [0] (fun a => a = .slice ao 0 cap) (fun a => lenOf a)
 case atStart => exact rfl
 case round =>
  obtain rfl := hrel
  go_wp2
  go_ret
  exact ⟨0, Nat.zero_le _, rfl, .inl rfl, rfl, rfl⟩
theorem trim_any (ao : Option Addr) (n cap : Nat) (f : Nat → Nat) (w : World) (hcap : n ≤ cap) (hmax : cap ≤ 9223372036854775807) (hs : Sl w ao n f) :
  Calls Tryz.prog 169 #[.slice ao n cap] w (TrimPost ao n cap f w) := by
 rcases hs with rfl | ⟨b, off, rfl, hc⟩
 ·exact trim_none ao cap f w
 ·exact trim_some b off n cap f w hcap hmax hc
theorem limb_any (ao : Option Addr) (n cap : Nat) (i : Int) (f : Nat → Nat) (w : World) (h0 : 0 ≤ i) (hs : Sl w ao n f) :
  Calls Tryz.prog 178 #[.slice ao n cap, .int .i64 i] w fun e w' => e = .returned (.int .u32 (at0 f n i.toNat)) ∧ w = w' := by
 obtain ⟨i, rfl⟩ := Int.eq_ofNat_of_zero_le h0
 rw [Int.toNat_natCast]
 by_cases h : i < n
 ·rw [at0_in h]
  rcases hs with rfl | ⟨b, off, rfl, hc⟩
  ·omega
  ·have hcell := hc i h
   clear hc
   go_enter Tryz.func178, Tryz.ntmps178
   go_wp2
   go_ret
   exact ⟨rfl, rfl⟩
 ·rw [at0_out (by omega)]
  clear hs
  go_enter Tryz.func178, Tryz.ntmps178
  go_wp2
  go_ret
  exact ⟨rfl, rfl⟩
end Go.Proofs.YtaepelipkkmeaaaGreat
namespace Go.Proofs.YtaepelipkkmeaaaGreat
open Go.RowKit Num
theorem info32 : (Tryz.prog.info? 104).map (fun i => (i.zero, i.size, i.bytes)) = some (some (.int .u32 0), 1, 4) := by kernel_rfl
structure Blk (w : World) (b N : Nat) (F : Nat → Nat) : Prop where
 cell : ∀ j, j < N → w.cell? ⟨b, j, none⟩ = some (.int .u32 (F j))
 free : ∀ j, w.frozen? ⟨b, j, none⟩ = false
theorem Blk.lt {w : World} {b N : Nat} {F : Nat → Nat} (h : Blk w b N F) (hN : 0 < N) : b < w.heap.size := World.block_lt_of_cell? w _ (h.cell 0 hN)
theorem Blk.mono {w : World} {b N M : Nat} {F : Nat → Nat} (h : Blk w b N F) (hM : M ≤ N) : Blk w b M F := ⟨fun j hj => h.cell j (by omega), h.free⟩
theorem Blk.of_made {w : World} {base g n : Nat} {e : TypeId} (h : w.ownsRow base e 1 (.slice (some ⟨g, 0, none⟩) n n) n (madeCells #[Value.int .u32 0] n).toList) : Blk w g n (fun _ => 0) := by
 refine ⟨fun j hj => ?_, fun j => h.frozenAt j⟩
 rw [h.cellAt j (by omega), toList_madeCells_one]
 simp [hj]
theorem Blk.set {w : World} {b N : Nat} {F : Nat → Nat} (h : Blk w b N F) (i : Nat) (hi : i < N) (v : Int) (x : Nat) (hv : v = (x : Int)) : Blk (w.setCell ⟨b, i, none⟩ (.int .u32 v)) b N (put F i x) := by
 subst hv
 refine ⟨fun j hj => ?_, fun j => by rw [World.frozen?_setCell]; exact h.free j⟩
 by_cases c : j = i
 ·subst c
  rw [put_at]
  exact World.cell?_setCell_same _ _ _ (h.cell j hj)
 ·rw [put_ne c, World.cell?_setCell_other _ _ _ _ (fun e => c (by injection e with _ e2; exact e2.symm))]
  exact h.cell j hj
theorem grown_setCell {w w' : World} {b : Nat} (h : w.grownBy w' (some b)) (i : Nat) (v : Value) : w.grownBy (w'.setCell ⟨b, i, none⟩ v) (some b) :=
 ⟨h.os, h.tape, h.output, by simpa [World.setCell] using h.size, fun k hk hne => by
  rw [Below.heap_setCell _ _ _ _ (fun e => hne (by rw [e]))]; exact h.block k hk hne⟩
theorem grown_refl (w : World) (r : Option Nat) : w.grownBy w r := ⟨rfl, rfl, rfl, Nat.le_refl _, fun _ _ _ => rfl⟩
theorem grown_any {w w' : World} (h : w.grownBy w' none) (r : Option Nat) : w.grownBy w' r := ⟨h.os, h.tape, h.output, h.size, fun k hk _ => h.block k hk (fun e => by cases e)⟩
theorem grown_drewN {w w' : World} {r : Option Nat} (h : w.grownBy w' r) (n : Nat) : w.grownBy (w'.drewN n) r := ⟨h.os, h.tape, h.output, h.size, h.block⟩
theorem grown_drew {w w' : World} {r : Option Nat} (h : w.grownBy w' r) : w.grownBy w'.drew r := ⟨h.os, h.tape, h.output, h.size, h.block⟩
theorem grown_trans {w w' w'' : World} {r : Option Nat} (h : w.grownBy w' r) (k : w'.grownBy w'' r) : w.grownBy w'' r :=
 ⟨k.os.trans h.os, k.tape.trans h.tape, k.output.trans h.output, Nat.le_trans h.size k.size, fun i hi hn => (k.block i (Nat.lt_of_lt_of_le hi h.size) hn).trans (h.block i hi hn)⟩
theorem grown_below {w w' : World} {B b : Nat} (h : w.grownBy w' (some b)) (hB : B ≤ b) (hs : B ≤ w.heap.size) : Below B w w' :=
 ⟨h.os, h.tape, h.output, h.size, fun k hk => h.block k (by omega) (fun e => by cases e; omega)⟩
theorem Blk.drew {w : World} {b N : Nat} {F : Nat → Nat} (h : Blk w b N F) : Blk w.drew b N F := ⟨h.cell, h.free⟩
theorem Blk.drewN {w : World} {b N : Nat} {F : Nat → Nat} (h : Blk w b N F) (n : Nat) : Blk (w.drewN n) b N F := ⟨h.cell, h.free⟩
theorem Blk.kept {w w' : World} {b c N : Nat} {F : Nat → Nat} (h : Blk w b N F) (hN : b < w.heap.size) (hg : w.grownBy w' (some c)) (hne : b ≠ c) : Blk w' b N F := by
 have hb : w'.heap[b]? = w.heap[b]? := hg.block b hN (fun e => hne (by cases e; rfl))
 exact ⟨fun j hj => (World.cell?_of_block (w := w) hb).trans (h.cell j hj), fun j => (World.frozen?_of_block (w := w) hb).trans (h.free j)⟩
theorem Blk.below {w w' : World} {b N B : Nat} {F : Nat → Nat} (h : Blk w b N F) (hb : Below B w w') (hB : b < B) : Blk w' b N F :=
 ⟨fun j hj => (hb.cell (by exact hB)).trans (h.cell j hj), fun j => (hb.frozen (by exact hB)).trans (h.free j)⟩
theorem Sl.of_blk0 {w : World} {b N : Nat} {F : Nat → Nat} (h : Blk w b N F) (n : Nat) (hn : n ≤ N) : Sl w (some ⟨b, 0, none⟩) n F := by
 by_cases c : n = 0
 ·exact .inl c
 ·exact .inr ⟨b, 0, rfl, fun j hj => by rw [Nat.zero_add]; exact h.cell j (by omega)⟩
def InB (B : Nat) (ao : Option Addr) (n : Nat) : Prop := n = 0 ∨ ∀ a, ao = some a → a.block < B
theorem Sl.inB {w : World} {ao : Option Addr} {n : Nat} {f : Nat → Nat} (h : Sl w ao n f) : InB w.heap.size ao n := by
 rcases h with rfl | ⟨b, off, rfl, hc⟩
 ·exact .inl rfl
 ·by_cases c : n = 0
  ·exact .inl c
  ·refine .inr fun a ha => ?_
   cases ha
   exact World.block_lt_of_cell? w _ (hc 0 (by omega))
def Off (b : Nat) (ao : Option Addr) (n : Nat) : Prop := n = 0 ∨ ∀ a, ao = some a → a.block ≠ b
theorem InB.off {b : Nat} {ao : Option Addr} {n : Nat} (h : InB b ao n) : Off b ao n := by
 rcases h with rfl | h
 ·exact .inl rfl
 ·exact .inr fun a ha e => by have := h a ha; omega
theorem Sl.off {w : World} {ao : Option Addr} {n : Nat} {f : Nat → Nat} (h : Sl w ao n f) : Off w.heap.size ao n := h.inB.off
theorem Sl.grown {w w' : World} {ao : Option Addr} {n b : Nat} {f : Nat → Nat} (h : Sl w ao n f) (hi : Off b ao n) (hg : w.grownBy w' (some b)) : Sl w' ao n f := by
 rcases h with rfl | ⟨c, off, rfl, hc⟩
 ·exact .inl rfl
 ·rcases hi with rfl | hi
  ·exact .inl rfl
  ·refine .inr ⟨c, off, rfl, fun j hj => ?_⟩
   have hne : c ≠ b := hi _ rfl
   exact (World.cell?_of_block (w := w) (hg.block c (World.block_lt_of_cell? w _ (hc j hj)) (fun e => hne (by cases e; rfl)))).trans (hc j hj)
theorem int_eq {k : IntKind} {a b : Int} (h : a = b) : Value.int k a = Value.int k b := by rw [h]
def NumPost (v : Nat) (w : World) (e : Ending) (w' : World) : Prop :=
 ∃ ao n cap f, e = .returned (.slice ao n cap) ∧ n ≤ cap ∧ cap ≤ 9223372036854775807 ∧ Sl w' ao n f ∧ Canon v n f ∧ Below w.heap.size w w'
end Go.Proofs.YtaepelipkkmeaaaGreat
namespace Go.Proofs.YtaepelipkkmeaaaGreat
open Go.RowKit Num
theorem size32 : (Tryz.prog.info? 104).map (·.size) = some 1 := by kernel_rfl
theorem heap_of_made {w : World} {base g n : Nat} {e : TypeId} (h : w.ownsRow base e 1 (.slice (some ⟨g, 0, none⟩) n n) n (madeCells #[Value.int .u32 0] n).toList) :
  w.heap[g]? = some (.cells (List.replicate n (Value.int .u32 0)).toArray e (0, 0)) := by
 rcases h.2 with ⟨hn, _⟩ | ⟨g', cap, cur, hv, hb, hg, hnc, hcm, hcs, ht⟩
 ·cases hn
 ·cases hv
  rw [toList_madeCells_one] at ht
  have hc : cur.toList = List.replicate n (Value.int .u32 0) := by
   rw [← ht, List.take_of_length_le]
   simpa using Nat.le_of_eq hcs
  rw [hg, ← hc]
theorem Blk.of_heap {w : World} {b N : Nat} {F : Nat → Nat} {l : List Value} {t : TypeId} (h : w.heap[b]? = some (.cells l.toArray t (0, 0))) (hl : ∀ j, j < N → l[j]? = some (.int .u32 (F j))) : Blk w b N F := by
 refine ⟨fun j hj => ?_, fun j => ?_⟩
 ·simp [World.cell?, h, hl j hj]
 ·simp [World.frozen?, h]
def limbCells (f : Nat → Nat) (n : Nat) : List Value := (List.range n).map fun j => .int .u32 (f j)
theorem limbCells_length (f : Nat → Nat) (n : Nat) : (limbCells f n).length = n := by simp [limbCells]
theorem limbCells_get (f : Nat → Nat) (n j : Nat) (h : j < n) : (limbCells f n)[j]? = some (.int .u32 (f j)) := by simp [limbCells, h]
theorem limbCells_one (f : Nat → Nat) (n : Nat) : ∀ v ∈ limbCells f n, v.oneCell' = true := by
 intro v hv
 simp only [limbCells, List.mem_map] at hv
 obtain ⟨j, _, rfl⟩ := hv
 rfl
theorem limbCells_at {w : World} {b off n : Nat} {f : Nat → Nat} (h : ∀ j, j < n → w.cell? ⟨b, off + j, none⟩ = some (.int .u32 (f j))) :
  ∀ j v, (limbCells f n)[j]? = some v → w.cell? ((⟨b, off, none⟩ : Addr).add j) = some v := by
 intro j v hv
 have hj : j < n := by
  have := (List.getElem?_eq_some_iff.1 hv).1
  simpa [limbCells_length] using this
 rw [limbCells_get f n j hj] at hv
 cases hv
 have e : (⟨b, off, none⟩ : Addr).add j = ⟨b, off + j, none⟩ := by unfold Addr.add; split <;> simp_all
 rw [e]
 exact h j hj
theorem Sl.cellsAt {w : World} {ao : Option Addr} {n : Nat} {f : Nat → Nat} (h : Sl w ao n f) (hn : 0 < (limbCells f n).length) : ∃ ad, ao = some ad ∧ ∀ j v, (limbCells f n)[j]? = some v → w.cell? (ad.add j) = some v := by
 rw [limbCells_length] at hn
 rcases h with rfl | ⟨b, off, rfl, hc⟩
 ·omega
 ·exact ⟨_, rfl, limbCells_at hc⟩
theorem norm_any (ao : Option Addr) (n nc : Nat) (f : Nat → Nat) (w : World) (A : Arg w ao n nc f) :
  Calls Tryz.prog 149 #[.slice ao n nc] w (NumPost (val f n) w) := by
 obtain ⟨hn, hnc, hnb, hf, lf⟩ := A
 obtain ⟨i32, hi, hz0, hz1, hz2⟩ := info_parts info32
 go_enter Tryz.func149, Tryz.ntmps149
 go_wp2_with fail
 refine (trim_any ao n nc f w hn (by omega) hf).mono ?_
 rintro e w' ⟨k, hk, rfl, htf0, hvf0, rfl⟩
 have htf := Lib.hid htf0; have hvf := Lib.hid hvf0; clear htf0 hvf0
 go_wp2_with (at_make; refine wpList_make_full _ rfl (.tmp 7) (.tmp 7) 22 rfl w.heap.size 104 i32 (.int .u32 0) 1 Tryz.underlying22 hi hz0 hz1 .i64 .i64 _ _ k rfl rfl rfl rfl (by rw [hz2]; omega) (by unfold maxLen; omega) (Nat.le_refl _) ?_)
 intro w1 hown hgrow
 have hheap := heap_of_made hown
 have hsl1 := (hf.mono hk).grown (b := w.heap.size) (hf.mono hk).off (grown_any hgrow _)
 have hbel : Below w.heap.size w w1 := (Below.refl _ w).grown hgrow (Nat.le_refl _) (fun _ h => by cases h)
 obtain ⟨cs, hcs0⟩ : ∃ cs, cs = limbCells f k := ⟨_, rfl⟩
 have hlen : cs.length = k := by rw [hcs0, limbCells_length]
 have hlen' := Lib.hid hlen
 have hone : ∀ v ∈ cs, v.oneCell' = true := by rw [hcs0]; exact limbCells_one f k
 have hat : 0 < cs.length → (some (⟨w.heap.size, 0, none⟩ : Addr)) = some ⟨w.heap.size, 0, none⟩ ∧ ∃ ad, ao = some ad ∧ ∀ j v, cs[j]? = some v → w1.cell? (ad.add j) = some v := by
  rw [hcs0]; exact fun h => ⟨rfl, hsl1.cellsAt h⟩
 have hheap' := Lib.hid hheap
 have hcs := Lib.hid hcs0
 clear hcs0 hown hheap hlen
 go_wp2_with (with_reducible refine wpList_copy_splice rfl (.tmp 9) (.tmp 10) 22 22 rfl 104 Tryz.underlying22 size32 (some ⟨w.heap.size, 0, none⟩) ao k k k nc rfl rfl w.heap.size 0 (List.replicate k (Value.int .u32 0)) 104 hheap'.out cs ?c1 hat ?c2 hone w.heap.size w hbel (Nat.le_refl _) ?_)
 case c1 => simp [hlen'.out]
 case c2 => simp [hlen'.out]
 intro w2 hg2 hb2
 go_wp2_with fail
 go_ret
 have hblk : Blk w2 w.heap.size k f := Blk.of_heap hg2.out (fun j hj => by
  have e : splice (List.replicate k (Value.int .u32 0)) 0 cs = cs := by simp [splice, hlen'.out]
  rw [e, hcs.out, limbCells_get f k j hj])
 exact ⟨some ⟨w.heap.size, 0, none⟩, k, k, f, rfl, Nat.le_refl _, by omega, Sl.of_blk0 hblk k (Nat.le_refl _), ⟨lf.mono hk, htf.out, hvf.out⟩, hb2⟩
end Go.Proofs.YtaepelipkkmeaaaGreat
namespace Go.Proofs.YtaepelipkkmeaaaGreat
open Go.RowKit Num
def sgn (b : Bool) (v : Nat) : Int := if b then -(v : Int) else v
theorem sgn_false (v : Nat) : sgn false v = v := rfl
theorem sgn_true (v : Nat) : sgn true v = -(v : Int) := rfl
theorem sgn_abs (b : Bool) (v : Nat) : (sgn b v).natAbs = v := by cases b <;> simp [sgn]
theorem sgn_neg (b : Bool) (v : Nat) : decide (sgn b v < 0) = (b && decide (0 < v)) := by
 cases b
 ·simp [sgn]
 ·by_cases h : 0 < v
  ·simp [sgn, h]
  ·have : v = 0 := by omega
   subst this; simp [sgn]
theorem sgn_self (x : Int) : sgn (decide (x < 0)) x.natAbs = x := by
 by_cases h : x < 0
 ·simp only [h, decide_true, sgn]; simp; omega
 ·simp only [h, decide_false, sgn]; simp; omega
theorem sgn_not (b : Bool) (v : Nat) : sgn (!b) v = -sgn b v := by cases b <;> simp [sgn]
theorem sgn_mul (b c : Bool) (u v : Nat) : sgn b u * sgn c v = sgn (!(b == c)) (u * v) := by cases b <;> cases c <;> simp [sgn, Int.neg_mul, Int.mul_neg]
theorem sgn_add (b : Bool) (u v : Nat) : sgn b u + sgn b v = sgn b (u + v) := by cases b <;> simp [sgn] <;> omega
theorem sgn_sub {b c : Bool} (h : b ≠ c) {u v : Nat} (hv : v ≤ u) : sgn b u + sgn c v = sgn b (u - v) := by
 cases b <;> cases c <;> simp [sgn] at h ⊢ <;> omega
structure Whole (w : World) (b : Bool) (ao : Option Addr) (n nc : Nat) (x : Int) : Prop where
 ex : ∃ f, Arg w ao n nc f ∧ sgn b (val f n) = x
theorem Whole.below {w w' : World} {b : Bool} {ao : Option Addr} {n nc : Nat} {x : Int} (h : Whole w b ao n nc x) (hb : Below w.heap.size w w') : Whole w' b ao n nc x := by
 obtain ⟨f, A, e⟩ := h.ex
 exact ⟨f, A.below hb, e⟩
structure Right (w : World) (b : Bool) (ao : Option Addr) (n nc : Nat) (x : Int) : Prop where
 ex : ∃ f, n ≤ nc ∧ nc ≤ 9223372036854775807 ∧ Sl w ao n f ∧ Canon x.natAbs n f ∧ b = decide (x < 0)
theorem Right.below {w w' : World} {b : Bool} {ao : Option Addr} {n nc : Nat} {x : Int} (h : Right w b ao n nc x) (hb : Below w.heap.size w w') : Right w' b ao n nc x := by
 obtain ⟨f, h1, h2, h3, h4, h5⟩ := h.ex
 exact ⟨f, h1, h2, h3.below hb, h4, h5⟩
theorem Right.whole {w : World} {b : Bool} {ao : Option Addr} {n nc k : Nat} {x : Int} (h : Right w b ao n nc x) (hx : x.natAbs < pw k) (hk : k ≤ 1000000) : Whole w b ao n nc x := by
 obtain ⟨f, h1, h2, h3, h4, rfl⟩ := h.ex
 refine ⟨f, ⟨h1, h2, Nat.le_trans (h4.len_le hx) hk, h3, h4.lim⟩, ?_⟩
 rw [h4.val]; exact sgn_self x
theorem Right.neg {w : World} {b : Bool} {ao : Option Addr} {n nc : Nat} {x : Int} (h : Right w b ao n nc x) : b = decide (x < 0) := by
 obtain ⟨f, _, _, _, _, h⟩ := h.ex
 exact h
def IntPost (x : Int) (w : World) (e : Ending) (w' : World) : Prop :=
 ∃ b ao n nc, e = .returned (.agg #[.bool b, .slice ao n nc]) ∧ Right w' b ao n nc x ∧ Below w.heap.size w w'
theorem signed_any (b : Bool) (ao : Option Addr) (v n nc : Nat) (f : Nat → Nat) (w : World) (hn : n ≤ nc) (hc : nc ≤ 9223372036854775807) (hs : Sl w ao n f) (cf : Canon v n f) :
  Calls Tryz.prog 150 #[.bool b, .slice ao n nc] w (IntPost (sgn b v) w) := by
 have hs' := Lib.hid hs; have cf' := Lib.hid cf
 have hb := Lib.hid (Below.refl w.heap.size w)
 clear hs cf
 have hd : (b && decide ((0 : Int) < (n : Int))) = decide (sgn b v < 0) := by
  rw [sgn_neg]
  congr 1
  have := cf'.out.ne_zero
  simp only [decide_eq_decide]
  omega
 have hd' := Lib.hid hd
 clear hd
 cases b
 ·go_enter Tryz.func150, Tryz.ntmps150
  go_wp2_with fail
  refine bodyPost_ret (v := .agg #[.bool false, .slice ao n nc]) (by simp [results, Tryz.results150, go_sem]) rfl ?_
  have hb2 : Below w.heap.size w (w.alloc (.cells #[.bool false, .slice ao n nc] 116)) := (Below.refl _ w).alloc (Nat.le_refl _) _
  refine ⟨false, ao, n, nc, rfl, ⟨f, hn, hc, hs'.out.below hb2, by rw [sgn_abs]; exact cf'.out, ?_⟩, hb2⟩
  simpa using hd'.out
 ·by_cases h0 : n = 0
  ·subst h0
   go_enter Tryz.func150, Tryz.ntmps150
   go_wp2_with fail
   refine bodyPost_ret (v := .agg #[.bool false, .slice ao 0 nc]) (by simp [results, Tryz.results150, go_sem]) rfl ?_
   have hb2 : Below w.heap.size w (w.alloc (.cells #[.bool false, .slice ao 0 nc] 116)) := (Below.refl _ w).alloc (Nat.le_refl _) _
   refine ⟨false, ao, 0, nc, rfl, ⟨f, hn, hc, hs'.out.below hb2, by rw [sgn_abs]; exact cf'.out, ?_⟩, hb2⟩
   simpa using hd'.out
  ·go_enter Tryz.func150, Tryz.ntmps150
   go_wp2_with fail
   simp only [Nat.pos_of_ne_zero h0, decide_true]
   refine bodyPost_ret (v := .agg #[.bool true, .slice ao n nc]) (by simp [results, Tryz.results150, go_sem]) rfl ?_
   have hb2 : Below w.heap.size w (w.alloc (.cells #[.bool true, .slice ao n nc] 116)) := (Below.refl _ w).alloc (Nat.le_refl _) _
   refine ⟨true, ao, n, nc, rfl, ⟨f, hn, hc, hs'.out.below hb2, by rw [sgn_abs]; exact cf'.out, ?_⟩, hb2⟩
   simpa [Nat.pos_of_ne_zero h0] using hd'.out
structure Box (w : World) (B : Nat) (v0 v1 : Value) : Prop where
 c0 : w.cell? ⟨B, 0, none⟩ = some v0
 c1 : w.cell? ⟨B, 1, none⟩ = some v1
 fr : ∀ j, w.frozen? ⟨B, j, none⟩ = false
theorem Box.lt {w : World} {B : Nat} {v0 v1 : Value} (h : Box w B v0 v1) : B < w.heap.size := World.block_lt_of_cell? w _ h.c0
theorem Box.new {w : World} {B : Nat} (v0 v1 : Value) (t : TypeId) (h : B = w.heap.size) : Box (w.alloc (.cells #[v0, v1] t)) B v0 v1 := by
 subst h
 exact ⟨by simp, by simp, fun j => by
  have hh := heap_alloc_new w (.cells #[v0, v1] t)
  simp only [World.frozen?, hh]
  simp⟩
theorem Box.below {w w' : World} {B C : Nat} {v0 v1 : Value} (h : Box w B v0 v1) (hb : Below C w w') (hC : B < C) : Box w' B v0 v1 :=
 ⟨(hb.cell hC).trans h.c0, (hb.cell hC).trans h.c1, fun j => (hb.frozen hC).trans (h.fr j)⟩
theorem Box.later {w w' : World} {B : Nat} {v0 v1 : Value} (h : Box w B v0 v1) (hb : Below w.heap.size w w') : Box w' B v0 v1 := h.below hb h.lt
theorem Box.alloc {w : World} {B : Nat} {v0 v1 : Value} (h : Box w B v0 v1) (o : Obj) : Box (w.alloc o) B v0 v1 := h.later ((Below.refl _ w).alloc (Nat.le_refl _) o)
theorem Box.drew {w : World} {B : Nat} {v0 v1 : Value} (h : Box w B v0 v1) : Box w.drew B v0 v1 := ⟨h.c0, h.c1, h.fr⟩
theorem Box.set {w : World} {B : Nat} {v0 v1 : Value} (h : Box w B v0 v1) (u0 u1 : Value) : Box ((w.setCell ⟨B, 0, none⟩ u0).setCell ⟨B, 1, none⟩ u1) B u0 u1 := by
 refine ⟨?_, ?_, fun j => by rw [World.frozen?_setCell, World.frozen?_setCell]; exact h.fr j⟩
 ·rw [World.cell?_setCell_other _ _ _ _ (fun e => by injection e with _ e2; omega)]
  exact World.cell?_setCell_same _ _ _ h.c0
 ·refine World.cell?_setCell_same _ _ _ (?_ : _ = some v1)
  rw [World.cell?_setCell_other _ _ _ _ (fun e => by injection e with _ e2; omega)]
  exact h.c1
theorem Box.other {w : World} {B C : Nat} {v0 v1 : Value} (h : Box w B v0 v1) (hne : B ≠ C) (u0 u1 : Value) : Box ((w.setCell ⟨C, 0, none⟩ u0).setCell ⟨C, 1, none⟩ u1) B v0 v1 := by
 have ne : ∀ j k, (⟨B, j, none⟩ : Addr) ≠ ⟨C, k, none⟩ := fun j k e => hne (by injection e)
 refine ⟨?_, ?_, fun j => by rw [World.frozen?_setCell, World.frozen?_setCell]; exact h.fr j⟩
 ·rw [World.cell?_setCell_other _ _ _ _ (ne _ _).symm, World.cell?_setCell_other _ _ _ _ (ne _ _).symm]; exact h.c0
 ·rw [World.cell?_setCell_other _ _ _ _ (ne _ _).symm, World.cell?_setCell_other _ _ _ _ (ne _ _).symm]; exact h.c1
theorem below_set {w w' : World} {A B : Nat} (h : Below A w w') (hB : A ≤ B) (u0 u1 : Value) : Below A w ((w'.setCell ⟨B, 0, none⟩ u0).setCell ⟨B, 1, none⟩ u1) := (h.setCell (p := ⟨B, 0, none⟩) hB u0).setCell (p := ⟨B, 1, none⟩) hB u1
theorem below_then {w w1 w2 : World} {A : Nat} (h : Below A w w1) (hA : A ≤ w.heap.size) (k : Below w1.heap.size w1 w2) : Below A w w2 := h.trans (k.mono (Nat.le_trans hA h.size))
theorem Sl.box {w : World} {ao : Option Addr} {n B : Nat} {f : Nat → Nat} {c : Bool} {p : Option Addr} {k l : Nat} (h : Sl w ao n f) (z : Box w B (.bool c) (.slice p k l)) (u0 u1 : Value) : Sl ((w.setCell ⟨B, 0, none⟩ u0).setCell ⟨B, 1, none⟩ u1) ao n f := by
 rcases h with rfl | ⟨d, off, rfl, hc⟩
 ·exact .inl rfl
 ·refine .inr ⟨d, off, rfl, fun j hj => ?_⟩
  have e := hc j hj
  rw [World.cell?_setCell_other _ _ _ _ (fun e1 => by rw [← e1, z.c1] at e; cases e), World.cell?_setCell_other _ _ _ _ (fun e1 => by rw [← e1, z.c0] at e; cases e)]
  exact e
theorem Right.box {w : World} {b : Bool} {ao : Option Addr} {n nc B : Nat} {x : Int} {c : Bool} {p : Option Addr} {k l : Nat} (h : Right w b ao n nc x) (z : Box w B (.bool c) (.slice p k l)) (u0 u1 : Value) : Right ((w.setCell ⟨B, 0, none⟩ u0).setCell ⟨B, 1, none⟩ u1) b ao n nc x := by
 obtain ⟨f, h1, h2, h3, h4, h5⟩ := h.ex
 exact ⟨f, h1, h2, h3.box z u0 u1, h4, h5⟩
theorem Whole.box {w : World} {b : Bool} {ao : Option Addr} {n nc B : Nat} {x : Int} {c : Bool} {p : Option Addr} {k l : Nat} (h : Whole w b ao n nc x) (z : Box w B (.bool c) (.slice p k l)) (u0 u1 : Value) : Whole ((w.setCell ⟨B, 0, none⟩ u0).setCell ⟨B, 1, none⟩ u1) b ao n nc x := by
 obtain ⟨f, A, e⟩ := h.ex
 exact ⟨f, ⟨A.len, A.cap, A.few, A.sl.box z u0 u1, A.lim⟩, e⟩
theorem IntPost.stored {w w2 : World} {b : Bool} {ao : Option Addr} {n nc B : Nat} {x : Int} {c : Bool} {p : Option Addr} {k l : Nat} (h : Right w2 b ao n nc x) (z : Box w2 B (.bool c) (.slice p k l)) (hb : Below w.heap.size w w2) (hB : w.heap.size ≤ B) :
  IntPost x w (.returned (.agg #[.bool b, .slice ao n nc])) ((w2.setCell ⟨B, 0, none⟩ (.bool b)).setCell ⟨B, 1, none⟩ (.slice ao n nc)) :=
 ⟨b, ao, n, nc, rfl, h.box z _ _, below_set hb hB _ _⟩
theorem gen_wp {P : Program} {c : Code} {Q : Exit → Act → World → Prop} {a : Act} {W : World} (R : World → Prop) (hW : R W) (h : ∀ w', R w' → Code.wp P c Q a w') : Code.wp P c Q a W := h W hW
theorem gen_calls {P : Program} {f : FuncId} {args : Array Value} {Q : Ending → World → Prop} {W : World} (R : World → Prop) (hW : R W) (h : ∀ w', R w' → Calls P f args w' Q) : Calls P f args W Q := h W hW
attribute [local go_sem ↓] Go.wp_at_zero Go.wp_at_succ
theorem wNorm_any (b : Bool) (ao : Option Addr) (n nc : Nat) (x : Int) (w : World) (A : Whole w b ao n nc x) :
  Calls Tryz.prog 115 #[.agg #[.bool b, .slice ao n nc]] w (IntPost x w) := by
 obtain ⟨f, A, hx⟩ := A.ex
 have A' := Lib.hid A; have hx' := Lib.hid hx
 clear A hx
 go_enter Tryz.func115, Tryz.ntmps115
 go_wp2_with fail
 refine gen_wp (fun w' => Below w.heap.size w w' ∧ Box w' w.heap.size (.bool b) (.slice ao n nc) ∧ Box w' (w.heap.size + 1) (.bool false) (.slice none 0 0))
  ⟨((Below.refl _ w).alloc (Nat.le_refl _) _).alloc (by simp) _, (Box.new _ _ _ rfl).alloc _, Box.new _ _ _ (by simp)⟩ ?_
 rintro w0 ⟨hb0, x0, x1⟩
 have hb0 := hb0.drew; have x0 := x0.drew; have x1 := x1.drew
 go_region_held3 (fun w' => w'.cell? ⟨w.heap.size, 0, none⟩ = some (.bool b) ∧ w'.cell? ⟨w.heap.size, 1, none⟩ = some (.slice ao n nc))
  (first | exact ⟨x0.c0, x0.c1⟩ | exact ⟨y0.c0, y0.c1⟩ | exact ⟨z0.c0, z0.c1⟩ | exact ⟨(z0.other (by omega) _ _).c0, (z0.other (by omega) _ _).c1⟩)
  (first
  | (go_at_call 149; refine (norm_any ao n nc f _ (A'.out.below hb0)).mono ?_; rintro e w1 ⟨co, cn, cc, c, rfl, h1, h2, h3, h4, hb⟩; have y0 := x0.later hb; have y1 := x1.later hb)
  | (go_at_call 150; refine (signed_any b co _ cn cc c _ h1 h2 h3 h4).mono ?_; rintro e w2 ⟨sb, so, sn, sc, rfl, hR, hb2⟩; have z0 := y0.later hb2; have z1 := y1.later hb2; have q1 := z1.c0; have q2 := z1.c1; have q3 := z1.fr 0; have q4 := z1.fr 1))
 have z2 := z1.set (.bool sb) (.slice so sn sc)
 have e0 := z2.c0; have e1 := z2.c1
 go_wp2_with fail
 refine bodyPost_ret (v := .agg #[.bool sb, .slice so sn sc]) (by simp [results, Tryz.results115, go_sem, e0, e1]) rfl ?_
 rw [← hx'.out]
 exact IntPost.stored hR z1 (below_then (below_then hb0 (Nat.le_refl _) hb) (Nat.le_refl _) hb2) (by omega)
end Go.Proofs.YtaepelipkkmeaaaGreat
namespace Go.Proofs.YtaepelipkkmeaaaGreat.Num
theorem wrap32_toNat (v : BitVec 32) : IntKind.u32.wrap (v.toNat : Int) = (v.toNat : Int) := by
 have h := v.isLt
 generalize v.toNat = n at h
 simp [IntKind.wrap, IntKind.signed, IntKind.bits]
 omega
theorem wrap64_toNat (v : BitVec 64) : IntKind.u64.wrap (v.toNat : Int) = (v.toNat : Int) := by
 have h := v.isLt
 generalize v.toNat = n at h
 simp [IntKind.wrap, IntKind.signed, IntKind.bits]
 omega
theorem ofInt_toNat32 (x : Nat) (h : x < 4294967296) : (BitVec.ofInt 32 (x : Int)).toNat = x := by
 rw [BitVec.ofInt_natCast, BitVec.toNat_ofNat]; omega
theorem ofInt_toNat64 (x : Nat) (h : x < 18446744073709551616) : (BitVec.ofInt 64 (x : Int)).toNat = x := by
 rw [BitVec.ofInt_natCast, BitVec.toNat_ofNat]; omega
theorem and32 (x y : Nat) (hx : x < 4294967296) (hy : y < 4294967296) : bits .and .u32 x y = ((x &&& y : Nat) : Int) := by
 show IntKind.u32.wrap ((BitVec.ofInt 32 x &&& BitVec.ofInt 32 y : BitVec 32).toNat : Int) = _
 rw [wrap32_toNat, BitVec.toNat_and, ofInt_toNat32 x hx, ofInt_toNat32 y hy]
theorem or32 (x y : Nat) (hx : x < 4294967296) (hy : y < 4294967296) : bits .or .u32 x y = ((x ||| y : Nat) : Int) := by
 show IntKind.u32.wrap ((BitVec.ofInt 32 x ||| BitVec.ofInt 32 y : BitVec 32).toNat : Int) = _
 rw [wrap32_toNat, BitVec.toNat_or, ofInt_toNat32 x hx, ofInt_toNat32 y hy]
theorem xor32 (x y : Nat) (hx : x < 4294967296) (hy : y < 4294967296) : bits .xor .u32 x y = ((x ^^^ y : Nat) : Int) := by
 show IntKind.u32.wrap ((BitVec.ofInt 32 x ^^^ BitVec.ofInt 32 y : BitVec 32).toNat : Int) = _
 rw [wrap32_toNat, BitVec.toNat_xor, ofInt_toNat32 x hx, ofInt_toNat32 y hy]
theorem or64 (x y : Nat) (hx : x < 18446744073709551616) (hy : y < 18446744073709551616) : bits .or .u64 x y = ((x ||| y : Nat) : Int) := by
 show IntKind.u64.wrap ((BitVec.ofInt 64 x ||| BitVec.ofInt 64 y : BitVec 64).toNat : Int) = _
 rw [wrap64_toNat, BitVec.toNat_or, ofInt_toNat64 x hx, ofInt_toNat64 y hy]
def bor (x y : Int) : Int := if x < y then 1 else 0
theorem and_lt32 {x y : Nat} (hx : x < 4294967296) : x &&& y < 4294967296 := Nat.lt_of_le_of_lt Nat.and_le_left hx
theorem or_lt32 {x y : Nat} (hx : x < 4294967296) (hy : y < 4294967296) : x ||| y < 4294967296 := Nat.or_lt_two_pow (n := 32) hx hy
theorem xor_lt32 {x y : Nat} (hx : x < 4294967296) (hy : y < 4294967296) : x ^^^ y < 4294967296 := Nat.xor_lt_two_pow (n := 32) hx hy
theorem top_bit (v : Nat) (h : v < 4294967296) : v / 2147483648 = if v.testBit 31 then 1 else 0 := by
 rw [Nat.testBit_eq_decide_div_mod_eq]
 have : (2 : Nat) ^ 31 = 2147483648 := rfl
 rw [this]
 by_cases c : v / 2147483648 % 2 = 1
 ·simp [c]; omega
 ·simp [c]; omega
theorem bit31 (v : Nat) (h : v < 4294967296) : v.testBit 31 = decide (2147483648 ≤ v) := by
 rw [Nat.testBit_eq_decide_div_mod_eq]
 have : (2 : Nat) ^ 31 = 2147483648 := rfl
 rw [this, decide_eq_decide]
 omega
theorem sub32_bits (x y c : Int) (x0 : 0 ≤ x) (x1 : x < 4294967296) (y0 : 0 ≤ y) (y1 : y < 4294967296) (c0 : 0 ≤ c) (c1 : c ≤ 1) :
  bits BinOp.or IntKind.u32 (bits BinOp.and IntKind.u32 (bits BinOp.xor IntKind.u32 IntKind.u32.max x) y)
   (bits BinOp.and IntKind.u32 (bits BinOp.xor IntKind.u32 IntKind.u32.max (bits BinOp.xor IntKind.u32 x y)) ((x - y - c) % 4294967296)) / 2147483648 = bor x (y + c) := by
 obtain ⟨x, rfl⟩ := Int.eq_ofNat_of_zero_le x0
 obtain ⟨y, rfl⟩ := Int.eq_ofNat_of_zero_le y0
 obtain ⟨d, hd⟩ := Int.eq_ofNat_of_zero_le (show 0 ≤ ((x : Int) - y - c) % 4294967296 by omega)
 have hdl : d < 4294967296 := by omega
 have hx : x < 4294967296 := by omega
 have hy : y < 4294967296 := by omega
 have hm : IntKind.u32.max = ((4294967295 : Nat) : Int) := by decide
 have m1 : 4294967295 < 4294967296 := by decide
 rw [hd, hm, xor32 _ _ m1 hx, xor32 _ _ hx hy, xor32 _ _ m1 (xor_lt32 hx hy), and32 _ _ (xor_lt32 m1 hx) hy, and32 _ _ (xor_lt32 m1 (xor_lt32 hx hy)) hdl,
  or32 _ _ (and_lt32 (xor_lt32 m1 hx)) (and_lt32 (xor_lt32 m1 (xor_lt32 hx hy)))]
 have ht := top_bit ((4294967295 ^^^ x) &&& y ||| (4294967295 ^^^ (x ^^^ y)) &&& d) (or_lt32 (and_lt32 (xor_lt32 m1 hx)) (and_lt32 (xor_lt32 m1 (xor_lt32 hx hy))))
 have hb : (4294967295 : Nat).testBit 31 = true := by decide
 rw [Nat.testBit_or, Nat.testBit_and, Nat.testBit_and, Nat.testBit_xor, Nat.testBit_xor, Nat.testBit_xor, hb, bit31 x hx, bit31 y hy, bit31 d hdl] at ht
 have hgoal : (((4294967295 ^^^ x) &&& y ||| (4294967295 ^^^ (x ^^^ y)) &&& d : Nat) : Int) / 2147483648 = ((((4294967295 ^^^ x) &&& y ||| (4294967295 ^^^ (x ^^^ y)) &&& d) / 2147483648 : Nat) : Int) := by omega
 rw [hgoal, ht]
 have hc : c = 0 ∨ c = 1 := by omega
 unfold bor
 by_cases a1 : 2147483648 ≤ x <;> by_cases a2 : 2147483648 ≤ y <;> by_cases a3 : 2147483648 ≤ d <;> simp [a1, a2, a3] <;> omega
theorem or_shift (x y : Int) (x0 : 0 ≤ x) (x1 : x < 4294967296) (y0 : 0 ≤ y) (y1 : y < 4294967296) : bits BinOp.or IntKind.u64 (x * 4294967296) y = x * 4294967296 + y := by
 obtain ⟨x, rfl⟩ := Int.eq_ofNat_of_zero_le x0
 obtain ⟨y, rfl⟩ := Int.eq_ofNat_of_zero_le y0
 have e : (x : Int) * 4294967296 = ((x * 4294967296 : Nat) : Int) := by omega
 rw [e, or64 _ _ (by omega) (by omega)]
 have h3 := Nat.two_pow_add_eq_or_of_lt (i := 32) (b := y) (by omega) x
 have h4 : x * 4294967296 ||| y = x * 4294967296 + y := by
  rw [Nat.mul_comm]; exact h3.symm
 rw [h4]
 omega
end Go.Proofs.YtaepelipkkmeaaaGreat.Num
namespace Go.Proofs.YtaepelipkkmeaaaGreat
open Go.RowKit Num
theorem ret_num {k : IntKind} {a b : Int} (h : a = b) : Ending.returned (.int k a) = .returned (.int k b) := by rw [h]
theorem add32_any (x y c : Int) (w : World) (x0 : 0 ≤ x) (x1 : x < 4294967296) (y0 : 0 ≤ y) (y1 : y < 4294967296) (c0 : 0 ≤ c) (c1 : c ≤ 1) :
  Calls Tryz.prog 177 #[.int .u32 x, .int .u32 y, .int .u32 c] w fun e w' =>
   e = .returned (.tuple #[.int .u32 ((x + y + c) % 4294967296), .int .u32 ((x + y + c) / 4294967296)]) ∧ w = w' := by
 go_enter Tryz.func177, Tryz.ntmps177
 go_wp2
 go_ret2
 exact ⟨rfl, rfl⟩
theorem sub32_any (x y c : Int) (w : World) (x0 : 0 ≤ x) (x1 : x < 4294967296) (y0 : 0 ≤ y) (y1 : y < 4294967296) (c0 : 0 ≤ c) (c1 : c ≤ 1) :
  Calls Tryz.prog 179 #[.int .u32 x, .int .u32 y, .int .u32 c] w fun e w' =>
   e = .returned (.tuple #[.int .u32 ((x - y - c) % 4294967296), .int .u32 (bor x (y + c))]) ∧ w = w' := by
 rw [← sub32_bits x y c x0 x1 y0 y1 c0 c1]
 go_enter Tryz.func179, Tryz.ntmps179
 go_wp2
 go_ret2
 exact ⟨rfl, rfl⟩
def subD (x y c : Nat) : Nat := if y + c ≤ x then x - y - c else x + 4294967296 - y - c
def subC (x y c : Nat) : Nat := if y + c ≤ x then 0 else 1
theorem sub_eq {x y c : Nat} (hx : x < 4294967296) (hy : y < 4294967296) (hc : c ≤ 1) : subD x y c + y + c = x + 4294967296 * subC x y c ∧ subD x y c < 4294967296 ∧ subC x y c ≤ 1 := by
 unfold subD subC
 split <;> omega
theorem sub32_nat (x y c : Nat) (w : World) (hx : x < 4294967296) (hy : y < 4294967296) (hc : c ≤ 1) :
  Calls Tryz.prog 179 #[.int .u32 x, .int .u32 y, .int .u32 c] w fun e w' => e = .returned (.tuple #[.int .u32 (subD x y c), .int .u32 (subC x y c)]) ∧ w = w' := by
 have h := sub32_any x y c w (by omega) (by omega) (by omega) (by omega) (by omega) (by omega)
 have e1 : ((x : Int) - y - c) % 4294967296 = (subD x y c : Int) := by unfold subD; split <;> omega
 have e2 : bor (x : Int) ((y : Int) + c) = (subC x y c : Int) := by unfold bor subC; split <;> split <;> omega
 rw [e1, e2] at h
 exact h
theorem sub32_nat0 (x y : Nat) (w : World) (hx : x < 4294967296) (hy : y < 4294967296) :
  Calls Tryz.prog 179 #[.int .u32 x, .int .u32 y, .int .u32 0] w fun e w' => e = .returned (.tuple #[.int .u32 (subD x y 0), .int .u32 (subC x y 0)]) ∧ w = w' :=
 sub32_nat x y 0 w hx hy (by omega)
def cmpI (x y : Int) : Int := if x < y then -1 else if y < x then 1 else 0
theorem cmpI_lt {x y : Int} (h : x < y) : cmpI x y = -1 := if_pos h
theorem cmpI_gt {x y : Int} (h : y < x) : cmpI x y = 1 := by unfold cmpI; rw [if_neg (by omega), if_pos h]
theorem cmpI_eq {x y : Int} (h : x = y) : cmpI x y = 0 := by unfold cmpI; rw [if_neg (by omega), if_neg (by omega)]
theorem cmp_int (x y : Int) (w : World) :
  Calls Tryz.prog 170 #[.int .i64 x, .int .i64 y] w fun e w' => e = .returned (.int .i64 (cmpI x y)) ∧ w = w' := by
 by_cases h1 : x < y
 ·rw [cmpI_lt h1]
  go_enter Tryz.func170, Tryz.ntmps170
  go_wp2
  go_ret
  exact ⟨rfl, rfl⟩
 by_cases h2 : y < x
 ·rw [cmpI_gt h2]
  go_enter Tryz.func170, Tryz.ntmps170
  go_wp2
  go_ret
  exact ⟨rfl, rfl⟩
 ·rw [cmpI_eq (by omega)]
  go_enter Tryz.func170, Tryz.ntmps170
  go_wp2
  go_ret
  exact ⟨rfl, rfl⟩
theorem cmp_u32 (x y : Int) (w : World) :
  Calls Tryz.prog 171 #[.int .u32 x, .int .u32 y] w fun e w' => e = .returned (.int .i64 (cmpI x y)) ∧ w = w' := by
 by_cases h1 : x < y
 ·rw [cmpI_lt h1]
  go_enter Tryz.func171, Tryz.ntmps171
  go_wp2
  go_ret
  exact ⟨rfl, rfl⟩
 by_cases h2 : y < x
 ·rw [cmpI_gt h2]
  go_enter Tryz.func171, Tryz.ntmps171
  go_wp2
  go_ret
  exact ⟨rfl, rfl⟩
 ·rw [cmpI_eq (by omega)]
  go_enter Tryz.func171, Tryz.ntmps171
  go_wp2
  go_ret
  exact ⟨rfl, rfl⟩
theorem div32_any (x y z : Int) (w : World) (x0 : 0 ≤ x) (x1 : x < z) (y0 : 0 ≤ y) (y1 : y < 4294967296) (z0 : 0 < z) (z1 : z < 4294967296) :
  Calls Tryz.prog 183 #[.int .u32 x, .int .u32 y, .int .u32 z] w fun e w' =>
   e = .returned (.tuple #[.int .u32 ((x * 4294967296 + y) / z), .int .u32 ((x * 4294967296 + y) % z)]) ∧ ∃ n, w' = w.drewN n := by
 have hor := or_shift x y x0 (by omega) y0 y1
 have hz : (z != 0) = true := by rw [bne_iff_ne]; omega
 have hzx : decide (z ≤ x) = false := by simp; omega
 have hq : (x * 4294967296 + y) / z < 4294967296 := Int.ediv_lt_of_lt_mul z0 (by
  have : (x + 1) * 4294967296 ≤ z * 4294967296 := Int.mul_le_mul_of_nonneg_right (by omega) (by decide)
  rw [Int.mul_comm 4294967296 z]; omega)
 have hq0 : 0 ≤ (x * 4294967296 + y) / z := Int.ediv_nonneg (by omega) (by omega)
 have hr0 : 0 ≤ (x * 4294967296 + y) % z := Int.emod_nonneg _ (by omega)
 have hr1 : (x * 4294967296 + y) % z < z := Int.emod_lt_of_pos _ z0
 go_enter Tryz.func183, Tryz.ntmps183
 go_wp2
 go_quiet (fail)
 go_wp2
 go_ret2
 exact ⟨rfl, _, rfl⟩
set_option maxRecDepth 100000 in
theorem len32_any (x : Int) (w : World) (h0 : 0 ≤ x) (h1 : x ≤ 4294967295) :
  Calls Tryz.prog 182 #[.int .u32 x] w fun e w' => e = .returned (.int .i64 (Lib.bitLen x.toNat)) ∧ w = w' := by
 by_cases c1 : 65536 ≤ x <;> by_cases c2 : 256 ≤ (if 65536 ≤ x then x / 65536 else x)
 ·rw [if_pos c1] at c2
  have b0 : 0 ≤ x / 65536 / 256 := by omega
  have b1 : x / 65536 / 256 ≤ 255 := by omega
  have l := Lib.bitLen_le8' (x / 65536 / 256) b0 b1
  have l8 := Lib.len8_of (x / 65536 / 256) b0 b1
  have hl0 : 0 ≤ Lib.len8 (x / 65536 / 256) := by omega
  have hl1 : Lib.len8 (x / 65536 / 256) ≤ 8 := by omega
  have hl := Lib.hid l; have hl8 := Lib.hid l8; clear l l8
  go_enter Tryz.func182, Tryz.ntmps182
  go_wp2
  go_ret
  refine ⟨ret_num ?_, rfl⟩
  have l := hl.out; have l8 := hl8.out
  have e : (x / 65536 / 256).toNat = x.toNat / 16777216 := by omega
  have s := Lib.bitLen_shift24 x.toNat (by omega) (by omega)
  rw [e] at l l8
  omega
 ·rw [if_pos c1] at c2
  have b0 : 0 ≤ x / 65536 := by omega
  have b1 : x / 65536 ≤ 255 := by omega
  have l := Lib.bitLen_le8' (x / 65536) b0 b1
  have l8 := Lib.len8_of (x / 65536) b0 b1
  have hl0 : 0 ≤ Lib.len8 (x / 65536) := by omega
  have hl1 : Lib.len8 (x / 65536) ≤ 8 := by omega
  have hl := Lib.hid l; have hl8 := Lib.hid l8; clear l l8
  go_enter Tryz.func182, Tryz.ntmps182
  go_wp2
  go_ret
  refine ⟨ret_num ?_, rfl⟩
  have l := hl.out; have l8 := hl8.out
  have e : (x / 65536).toNat = x.toNat / 65536 := by omega
  have s := Lib.bitLen_shift16 x.toNat (by omega) (by omega)
  rw [e] at l l8
  omega
 ·rw [if_neg c1] at c2
  have b0 : 0 ≤ x / 256 := by omega
  have b1 : x / 256 ≤ 255 := by omega
  have l := Lib.bitLen_le8' (x / 256) b0 b1
  have l8 := Lib.len8_of (x / 256) b0 b1
  have hl0 : 0 ≤ Lib.len8 (x / 256) := by omega
  have hl1 : Lib.len8 (x / 256) ≤ 8 := by omega
  have hl := Lib.hid l; have hl8 := Lib.hid l8; clear l l8
  go_enter Tryz.func182, Tryz.ntmps182
  go_wp2
  go_ret
  refine ⟨ret_num ?_, rfl⟩
  have l := hl.out; have l8 := hl8.out
  have e : (x / 256).toNat = x.toNat / 256 := by omega
  have s := Lib.bitLen_shift8 x.toNat (by omega) (by omega)
  rw [e] at l l8
  omega
 ·rw [if_neg c1] at c2
  have b0 : 0 ≤ x := by omega
  have b1 : x ≤ 255 := by omega
  have l := Lib.bitLen_le8' x b0 b1
  have l8 := Lib.len8_of x b0 b1
  have hl0 : 0 ≤ Lib.len8 x := by omega
  have hl1 : Lib.len8 x ≤ 8 := by omega
  have hl := Lib.hid l; have hl8 := Lib.hid l8; clear l l8
  go_enter Tryz.func182, Tryz.ntmps182
  go_wp2
  go_ret
  refine ⟨ret_num ?_, rfl⟩
  have l := hl.out; have l8 := hl8.out
  omega
def lead (x : Nat) : Nat := 32 - Lib.bitLen x
theorem bitLenAux_zero (f : Nat) : Lib.bitLenAux f 0 = 0 := by cases f <;> simp [Lib.bitLenAux]
theorem bitLenAux_pow : ∀ (f x : Nat), x < 2 ^ f → x ≠ 0 → 1 ≤ Lib.bitLenAux f x ∧ 2 ^ (Lib.bitLenAux f x - 1) ≤ x ∧ x < 2 ^ Lib.bitLenAux f x := by
 intro f
 induction f with
 | zero => intro x hx h0; simp at hx; omega
 | succ f ih =>
  intro x hx h0
  have hp : (2 : Nat) ^ (f + 1) = 2 * 2 ^ f := by rw [Nat.pow_succ]; omega
  have e : Lib.bitLenAux (f + 1) x = 1 + Lib.bitLenAux f (x / 2) := by simp [Lib.bitLenAux, h0]
  rw [e]
  by_cases h1 : x / 2 = 0
  ·rw [h1, bitLenAux_zero]
   simp
   omega
  ·obtain ⟨a, b, c⟩ := ih (x / 2) (by omega) h1
   have h3 : 1 + Lib.bitLenAux f (x / 2) - 1 = (Lib.bitLenAux f (x / 2) - 1) + 1 := by omega
   have h4 : 1 + Lib.bitLenAux f (x / 2) = Lib.bitLenAux f (x / 2) + 1 := by omega
   rw [h3, h4, Nat.pow_succ, Nat.pow_succ]
   omega
theorem lead_fits (x : Nat) (h0 : x ≠ 0) (h1 : x < 4294967296) : lead x < 32 ∧ x * 2 ^ lead x < 4294967296 ∧ 2147483648 ≤ x * 2 ^ lead x := by
  obtain ⟨a, b, c⟩ := bitLenAux_pow 64 x (Nat.lt_of_lt_of_le h1 (by decide)) h0
  have l : Lib.bitLenAux 64 x ≤ 32 := Lib.bitLenAux_le 64 x 32 h1
  unfold lead Lib.bitLen
  generalize Lib.bitLenAux 64 x = n at *
  have e1 : (2 : Nat) ^ n * 2 ^ (32 - n) = 4294967296 := by rw [← Nat.pow_add]; have : n + (32 - n) = 32 := by omega
                                                            rw [this]
  have e2 : (2 : Nat) ^ (n - 1) * 2 ^ (32 - n) = 2147483648 := by rw [← Nat.pow_add]; have : n - 1 + (32 - n) = 31 := by omega
                                                                  rw [this]
  refine ⟨by omega, ?_, ?_⟩
  · rw [← e1]; exact (Nat.mul_lt_mul_right (Nat.pow_pos (by decide))).2 c
  · rw [← e2]; exact Nat.mul_le_mul_right _ b
theorem lead_any (x : Nat) (w : World) (h1 : x < 4294967296) :
  Calls Tryz.prog 172 #[.int .u32 x] w fun e w' => e = .returned (.int .i64 (lead x)) ∧ w = w' := by
 have l : Lib.bitLen x ≤ 32 := Lib.bitLen_le x 32 (by decide) h1
 have e8 : ((lead x : Nat) : Int) = 32 - (Lib.bitLen x : Int) := by unfold lead; omega
 rw [e8]
 clear e8
 go_enter Tryz.func172, Tryz.ntmps172
 go_wp2_with (go_at_call 182; refine (len32_any x _ (by omega) (by omega)).mono ?_; rintro e w' ⟨rfl, rfl⟩)
 go_ret
 exact ⟨rfl, rfl⟩
end Go.Proofs.YtaepelipkkmeaaaGreat
namespace Go.Proofs.YtaepelipkkmeaaaGreat.Num
theorem val_lt_of_len {f g : Nat → Nat} {n m : Nat} (lf : Lim f n) (tg : Top g m) (h : n < m) : val f n < val g m := by
 rcases tg with rfl | t
 ·omega
 ·have a := val_lt lf
  have b : pw (m - 1) ≤ val g m := by
   have hm : m = m - 1 + 1 := by omega
   rw [hm]; exact val_ge t
  have c : pw n ≤ pw (m - 1) := pw_le (by omega)
  omega
theorem val_lt_of_top {f g : Nat → Nat} {k : Nat} (lf : Lim f k) (j : Nat) (hj : j < k) (he : ∀ t, j < t → t < k → f t = g t) (hlt : f j < g j) : val f k < val g k := by
 induction k with
 | zero => omega
 | succ k ih =>
  rw [val_succ, val_succ]
  by_cases c : j = k
  ·subst c
   have a := val_lt (lf.mono (Nat.le_succ j))
   have b : (f j + 1) * pw j ≤ g j * pw j := Nat.mul_le_mul_right _ hlt
   rw [Nat.add_mul] at b
   omega
  ·have := ih (lf.mono (Nat.le_succ k)) (by omega) (fun t h1 h2 => he t h1 (by omega))
   rw [he k (by omega) (by omega)]
   omega
theorem dif_end {S c A B N : Nat} (h : S + B = A + c * pw N) (hS : S < pw N) (hc : c ≤ 1) : (c = 0 → B ≤ A ∧ S = A - B) ∧ (c ≠ 0 → A < B) := by
 constructor
 ·rintro rfl; omega
 ·intro h0
  have : c = 1 := by omega
  subst this
  omega
theorem mul_step {S A B c c' s y x d P : Nat} (h : S + c * P = A + x * B) (e : s + 4294967296 * c' = c + (x * y + d)) : S + s * P + c' * (4294967296 * P) = A + d * P + x * (B + y * P) := by
 have e' := congrArg (· * P) e
 simp only [Nat.add_mul] at e'
 have h1 : c' * (4294967296 * P) = 4294967296 * c' * P := by rw [Nat.mul_left_comm, Nat.mul_assoc]
 have h2 : x * (B + y * P) = x * B + x * y * P := by rw [Nat.mul_add, Nat.mul_assoc]
 omega
theorem mul_fits {x y d c : Nat} (hx : x < 4294967296) (hy : y < 4294967296) (hd : d < 4294967296) (hc : c < 4294967296) : c + (x * y + d) < 18446744073709551616 := by
 have : x * y ≤ 4294967295 * 4294967295 := Nat.mul_le_mul (by omega) (by omega)
 omega
theorem val_add (f : Nat → Nat) (n m : Nat) : val f (n + m) = val f n + pw n * val (fun j => f (n + j)) m := by
 induction m with
 | zero => simp [val]
 | succ m ih =>
  rw [← Nat.add_assoc, val_succ, ih, val_succ, pw_add, Nat.mul_add, Nat.add_assoc]
  congr 1
  rw [Nat.mul_left_comm]
theorem val_noughts (n : Nat) : val (fun _ => 0) n = 0 := by
 induction n with
 | zero => rfl
 | succ n ih => rw [val_succ, ih]; simp
theorem mul_round {F F' g : Nat → Nat} {j l c x V : Nat} (h0 : ∀ t, t < j → F' t = F t) (h : val (fun t => F' (j + t)) l + c * pw l = val (fun t => F (j + t)) l + x * val g l) (hV : val F (j + l) = V * val g l) :
  val (put F' (j + l) c) (j + 1 + l) = (V + x * pw j) * val g l := by
 have e0 : j + 1 + l = j + l + 1 := by omega
 rw [e0, val_put_succ, val_add, val_congr (g := F) h0, Nat.add_mul, ← hV, val_add, pw_add]
 have e1 := congrArg (pw j * ·) h
 simp only [Nat.mul_add] at e1
 have e2 : pw j * (c * pw l) = c * (pw j * pw l) := Nat.mul_left_comm _ _ _
 have e3 : pw j * (x * val g l) = x * pw j * val g l := by rw [Nat.mul_left_comm, Nat.mul_assoc]
 omega
end Go.Proofs.YtaepelipkkmeaaaGreat.Num
namespace Go.Proofs.YtaepelipkkmeaaaGreat
open Go.RowKit Num
theorem quiet_here {P : Program} {f : FuncId} {args : Array Value} {w : World} {n : Nat} {v : Value}
  (h : Calls P f args (w.drewN n) fun e w' => e = .returned v ∧ w.drewN n = w') : Calls P f args (w.drewN n) fun e w'' => e = .returned v ∧ ∃ m, w'' = w.drewN m :=
 h.mono fun _ _ ⟨he, hm⟩ => ⟨he, n, hm.symm⟩
theorem drewN_trans {w w2 : World} {a : Nat} (h : w2 = w.drewN a) (b : Nat) : ∃ q, w2.drewN b = w.drewN q := ⟨a + b, by rw [h, World.drewN_drewN]⟩
def CmpPost (x y : Nat) (w : World) (e : Ending) (w' : World) : Prop := e = .returned (.int .i64 (cmpI x y)) ∧ ∃ q, w' = w.drewN q
theorem cmp_any (ao bo : Option Addr) (n nc m mc : Nat) (f g : Nat → Nat) (w : World) (A : Arg w ao n nc f) (B : Arg w bo m mc g) :
  Calls Tryz.prog 152 #[.slice ao n nc, .slice bo m mc] w (CmpPost (val f n) (val g m) w) := by
 obtain ⟨hn, hnc, hnb, hf, lf⟩ := A
 obtain ⟨hm, hmc, hmb, hg, lg⟩ := B
 go_enter Tryz.func152, Tryz.ntmps152
 go_wp2_with fail
 refine (trim_any ao n nc f w hn (by omega) hf).mono ?_
 rintro e w' ⟨k, hk, rfl, htf0, hvf0, rfl⟩
 have htf := Lib.hid htf0; have hvf := Lib.hid hvf0; clear htf0 hvf0
 go_wp2_with fail
 refine (trim_any bo m mc g w hm (by omega) hg).mono ?_
 rintro e w' ⟨l, hl, rfl, htg0, hvg0, rfl⟩
 have htg := Lib.hid htg0; have hvg := Lib.hid hvg0; clear htg0 hvg0
 have hlf := Lib.hid (lf.mono hk); have hlg := Lib.hid (lg.mono hl)
 by_cases hkl : k = l
 ·subst hkl
  go_wp2_with fail
  go_loopw [5] (fun i wr => ∃ j : Nat, j ≤ k ∧ i = .int .i64 ((j : Int) - 1) ∧ (∀ t, j ≤ t → t < k → f t = g t) ∧ ∃ q, wr = w.drewN q) (fun i _ => (intOf i + 1).toNat)
  case atStart => exact ⟨k, Nat.le_refl _, rfl, fun t h1 h2 => by omega, 0, rfl⟩
  case round =>
   obtain ⟨j, hj, rfl, hsame0, q, rfl⟩ := hrel
   have hsame := Lib.hid hsame0; clear hsame0
   by_cases h0 : j = 0
   ·subst h0
    go_wp2_with fail
    go_ret
    refine ⟨ret_num ?_, q, rfl⟩
    rw [cmpI_eq]
    rw [← hvf.out, ← hvg.out, val_congr fun t ht => hsame.out t (Nat.zero_le _) ht]
   ·rcases hf with h | ⟨b, off, rfl, hc⟩
    ·omega
    rcases hg with h | ⟨b', off', rfl, hc'⟩
    ·omega
    have c1 := hc (j - 1) (by omega)
    have c2 := hc' (j - 1) (by omega)
    have p0 : 0 < j := by omega
    have p1 : 0 ≤ (j : Int) - 1 := by omega
    clear hc hc'
    by_cases he : f (j - 1) = g (j - 1)
    ·have t1 : ((f (j - 1) : Int) != (g (j - 1) : Int)) = false := by simp [he]
     have he' := Lib.hid he; clear he
     go_wp2_with fail
     go_quiet (fail)
     go_wp2_with fail
     go_roundw
     case rel =>
      refine ⟨j - 1, by omega, int_eq (by omega), fun t h1 h2 => ?_, _, rfl⟩
      by_cases ht : t = j - 1
      ·rw [ht]; exact he'.out
      ·exact hsame.out t (by omega) h2
     case measure => simp [intOf]; omega
    ·have t1 : ((f (j - 1) : Int) != (g (j - 1) : Int)) = true := by rw [bne_iff_ne]; omega
     go_wp2_with fail
     go_quiet (fail)
     go_wp2_with fail
     rw [World.drewN_drewN]
     obtain ⟨w2, hw2⟩ : ∃ w2, w2 = w.drewN (q + nq) := ⟨_, rfl⟩
     have d1 : w2.cell? ⟨b, off + (j - 1), none⟩ = some (.int .u32 (f (j - 1))) := by rw [hw2]; exact c1
     have d2 : w2.cell? ⟨b', off' + (j - 1), none⟩ = some (.int .u32 (g (j - 1))) := by rw [hw2]; exact c2
     rw [← hw2]
     have hw := Lib.hid hw2
     clear hw2 c1 c2
     go_quiet ((go_at_call 171; exact quiet_here (cmp_u32 _ _ _)))
     go_wp2_with fail
     go_ret
     refine ⟨ret_num ?_, drewN_trans hw.out _⟩
     rw [← hvf.out, ← hvg.out]
     rcases Nat.lt_or_gt_of_ne he with h | h
     ·rw [cmpI_lt (by omega), cmpI_lt]
      exact Int.ofNat_lt.2 (val_lt_of_top hlf.out (j - 1) (by omega) (fun t h1 h2 => hsame.out t (by omega) h2) h)
     ·rw [cmpI_gt (by omega), cmpI_gt]
      exact Int.ofNat_lt.2 (val_lt_of_top hlg.out (j - 1) (by omega) (fun t h1 h2 => (hsame.out t (by omega) h2).symm) h)
 ·have hd : ((k : Int) != (l : Int)) = true := by rw [bne_iff_ne]; omega
  go_wp2_with fail
  refine (cmp_int k l w).mono ?_
  rintro e w' ⟨rfl, rfl⟩
  go_wp2_with fail
  go_ret
  refine ⟨ret_num ?_, 0, rfl⟩
  rw [← hvf.out, ← hvg.out]
  rcases Nat.lt_or_gt_of_ne hkl with h | h
  ·rw [cmpI_lt (by omega), cmpI_lt]
   exact Int.ofNat_lt.2 (val_lt_of_len hlf.out htg.out h)
  ·rw [cmpI_gt (by omega), cmpI_gt]
   exact Int.ofNat_lt.2 (val_lt_of_len hlg.out htf.out h)
end Go.Proofs.YtaepelipkkmeaaaGreat
namespace Go.Proofs.YtaepelipkkmeaaaGreat.Num
theorem up_parts {x P E : Nat} (hPE : P * E = 4294967296) (hx : x < 4294967296) (hP : 0 < P) : x * P % 4294967296 = P * (x % E) ∧ x * P / 4294967296 < P := by
 constructor
 ·rw [← hPE, Nat.mul_comm x P, Nat.mul_mod_mul_left]
 ·rw [Nat.div_lt_iff_lt_mul (by decide), Nat.mul_comm P]
  exact (Nat.mul_lt_mul_right hP).2 hx
theorem or_low {a u m : Nat} (ha : a < 2 ^ u) : a ||| 2 ^ u * m = a + 2 ^ u * m := by
 rw [Nat.or_comm, ← Nat.two_pow_add_eq_or_of_lt ha m, Nat.add_comm]
theorem wrap_u64 (n : Nat) (h : n < 18446744073709551616) : IntKind.u64.wrap (n : Int) = (n : Int) := by
 simp [IntKind.wrap, IntKind.signed, IntKind.bits]
 omega
theorem pow_parts {u : Nat} (hu : u < 32) : 2 ^ u * 2 ^ (32 - u) = 4294967296 := by
 rw [← Nat.pow_add]
 have : u + (32 - u) = 32 := by omega
 rw [this]
theorem cast_mul_pow (x u : Nat) : (x : Int) * 2 ^ u = ((x * 2 ^ u : Nat) : Int) := by
 rw [Int.natCast_mul, Int.natCast_pow]; rfl
theorem mul_pow_lt {x u : Nat} (hu : u < 32) (hx : x < 4294967296) : x * 2 ^ u < 18446744073709551616 := by
 have h1 := pow_parts hu
 have h2 : 0 < 2 ^ (32 - u) := Nat.pow_pos (by decide)
 have h3 : 2 ^ u * 1 ≤ 2 ^ u * 2 ^ (32 - u) := Nat.mul_le_mul_left _ h2
 have h4 : x * 2 ^ u ≤ 4294967295 * 2 ^ u := Nat.mul_le_mul_right _ (by omega)
 omega
theorem up_lo {a x u : Nat} (hu : u < 32) (hx : x < 4294967296) (ha : a < 2 ^ u) :
  bits BinOp.or IntKind.u32 (a : Int) (IntKind.u64.wrap ((x : Int) * 2 ^ u) % 4294967296) = ((a + x * 2 ^ u % 4294967296 : Nat) : Int) := by
 have h1 := pow_parts hu
 have h2 : 0 < 2 ^ (32 - u) := Nat.pow_pos (by decide)
 have h3 : 2 ^ u * 1 ≤ 2 ^ u * 2 ^ (32 - u) := Nat.mul_le_mul_left _ h2
 have e : ((x * 2 ^ u : Nat) : Int) % 4294967296 = ((x * 2 ^ u % 4294967296 : Nat) : Int) := by omega
 rw [cast_mul_pow, wrap_u64 _ (mul_pow_lt hu hx), e, or32 _ _ (by omega) (Nat.mod_lt _ (by decide)), (up_parts h1 hx (Nat.pow_pos (by decide))).1, or_low ha]
theorem up_hi {x u : Nat} (hu : u < 32) (hx : x < 4294967296) : IntKind.u64.wrap ((x : Int) * 2 ^ u) / 4294967296 % 4294967296 = ((x * 2 ^ u / 4294967296 : Nat) : Int) := by
 have h := mul_pow_lt hu hx
 rw [cast_mul_pow, wrap_u64 _ h]
 omega
theorem up_lo_lt {a x u : Nat} (hu : u < 32) (hx : x < 4294967296) (ha : a < 2 ^ u) : a + x * 2 ^ u % 4294967296 < 4294967296 ∧ x * 2 ^ u / 4294967296 < 2 ^ u ∧ x * 2 ^ u / 4294967296 < 4294967296 := by
 have h1 := pow_parts hu
 have h2 : 0 < 2 ^ (32 - u) := Nat.pow_pos (by decide)
 have h3 : 2 ^ u * 1 ≤ 2 ^ u * 2 ^ (32 - u) := Nat.mul_le_mul_left _ h2
 obtain ⟨e1, e2⟩ := up_parts h1 hx (Nat.pow_pos (by decide))
 refine ⟨?_, e2, by omega⟩
 have h4 : x % 2 ^ (32 - u) < 2 ^ (32 - u) := Nat.mod_lt _ h2
 have h5 : 2 ^ u * (x % 2 ^ (32 - u) + 1) ≤ 2 ^ u * 2 ^ (32 - u) := Nat.mul_le_mul_left _ h4
 rw [e1]
 rw [Nat.mul_add] at h5
 omega
theorem up_round {F : Nat → Nat} {j x u V : Nat} (hV : val F (j + 1) = V * 2 ^ u) :
  val (put (put F j (F j + x * 2 ^ u % 4294967296)) (j + 1) (x * 2 ^ u / 4294967296)) (j + 1 + 1) = (V + x * pw j) * 2 ^ u := by
 rw [val_put_succ, val_put_succ, pw_succ]
 rw [val_succ] at hV
 rw [Nat.add_mul V, ← hV, Nat.add_mul (F j)]
 have e : x * pw j * 2 ^ u = x * 2 ^ u * pw j := by rw [Nat.mul_right_comm]
 have e2 : x * 2 ^ u * pw j = (x * 2 ^ u % 4294967296 + 4294967296 * (x * 2 ^ u / 4294967296)) * pw j := by rw [Nat.mod_add_div]
 have e3 : x * 2 ^ u / 4294967296 * (4294967296 * pw j) = 4294967296 * (x * 2 ^ u / 4294967296) * pw j := by rw [Nat.mul_left_comm, Nat.mul_assoc]
 rw [e, e2, e3, Nat.add_mul]
 omega
theorem down_limb {h l D E : Nat} (hDE : D * E = 4294967296) (hl : l < 4294967296) (hD : 0 < D) : (h * 4294967296 + l) / D % 4294967296 = h % D * E + l / D ∧ h % D * E + l / D < 4294967296 := by
 have hE : 0 < E := Nat.pos_of_ne_zero (fun e => by rw [e] at hDE; simp at hDE)
 have e1 : h * 4294967296 + l = D * (h * E) + l := by rw [← hDE, Nat.mul_left_comm]
 have e2 : (h * 4294967296 + l) / D = h * E + l / D := by rw [e1, Nat.mul_add_div hD]
 have e3 : h * E = h / D * 4294967296 + h % D * E := by
  have := Nat.div_add_mod h D
  have e4 : h * E = (D * (h / D) + h % D) * E := by rw [this]
  rw [e4, Nat.add_mul, ← hDE]
  congr 1
  rw [Nat.mul_comm D (h / D), Nat.mul_assoc]
 have b1 : l / D < E := by rw [Nat.div_lt_iff_lt_mul hD, Nat.mul_comm, hDE]; exact hl
 have b2 : h % D < D := Nat.mod_lt _ hD
 have b3 : (h % D + 1) * E ≤ D * E := Nat.mul_le_mul_right _ b2
 rw [Nat.add_mul, hDE] at b3
 rw [e2, e3]
 generalize h % D * E = g at *
 generalize l / D = q at *
 omega
theorem down_word {h l u : Nat} (hu : u < 32) (hh : h < 4294967296) (hl : l < 4294967296) :
  bits BinOp.or IntKind.u64 (IntKind.u64.wrap (IntKind.u64.wrap (h : Int) * 4294967296)) (IntKind.u64.wrap (l : Int)) / 2 ^ u % 4294967296 = ((h % 2 ^ u * 2 ^ (32 - u) + l / 2 ^ u : Nat) : Int) := by
 rw [wrap_u64 h (by omega), wrap_u64 l (by omega)]
 have e1 : (h : Int) * 4294967296 = ((h * 4294967296 : Nat) : Int) := by omega
 rw [e1, wrap_u64 _ (by omega), ← e1, or_shift _ _ (by omega) (by omega) (by omega) (by omega)]
 have e2 : (h : Int) * 4294967296 + l = ((h * 4294967296 + l : Nat) : Int) := by omega
 have e3 : (2 : Int) ^ u = ((2 ^ u : Nat) : Int) := by rw [Int.natCast_pow]; rfl
 rw [e2, e3, ← Int.natCast_ediv]
 have e4 : (((h * 4294967296 + l) / 2 ^ u : Nat) : Int) % 4294967296 = (((h * 4294967296 + l) / 2 ^ u % 4294967296 : Nat) : Int) := by omega
 rw [e4, (down_limb (pow_parts hu) hl (Nat.pow_pos (by decide))).1]
theorem down_step {G V r D E P h l : Nat} (hDE : D * E = 4294967296) (h0 : D * G + r = V + l % D * P) : D * (G + (h % D * E + l / D) * P) + r = V + l * P + h % D * (4294967296 * P) := by
 have e1 : D * ((h % D * E + l / D) * P) = h % D * (4294967296 * P) + D * (l / D) * P := by
  rw [Nat.add_mul, Nat.mul_add, ← hDE]
  congr 1
  ·rw [Nat.mul_assoc, Nat.mul_left_comm, Nat.mul_assoc]
  ·rw [Nat.mul_assoc]
 have e2 : l * P = D * (l / D) * P + l % D * P := by rw [← Nat.add_mul, Nat.div_add_mod]
 rw [Nat.mul_add, e1]
 omega
theorem take_carry {c x y r : Nat} (hc : c < 4294967296) (hx : x < 4294967296) (hy : y < 4294967296) (hr : r < 4294967296) (b : Nat) (hb : b = 0 ∨ (b = 1 ∧ r < (c + x * y) % 4294967296)) :
  c + x * y < 18446744073709551616 ∧ (c + x * y) / 4294967296 + b < 4294967296 := by
 have h1 : x * y ≤ 4294967295 * 4294967295 := Nat.mul_le_mul (by omega) (by omega)
 omega
theorem take_step {S A B c c' s y x d b P : Nat} (h : S + x * B = A + c * P) (e : s + (c + x * y) % 4294967296 = d + 4294967296 * b) (hc : c' = (c + x * y) / 4294967296 + b) :
  S + s * P + x * (B + y * P) = A + d * P + c' * (4294967296 * P) := by
 have e0 : s + (c + x * y) = d + 4294967296 * c' := by omega
 have e' := congrArg (· * P) e0
 simp only [Nat.add_mul] at e'
 have h1 : c' * (4294967296 * P) = 4294967296 * c' * P := by rw [Nat.mul_left_comm, Nat.mul_assoc]
 have h2 : x * (B + y * P) = x * B + x * y * P := by rw [Nat.mul_add, Nat.mul_assoc]
 omega
end Go.Proofs.YtaepelipkkmeaaaGreat.Num
namespace Go.Proofs.YtaepelipkkmeaaaGreat
open Go.RowKit Num
theorem bne_toNat {c : Nat} (h : c ≤ 1) : ((c : Int) != 0).toNat = c := by
 have : c = 0 ∨ c = 1 := by omega
 rcases this with rfl | rfl <;> rfl
def TakePost (b N off m x : Nat) (F g : Nat → Nat) (w : World) (e : Ending) (w' : World) : Prop :=
 ∃ (B : Bool) (F' : Nat → Nat), e = .returned (.bool B) ∧ Blk w' b N F' ∧ Lim F' N ∧ (∀ j, (j < off ∨ off + (m + 1) ≤ j) → F' j = F j) ∧
  val (fun j => F' (off + j)) (m + 1) + x * val g m = val (fun j => F (off + j)) (m + 1) + B.toNat * pw (m + 1) ∧ w.grownBy w' (some b)
theorem takeTimes_any (b N off m cs : Nat) (bo : Option Addr) (mc x : Nat) (F g : Nat → Nat) (w : World) (hN : off + (m + 1) ≤ N) (hmb : m ≤ 1000000)
  (hF : Blk w b N F) (lF : Lim F N) (hg : Sl w bo m g) (hi : Off b bo m) (lg : Lim g m) (hx : x < 4294967296) :
  Calls Tryz.prog 184 #[.slice (some ⟨b, off, none⟩) (m + 1) cs, .slice bo m mc, .int .u32 x] w (TakePost b N off m x F g w) := by
 have hF' := Lib.hid hF; have lF' := Lib.hid lF; have hg' := Lib.hid hg; have hi' := Lib.hid hi; have lg' := Lib.hid lg
 clear hF lF hg hi lg
 go_enter Tryz.func184, Tryz.ntmps184
 go_wp2_with fail
 go_loopw [7, 16] (fun cv i wr => ∃ (k : Nat) (G : Nat → Nat) (c : Nat), k ≤ m ∧ i = .int .i64 k ∧ cv = .int .u64 c ∧ c < 4294967296 ∧ Blk wr b N G ∧ Lim G N ∧ (∀ j, (j < off ∨ off + k ≤ j) → G j = F j) ∧
   val (fun j => G (off + j)) k + x * val g k = val (fun j => F (off + j)) k + c * pw k ∧ w.grownBy wr (some b))
  (fun _ i _ => m - (intOf i).toNat)
 case atStart => exact ⟨0, F, 0, Nat.zero_le _, rfl, rfl, by omega, hF'.out, lF'.out, fun _ _ => rfl, rfl, grown_refl _ _⟩
 case round =>
  obtain ⟨k, G, c, hk, rfl, rfl, hc, hblk1, hlim1, hsame1, hval1, hgr1⟩ := hrel
  have hlim := Lib.hid hlim1; have hval := Lib.hid hval1; have hgr := Lib.hid hgr1; have hblk := Lib.hid hblk1; have hsame := Lib.hid hsame1; clear hlim1 hval1 hgr1 hblk1 hsame1
  by_cases hlt : k < m
  ·have hcell := hblk.out.cell (off + k) (by omega)
   have hfree := hblk.out.free (off + k)
   have bG := hlim.out (off + k) (by omega)
   have bg := lg'.out k hlt
   have hfit0 := (take_carry hc hx bg bG 0 (.inl rfl)).1
   have hsgr := hg'.out.grown hi'.out hgr.out
   rcases hsgr with h | ⟨b2, off2, rfl, hcg⟩
   ·omega
   have hcg' := hcg k hlt
   clear hcg
   have hne : b2 ≠ b := by
    rcases hi'.out with h | h
    ·omega
    ·exact h _ rfl
   obtain ⟨P, hP⟩ : ∃ P, P = x * g k := ⟨_, rfl⟩
   have hPi : (x : Int) * (g k : Int) = (P : Int) := by rw [hP]; exact (Int.natCast_mul x (g k)).symm
   rw [← hP] at hfit0
   have hP' := Lib.hid hP; clear hP
   have bl : (c + P) % 4294967296 < 4294967296 := Nat.mod_lt _ (by decide)
   go_wp2_with fail
   rw [show ((c : Int) + (P : Int)) % 4294967296 = (((c + P) % 4294967296 : Nat) : Int) by omega]
   refine (sub32_nat0 (G (off + k)) ((c + P) % 4294967296) wr bG bl).mono ?_
   rintro e w' ⟨rfl, rfl⟩
   obtain ⟨q1, q2, q3⟩ := sub_eq bG bl (Nat.zero_le 1)
   have hb : subC (G (off + k)) ((c + P) % 4294967296) 0 = 0 ∨ (subC (G (off + k)) ((c + P) % 4294967296) 0 = 1 ∧ G (off + k) < (c + x * g k) % 4294967296) := by
    rw [← hP'.out]; unfold subC; split
    ·exact .inl rfl
    ·exact .inr ⟨rfl, by omega⟩
   have hfit1 := (take_carry hc hx bg bG _ hb).2
   rw [← hP'.out] at hfit1
   have hb' := Lib.hid hb; clear hb
   have q1' := Lib.hid q1; clear q1
   go_wp2_with fail
   go_roundw
   case rel =>
    refine ⟨k + 1, put G (off + k) (subD (G (off + k)) ((c + P) % 4294967296) 0), (c + P) / 4294967296 + subC (G (off + k)) ((c + P) % 4294967296) 0, by omega, by go_num, int_eq (by omega), by omega,
     hblk.out.set (off + k) (by omega) _ _ rfl, put_lim hlim.out q2, ?_, ?_, grown_setCell hgr.out _ _⟩
    ·intro j hj
     rw [put_ne (by omega)]
     exact hsame.out j (by omega)
    ·have e1 : val (fun j => put G (off + k) (subD (G (off + k)) ((c + P) % 4294967296) 0) (off + j)) k = val (fun j => G (off + j)) k := val_congr fun j hj => put_ne (by omega)
     have e2 : G (off + k) = F (off + k) := hsame.out _ (by omega)
     have e3 := q1'.out
     rw [val_succ, val_succ, val_succ, pw_succ, e1, put_at, ← e2]
     refine take_step (b := subC (G (off + k)) ((c + P) % 4294967296) 0) hval.out ?_ ?_
     ·rw [← hP'.out]; omega
     ·rw [← hP'.out]
   case measure => simp [intOf]; omega
  ·obtain rfl : k = m := by omega
   have hcell := hblk.out.cell (off + k) (by omega)
   have hfree := hblk.out.free (off + k)
   have bG := hlim.out (off + k) (by omega)
   go_wp2_with fail
   refine (sub32_nat0 (G (off + k)) c wr bG hc).mono ?_
   rintro e w' ⟨rfl, rfl⟩
   obtain ⟨q1, q2, q3⟩ := sub_eq bG hc (Nat.zero_le 1)
   have q1' := Lib.hid q1; clear q1
   go_wp2_with fail
   go_ret
   refine ⟨_, put G (off + k) (subD (G (off + k)) c 0), rfl, hblk.out.set (off + k) (by omega) _ _ rfl, put_lim hlim.out q2, ?_, ?_, grown_setCell hgr.out _ _⟩
   ·intro j hj
    rw [put_ne (by omega)]
    exact hsame.out j (by omega)
   ·have e1 : val (fun j => put G (off + k) (subD (G (off + k)) c 0) (off + j)) k = val (fun j => G (off + j)) k := val_congr fun j hj => put_ne (by omega)
    have e2 : G (off + k) = F (off + k) := hsame.out _ (by omega)
    rw [bne_toNat q3, val_succ, val_succ, e1, put_at, ← e2, pw_succ]
    have e3 := congrArg (· * pw k) q1'.out
    simp only [Nat.add_mul] at e3
    have e4 := hval.out
    have e5 : subC (G (off + k)) c 0 * (4294967296 * pw k) = 4294967296 * subC (G (off + k)) c 0 * pw k := by rw [Nat.mul_left_comm, Nat.mul_assoc]
    omega
def BackPost (b N off m : Nat) (F g : Nat → Nat) (w : World) (e : Ending) (w' : World) : Prop :=
 ∃ (B : Bool) (F' : Nat → Nat), e = .returned (.bool B) ∧ Blk w' b N F' ∧ Lim F' N ∧ (∀ j, (j < off ∨ off + (m + 1) ≤ j) → F' j = F j) ∧
  val (fun j => F' (off + j)) (m + 1) + B.toNat * pw (m + 1) = val (fun j => F (off + j)) (m + 1) + val g m ∧ w.grownBy w' (some b)
theorem putBack_any (b N off m cs : Nat) (bo : Option Addr) (mc : Nat) (F g : Nat → Nat) (w : World) (hN : off + (m + 1) ≤ N) (hmb : m ≤ 1000000)
  (hF : Blk w b N F) (lF : Lim F N) (hg : Sl w bo m g) (hi : Off b bo m) (lg : Lim g m) :
  Calls Tryz.prog 185 #[.slice (some ⟨b, off, none⟩) (m + 1) cs, .slice bo m mc] w (BackPost b N off m F g w) := by
 have hF' := Lib.hid hF; have lF' := Lib.hid lF; have hg' := Lib.hid hg; have hi' := Lib.hid hi; have lg' := Lib.hid lg
 clear hF lF hg hi lg
 go_enter Tryz.func185, Tryz.ntmps185
 go_wp2_with fail
 go_loopw [5, 9] (fun cv i wr => ∃ (k : Nat) (G : Nat → Nat) (c : Nat), k ≤ m + 1 ∧ i = .int .i64 k ∧ cv = .int .u32 c ∧ c ≤ 1 ∧ Blk wr b N G ∧ Lim G N ∧ (∀ j, (j < off ∨ off + k ≤ j) → G j = F j) ∧
   val (fun j => G (off + j)) k + c * pw k = val (fun j => F (off + j)) k + val (at0 g m) k ∧ w.grownBy wr (some b))
  (fun _ i _ => m + 1 - (intOf i).toNat)
 case atStart => exact ⟨0, F, 0, Nat.zero_le _, rfl, rfl, by omega, hF'.out, lF'.out, fun _ _ => rfl, rfl, grown_refl _ _⟩
 case round =>
  obtain ⟨k, G, c, hk, rfl, rfl, hc, hblk1, hlim1, hsame1, hval1, hgr1⟩ := hrel
  have hlim := Lib.hid hlim1; have hval := Lib.hid hval1; have hgr := Lib.hid hgr1; have hblk := Lib.hid hblk1; have hsame := Lib.hid hsame1; clear hlim1 hval1 hgr1 hblk1 hsame1
  by_cases hlt : k < m + 1
  ·have hcell := hblk.out.cell (off + k) (by omega)
   have hfree := hblk.out.free (off + k)
   have bG := hlim.out (off + k) (by omega)
   have bg := at0_lt lg'.out k
   have hsgr := Lib.hid (hg'.out.grown hi'.out hgr.out)
   go_wp2_with fail
   go_region_with (first
    | (go_at_call 178; refine (limb_any bo m mc k g _ (by omega) (by exact hsgr.out)).mono ?_; rintro e w' ⟨rfl, rfl⟩; rw [Int.toNat_natCast])
    | (go_at_call 177; refine (add32_any (G (off + k)) (at0 g m k) c _ (by omega) (by omega) (by omega) (by omega) (by omega) (by omega)).mono ?_; rintro e w' ⟨rfl, rfl⟩))
   all_goals
    go_wp2_with fail
    go_roundw
    case rel =>
     refine ⟨k + 1, put G (off + k) ((G (off + k) + at0 g m k + c) % 4294967296), (G (off + k) + at0 g m k + c) / 4294967296, by omega, by go_num, int_eq (by omega), by omega, ?_,
      put_lim hlim.out (Nat.mod_lt _ (by decide)), ?_, ?_, ?_⟩
     ·first | exact (hblk.out.set (off + k) (by omega) _ _ (by omega)).drew | exact hblk.out.set (off + k) (by omega) _ _ (by omega)
     ·intro j hj
      rw [put_ne (by omega)]
      exact hsame.out j (by omega)
     ·have e1 : val (fun j => put G (off + k) ((G (off + k) + at0 g m k + c) % 4294967296) (off + j)) k = val (fun j => G (off + j)) k := val_congr fun j hj => put_ne (by omega)
      have e2 : G (off + k) = F (off + k) := hsame.out _ (by omega)
      rw [val_succ, val_succ, val_succ, pw_succ, e1, put_at, ← e2]
      exact sum_step hval.out (by omega)
     ·first | exact grown_drew (grown_setCell hgr.out _ _) | exact grown_setCell hgr.out _ _
    case measure => simp [intOf]; omega
  ·obtain rfl : k = m + 1 := by omega
   have e1 := hval.out
   rw [val_at0_ge (Nat.le_succ m)] at e1
   have e2 := Lib.hid e1
   clear e1
   go_wp2_with fail
   go_ret
   exact ⟨_, G, rfl, hblk.out, hlim.out, hsame.out, by rw [bne_toNat hc]; exact e2.out, hgr.out⟩
end Go.Proofs.YtaepelipkkmeaaaGreat
namespace Go.Proofs.YtaepelipkkmeaaaGreat.Num
theorem guess_ok {F g : Nat → Nat} {m : Nat} (lF : Lim F (m + 1 + 1)) (hlt : F (m + 1) < g m) :
  val F (m + 1 + 1) / val g (m + 1) ≤ (F (m + 1) * 4294967296 + F m) / g m := by
 have hg : 0 < g m := by omega
 have hp := pw_pos m
 rw [Nat.le_div_iff_mul_le hg]
 have h1 : val F (m + 1 + 1) / val g (m + 1) * val g (m + 1) ≤ val F (m + 1 + 1) := Nat.div_mul_le_self _ _
 have h2 : val F (m + 1 + 1) < (F (m + 1) * 4294967296 + F m + 1) * pw m := by
  have a := val_lt (lF.mono (show m ≤ m + 1 + 1 by omega))
  rw [val_succ, val_succ, pw_succ, Nat.add_mul, Nat.add_mul, Nat.mul_assoc]
  omega
 generalize val F (m + 1 + 1) / val g (m + 1) = q at *
 have h3 : q * (g m * pw m) ≤ q * val g (m + 1) := Nat.mul_le_mul_left _ (by rw [val_succ]; omega)
 have h4 : q * g m * pw m < (F (m + 1) * 4294967296 + F m + 1) * pw m := by
  rw [Nat.mul_assoc]; omega
 exact Nat.lt_succ_iff.1 ((Nat.mul_lt_mul_right hp).1 h4)
theorem guess_done {T q D R : Nat} (h : T + q * D = R) (hq : R / D ≤ q) (hD : 0 < D) : q = R / D ∧ T = R % D := by
 have a : q ≤ R / D := by rw [Nat.le_div_iff_mul_le hD]; omega
 have e : q = R / D := by omega
 refine ⟨e, ?_⟩
 have := Nat.div_add_mod' R D
 rw [← e] at this
 omega
theorem guess_great {T q D R P : Nat} (h : T + q * D = R + P) (hT : T < P) (hD : 0 < D) : R / D + 1 ≤ q := by
 rw [Nat.succ_le_iff, Nat.div_lt_iff_lt_mul hD]
 omega
theorem give_back {T T' q D R P B : Nat} (h : T + (q + 1) * D = R + P) (h' : T' + B * P = T + D) (hB : B ≤ 1) : T' + q * D = R + (1 - B) * P := by
 rw [Nat.add_mul] at h
 have : B = 0 ∨ B = 1 := by omega
 rcases this with rfl | rfl <;> omega
theorem high_noughts {F : Nat → Nat} {N j m D : Nat} (hD : D ≤ pw m) (h : val F N < D * pw j) : ∀ t, j + m ≤ t → t < N → F t = 0 := by
 intro t h1 h2
 apply Classical.byContradiction
 intro h0
 have a := val_ge h0
 have b : val F (t + 1) ≤ val F N := by
  obtain ⟨k, rfl⟩ := Nat.le.dest (show t + 1 ≤ N by omega)
  rw [val_add F (t + 1) k]
  omega
 have c : pw (j + m) ≤ pw t := pw_le h1
 have d : D * pw j ≤ pw m * pw j := Nat.mul_le_mul_right _ hD
 rw [pw_add, Nat.mul_comm] at c
 omega
theorem val_window {F : Nat → Nat} {N i k : Nat} (hk : i + k ≤ N) (hz : ∀ t, i + k ≤ t → t < N → F t = 0) : val F N = val F i + pw i * val (fun t => F (i + t)) k := by
 rw [← val_add]
 obtain ⟨d, rfl⟩ := Nat.le.dest hk
 rw [val_add F (i + k) d]
 have : val (fun t => F (i + k + t)) d = 0 := by
  rw [val_congr (g := fun _ => 0) (fun t ht => hz (i + k + t) (by omega) (by omega)), val_noughts]
 rw [this]; simp
theorem val_cons (h : Nat → Nat) (n : Nat) : val h (n + 1) = h 0 + 4294967296 * val (fun j => h (j + 1)) n := by
 have e := val_add h 1 n
 rw [Nat.add_comm 1 n] at e
 rw [e, val_congr (f := fun j => h (1 + j)) (g := fun j => h (j + 1)) (fun j _ => by rw [Nat.add_comm])]
 simp [val, pw]
theorem div_start {x y u k l t : Nat} (hx : x < pw k) (hk : k = l + 1 + t) (hy : 2147483648 * pw l ≤ y) (hu : u < 32) : x * 2 ^ u < y * pw (t + 1) := by
 have h1 : (2 : Nat) ^ u ≤ 2147483648 := by
  have : (2 : Nat) ^ u ≤ 2 ^ 31 := Nat.pow_le_pow_right (by decide) (by omega)
  exact this
 have h2 : x * 2 ^ u < pw k * 2 ^ u := (Nat.mul_lt_mul_right (Nat.pow_pos (by decide))).2 hx
 have h3 : pw k * 2 ^ u ≤ pw k * 2147483648 := Nat.mul_le_mul_left _ h1
 have h4 : 2147483648 * pw l * pw (t + 1) ≤ y * pw (t + 1) := Nat.mul_le_mul_right _ hy
 rw [Nat.mul_assoc, ← pw_add] at h4
 have h5 : l + (t + 1) = k := by omega
 rw [h5, Nat.mul_comm] at h4
 omega
theorem lead_big {g : Nat → Nat} {l P : Nat} (h : 2147483648 ≤ g l * P) : 2147483648 * pw l ≤ val g (l + 1) * P := by
 rw [val_succ, Nat.add_mul]
 have h1 : 2147483648 * pw l ≤ g l * P * pw l := Nat.mul_le_mul_right _ h
 have h2 : g l * pw l * P = g l * P * pw l := Nat.mul_right_comm _ _ _
 omega
theorem div_round {V V' L P Rw D Q A q : Nat} (hV : V = L + P * Rw) (hV' : V' = L + P * (Rw % D)) (hA : V + D * (P * 4294967296) * Q = A) (hq : q = Rw / D) (hL : L < P) (hD : 0 < D) :
  V' + D * P * (q + 4294967296 * Q) = A ∧ V' < D * P := by
 have e := Nat.div_add_mod Rw D
 have e1 : P * Rw = D * P * q + P * (Rw % D) := by
  rw [hq]
  have : P * Rw = P * (D * (Rw / D) + Rw % D) := by rw [e]
  rw [this, Nat.mul_add, ← Nat.mul_assoc, Nat.mul_comm P D]
 constructor
 ·rw [Nat.mul_add]
  have e2 : D * P * (4294967296 * Q) = D * (P * 4294967296) * Q := by rw [← Nat.mul_assoc, Nat.mul_assoc D P]
  omega
 ·have h1 : P * (Rw % D + 1) ≤ P * D := Nat.mul_le_mul_left _ (Nat.mod_lt _ hD)
  rw [Nat.mul_add, Nat.mul_comm P D] at h1
  omega
theorem div_window {V L P Rw D : Nat} (hV : V = L + P * Rw) (h : V < D * (P * 4294967296)) : Rw < 4294967296 * D := by
 have e : D * (P * 4294967296) = P * (4294967296 * D) := by rw [Nat.mul_left_comm, Nat.mul_comm D]
 rw [e, hV] at h
 have : P * Rw < P * (4294967296 * D) := by omega
 exact Nat.lt_of_mul_lt_mul_left this
theorem div_whole {V D Q A x y u : Nat} (hA : V + D * Q = A) (hx : A = x * 2 ^ u) (hy : D = y * 2 ^ u) (hV : V < D) : Q = x / y ∧ V / 2 ^ u = x % y := by
 have hp : 0 < 2 ^ u := Nat.pow_pos (by decide)
 have hy0 : 0 < y := Nat.pos_of_ne_zero (fun e => by rw [hy, e] at hV; omega)
 have e1 : D * Q = y * Q * 2 ^ u := by rw [hy, Nat.mul_right_comm]
 have hQ : y * Q * 2 ^ u ≤ x * 2 ^ u := by omega
 have hQ' : y * Q ≤ x := Nat.le_of_mul_le_mul_right hQ hp
 have e2 : V = (x - y * Q) * 2 ^ u := by rw [Nat.sub_mul]; omega
 have e3 : V / 2 ^ u = x - y * Q := by rw [e2, Nat.mul_div_cancel _ hp]
 have lt : x - y * Q < y := by
  rw [e2, hy] at hV
  exact (Nat.mul_lt_mul_right hp).1 hV
 have := Nat.div_mod_unique (b := y) (a := x) (c := x - y * Q) (d := Q) hy0
 obtain ⟨a, b⟩ := this.2 ⟨by omega, lt⟩
 exact ⟨a.symm, by rw [e3, b]⟩
theorem lead_len {g : Nat → Nat} {m P : Nat} (lg : Lim g m) (h : g m * P < 4294967296) (hPE : ∃ E, P * E = 4294967296) : val g (m + 1) * P < pw (m + 1) := by
 obtain ⟨E, hE⟩ := hPE
 have hP : 0 < P := Nat.pos_of_ne_zero (fun e => by rw [e] at hE; simp at hE)
 have h1 : g m < E := by
  rw [← hE, Nat.mul_comm P] at h
  exact (Nat.mul_lt_mul_right hP).1 h
 have h2 : val g (m + 1) < (g m + 1) * pw m := by
  have := val_lt lg
  rw [val_succ, Nat.add_mul]; omega
 have h3 : (g m + 1) * pw m ≤ E * pw m := Nat.mul_le_mul_right _ h1
 have h4 : val g (m + 1) * P < E * pw m * P := (Nat.mul_lt_mul_right hP).2 (by omega)
 have h5 : E * pw m * P = pw (m + 1) := by rw [pw_succ, ← hE, Nat.mul_right_comm, Nat.mul_comm E]
 omega
end Go.Proofs.YtaepelipkkmeaaaGreat.Num
namespace Go.Proofs.YtaepelipkkmeaaaGreat
open Go.RowKit Num
def LimbPost (b N off m R D : Nat) (F : Nat → Nat) (w : World) (e : Ending) (w' : World) : Prop :=
 ∃ (q : Nat) (F' : Nat → Nat), q = R / D ∧ e = .returned (.int .u32 q) ∧ Blk w' b N F' ∧ Lim F' N ∧ (∀ j, (j < off ∨ off + (m + 1) ≤ j) → F' j = F j) ∧
  val (fun j => F' (off + j)) (m + 1) = R % D ∧ w.grownBy w' (some b)
theorem divideLimb_any (b N off m cs : Nat) (bo : Option Addr) (mc : Nat) (F g : Nat → Nat) (w : World) (hN : off + (m + 1 + 1) ≤ N) (hmb : m + 1 ≤ 1000000)
  (hF : Blk w b N F) (lF : Lim F N) (hg : Sl w bo (m + 1) g) (hi : Off b bo (m + 1)) (lg : Lim g (m + 1)) (hR : val (fun j => F (off + j)) (m + 1 + 1) < 4294967296 * val g (m + 1)) :
  Calls Tryz.prog 174 #[.slice (some ⟨b, off, none⟩) (m + 1 + 1) cs, .slice bo (m + 1) mc] w (LimbPost b N off (m + 1) (val (fun j => F (off + j)) (m + 1 + 1)) (val g (m + 1)) F w) := by
 have hD : 0 < val g (m + 1) := Nat.pos_of_ne_zero (fun e => by rw [e] at hR; omega)
 have hq0 : val (fun j => F (off + j)) (m + 1 + 1) / val g (m + 1) < 4294967296 := (Nat.div_lt_iff_lt_mul hD).2 hR
 obtain ⟨R, hR0⟩ : ∃ R, R = val (fun j => F (off + j)) (m + 1 + 1) := ⟨_, rfl⟩
 obtain ⟨D, hD0⟩ : ∃ D, D = val g (m + 1) := ⟨_, rfl⟩
 have hgs := @guess_ok (fun j => F (off + j)) g m (fun j hj => lF (off + j) (by omega))
 have c1 := hF.cell (off + (m + 1)) (by omega)
 have c2 := hF.cell (off + m) (by omega)
 have b1 := lF (off + (m + 1)) (by omega)
 have b2 := lF (off + m) (by omega)
 have b3 := lg m (by omega)
 rcases hg with h | ⟨b', off', rfl, hcg⟩
 ·omega
 have c3 := hcg m (by omega)
 have hsl := Lib.hid (show Sl w (some ⟨b', off', none⟩) (m + 1) g from .inr ⟨b', off', rfl, hcg⟩)
 have hF' := Lib.hid hF; have lF' := Lib.hid lF; have hi' := Lib.hid hi; have lg' := Lib.hid lg; have hR' := Lib.hid hR0; have hD' := Lib.hid hD0
 rw [← hR0, ← hD0] at hq0 hR hgs
 rw [← hD0] at hD
 rw [← hR0, ← hD0]
 have hgs' := Lib.hid hgs
 have hq0' := Lib.hid hq0
 clear hcg hF lF hi lg hR0 hD0 hgs hR hq0
 by_cases hlt : F (off + (m + 1)) < g m
 focus
  obtain ⟨gq, hgq0⟩ : ∃ gq, gq = (F (off + (m + 1)) * 4294967296 + F (off + m)) / g m := ⟨_, rfl⟩
  have hgi : ((F (off + (m + 1)) : Int) * 4294967296 + (F (off + m) : Int)) / (g m : Int) = (gq : Int) := by rw [hgq0, Int.natCast_ediv, Int.natCast_add, Int.natCast_mul]; rfl
  have hgq : gq < 4294967296 := by
   rw [hgq0, Nat.div_lt_iff_lt_mul (by omega)]
   have : (F (off + (m + 1)) + 1) * 4294967296 ≤ g m * 4294967296 := Nat.mul_le_mul_right _ hlt
   omega
  have hgo : R / D ≤ gq := by rw [hgq0]; exact hgs'.out hlt
  have hgo' := Lib.hid hgo
  clear hgo hgq0
  go_enter Tryz.func174, Tryz.ntmps174
  go_wp2_with fail
  go_quiet (fail)
  go_wp2_with fail
  obtain ⟨w2, hw2⟩ : ∃ w2, w2 = w.drewN nq := ⟨_, rfl⟩
  have d1 : w2.cell? ⟨b, off + (m + 1), none⟩ = some (.int .u32 (F (off + (m + 1)))) := by rw [hw2]; exact c1
  have d2 : w2.cell? ⟨b, off + m, none⟩ = some (.int .u32 (F (off + m))) := by rw [hw2]; exact c2
  have d3 : w2.cell? ⟨b', off' + m, none⟩ = some (.int .u32 (g m)) := by rw [hw2]; exact c3
  rw [← hw2]
  have hw := Lib.hid hw2
  clear hw2 c1 c2 c3
  go_quiet ((go_at_call 183; exact Calls.quiet_of (div32_any _ _ _ _ (by omega) (by omega) (by omega) (by omega) (by omega) (by omega))))
  go_wp2_with fail
  clear d1 d2 d3 hgi
  obtain ⟨w3, hw3⟩ : ∃ w3, w3 = w2.drewN nq := ⟨_, rfl⟩
  rw [← hw3]
  have blk3 : Hid (Blk w3 b N F) := by rw [hw3, hw.out]; exact (hF'.out.drewN _).drewN _
  have sl3 : Hid (Sl w3 (some ⟨b', off', none⟩) (m + 1) g) := by rw [hw3, hw.out]; exact hsl.out.same (fun _ => rfl)
  have gr3 : Hid (w.grownBy w3 (some b)) := by rw [hw3, hw.out]; exact grown_drewN (grown_drewN (grown_refl _ _) _) _
  clear hw3 hw
 rotate_left
 focus
  obtain ⟨gq, hgq0⟩ : ∃ gq : Nat, gq = 4294967295 := ⟨_, rfl⟩
  have hgq : gq < 4294967296 := by omega
  have hgo' : Hid (R / D ≤ gq) := by have := hq0'.out; show R / D ≤ gq; omega
  have hgi : (4294967295 : Int) = (gq : Int) := by rw [hgq0]; rfl
  clear hgq0
  have hgi' := Lib.hid hgi
  clear hgi
  go_enter Tryz.func174, Tryz.ntmps174
  go_wp2_with fail
  go_quiet (fail)
  go_wp2_with fail
  clear c1 c2 c3
  obtain ⟨w3, hw3⟩ : ∃ w3, w3 = w.drewN nq := ⟨_, rfl⟩
  rw [← hw3, hgi'.out]
  have blk3 : Hid (Blk w3 b N F) := by rw [hw3]; exact hF'.out.drewN _
  have sl3 : Hid (Sl w3 (some ⟨b', off', none⟩) (m + 1) g) := by rw [hw3]; exact hsl.out.same (fun _ => rfl)
  have gr3 : Hid (w.grownBy w3 (some b)) := by rw [hw3]; exact grown_drewN (grown_refl _ _) _
  clear hw3 hgi'
 all_goals
  refine (takeTimes_any b N off (m + 1) cs (some ⟨b', off', none⟩) mc gq F g w3 hN (by omega) blk3.out lF'.out sl3.out hi'.out lg'.out hgq).mono ?_
  rintro e w4 ⟨B, G, rfl, hblk1, hlim1, hsame1, hval1, hgr1⟩
  have hlim := Lib.hid hlim1; have hval := Lib.hid hval1; have hgr := Lib.hid (grown_trans gr3.out hgr1); have hblk := Lib.hid hblk1; have hsame := Lib.hid hsame1
  clear hlim1 hval1 hgr1 hblk1 hsame1 gr3 sl3 blk3
  go_wp2_with fail
  go_loopw [6, 7] (fun gv bv wr => ∃ (q : Nat) (B : Bool) (G : Nat → Nat), gv = .int .u32 q ∧ bv = .bool B ∧ q < 4294967296 ∧ R / D ≤ q ∧ Blk wr b N G ∧ Lim G N ∧ (∀ j, (j < off ∨ off + (m + 1 + 1) ≤ j) → G j = F j) ∧
    val (fun j => G (off + j)) (m + 1 + 1) + q * D = R + B.toNat * pw (m + 1 + 1) ∧ w.grownBy wr (some b)) (fun gv _ _ => (intOf gv).toNat)
  case atStart =>
   refine ⟨gq, B, G, rfl, rfl, hgq, hgo'.out, hblk.out, hlim.out, hsame.out, ?_, hgr.out⟩
   rw [hD'.out, hR'.out]
   exact hval.out
  case round =>
   obtain ⟨q, C, H, rfl, rfl, hq, hqo1, hblk1, hlim1, hsame1, hval1, hgr1⟩ := hrel
   clear hblk hlim hsame hval hgr
   have hlim := Lib.hid hlim1; have hval := Lib.hid hval1; have hgr := Lib.hid hgr1; have hblk := Lib.hid hblk1; have hsame := Lib.hid hsame1; have hqo := Lib.hid hqo1
   clear hlim1 hval1 hgr1 hblk1 hsame1 hqo1
   have hT : val (fun j => H (off + j)) (m + 1 + 1) < pw (m + 1 + 1) := val_lt (fun j hj => hlim.out (off + j) (by omega))
   cases C
   ·have e1 := hval.out
    rw [Bool.toNat_false, Nat.zero_mul, Nat.add_zero] at e1
    have e2 := Lib.hid (guess_done e1 hqo.out hD)
    clear e1 hT
    go_wp2_with fail
    go_ret
    exact ⟨q, H, e2.out.1, rfl, hblk.out, hlim.out, hsame.out, e2.out.2, hgr.out⟩
   ·have e1 := hval.out
    rw [Bool.toNat_true, Nat.one_mul] at e1
    have e2 := Lib.hid (guess_great e1 hT hD)
    have q1 : 1 ≤ q := Nat.le_trans (Nat.succ_le_succ (Nat.zero_le _)) e2.out
    have e3 := Lib.hid e1
    clear e1 hT
    have slr := hsl.out.grown hi'.out hgr.out
    go_wp2_with fail
    refine (putBack_any b N off (m + 1) cs (some ⟨b', off', none⟩) mc H g wr hN hmb hblk.out hlim.out slr hi'.out lg'.out).mono ?_
    rintro e w5 ⟨B2, G2, rfl, hblk2, hlim2, hsame2, hval2, hgr2⟩
    have hlim' := Lib.hid hlim2; have hval' := Lib.hid hval2; have hgr' := Lib.hid (grown_trans hgr.out hgr2); have hblk' := Lib.hid hblk2; have hsame' := Lib.hid hsame2
    clear hlim2 hval2 hgr2 hblk2 hsame2
    go_wp2_with fail
    go_roundw
    case rel =>
     refine ⟨q - 1, !B2, G2, int_eq (by omega), rfl, by omega, Nat.le_sub_of_add_le e2.out, hblk'.out, hlim'.out, fun j hj => (hsame'.out j hj).trans (hsame.out j hj), ?_, hgr'.out⟩
     have e4 := hval'.out
     rw [← hD'.out] at e4
     have e5 := e3.out
     have eq1 : q = q - 1 + 1 := by omega
     rw [eq1] at e5
     have e6 := give_back e5 e4 (by cases B2 <;> decide)
     rw [e6]
     cases B2 <;> rfl
    case measure => simp [intOf]; omega
end Go.Proofs.YtaepelipkkmeaaaGreat
namespace Go.Proofs.YtaepelipkkmeaaaGreat
open Go.RowKit Num
def UpPost (n v : Nat) (w : World) (e : Ending) (w' : World) : Prop :=
 ∃ B F, e = .returned (.slice (some ⟨B, 0, none⟩) (n + 1) (n + 1)) ∧ w.heap.size ≤ B ∧ B < w'.heap.size ∧ Blk w' B (n + 1) F ∧ Lim F (n + 1) ∧ val F (n + 1) = v ∧ Below w.heap.size w w'
theorem moveUp_any (ao : Option Addr) (n nc u : Nat) (f : Nat → Nat) (w : World) (hu : u < 32) (A : Arg w ao n nc f) :
  Calls Tryz.prog 173 #[.slice ao n nc, .int .i64 u] w (UpPost n (val f n * 2 ^ u) w) := by
 obtain ⟨hn, hnc, hnb, hf, lf⟩ := A
 obtain ⟨i32, hi, hz0, hz1, hz2⟩ := info_parts info32
 go_enter Tryz.func173, Tryz.ntmps173
 go_wp2_with (at_make; refine wpList_make_full _ rfl (.tmp 11) (.tmp 11) 22 rfl w.heap.size 104 i32 (.int .u32 0) 1 Tryz.underlying22 hi hz0 hz1 .i64 .i64 _ _ (n + 1) rfl rfl (by omega) (by omega) (by rw [hz2]; omega) (by unfold maxLen; omega) (Nat.le_refl _) ?_)
 intro w1 hown hgrow
 have hblk0 := Lib.hid (Blk.of_made hown)
 have hgr0 := Lib.hid (grown_any hgrow (some w.heap.size))
 clear hown hgrow
 have hsf := Lib.hid hf; have hlf := Lib.hid lf
 clear hf lf
 go_wp2_with fail
 go_loopw [15] (fun i wr => ∃ (j : Nat) (F : Nat → Nat), j ≤ n ∧ i = .int .i64 j ∧ Blk wr w.heap.size (n + 1) F ∧ Lim F (n + 1) ∧ (∀ t, j < t → F t = 0) ∧ F j < 2 ^ u ∧ val F (j + 1) = val f j * 2 ^ u ∧ w.grownBy wr (some w.heap.size))
  (fun i _ => n - (intOf i).toNat)
 case atStart =>
  exact ⟨0, fun _ => 0, Nat.zero_le _, rfl, hblk0.out, fun j _ => (by decide : 0 < 4294967296), fun _ _ => rfl, Nat.pow_pos (by decide), by rw [val_succ, val_zero, val_zero]; simp, hgr0.out⟩
 case round =>
  obtain ⟨j, F, hj, rfl, hblk1, hlim1, hz1, hlow1, hval1, hgr1⟩ := hrel
  have hlim := Lib.hid hlim1; have hval := Lib.hid hval1; have hgr := Lib.hid hgr1; have hblk := Lib.hid hblk1; have hz := Lib.hid hz1; have hlow := Lib.hid hlow1; clear hlim1 hval1 hgr1 hblk1 hz1 hlow1
  have hsfr := hsf.out.grown hsf.out.off hgr.out
  by_cases hlt : j < n
  ·rcases hsfr with h | ⟨b, off, rfl, hcf⟩
   ·omega
   have hcf' := hcf j hlt
   have bf := hlf.out j hlt
   clear hcf
   have hcell := hblk.out.cell j (by omega)
   have hcell' := hblk.out.cell (j + 1) (by omega)
   have hfree := hblk.out.free j
   have hfree' := hblk.out.free (j + 1)
   go_wp2_with fail
   go_roundw
   case rel =>
    obtain ⟨b1, b2, b3⟩ := up_lo_lt hu bf hlow.out
    rw [up_lo hu bf hlow.out, up_hi hu bf]
    refine ⟨j + 1, put (put F j (F j + f j * 2 ^ u % 4294967296)) (j + 1) (f j * 2 ^ u / 4294967296), by omega, by go_num, (hblk.out.set j (by omega) _ _ rfl).set (j + 1) (by omega) _ _ rfl,
     put_lim (put_lim hlim.out b1) b3, ?_, ?_, ?_, grown_setCell (grown_setCell hgr.out _ _) _ _⟩
    ·intro t ht
     rw [put_ne (by omega), put_ne (by omega)]
     exact hz.out t (by omega)
    ·rw [put_at]; exact b2
    ·rw [val_succ f]; exact up_round hval.out
   case measure => simp [intOf]; omega
  ·obtain rfl : j = n := by omega
   have hB : w.heap.size < wr.heap.size := hblk.out.lt (by omega)
   go_wp2_with fail
   go_ret
   exact ⟨w.heap.size, F, rfl, Nat.le_refl _, hB, hblk.out, hlim.out, hval.out, grown_below hgr.out (Nat.le_refl _) (Nat.le_refl _)⟩
def DownPost (b n v : Nat) (w : World) (e : Ending) (w' : World) : Prop :=
 ∃ F, e = .returned (.tuple #[]) ∧ Blk w' b n F ∧ Lim F n ∧ val F n = v ∧ w.grownBy w' (some b)
theorem moveDown_any (b n u : Nat) (F : Nat → Nat) (w : World) (hn : n ≤ 1000001) (hu : u < 32) (hF : Blk w b n F) (lF : Lim F n) :
  Calls Tryz.prog 175 #[.slice (some ⟨b, 0, none⟩) n n, .int .i64 u] w (DownPost b n (val F n / 2 ^ u) w) := by
 have hF' := Lib.hid hF; have lF' := Lib.hid lF
 clear hF lF
 go_enter Tryz.func175, Tryz.ntmps175
 go_wp2_with fail
 go_loopw [9] (fun i wr => ∃ (j : Nat) (G : Nat → Nat), j ≤ n ∧ i = .int .i64 j ∧ Blk wr b n G ∧ Lim G n ∧ (∀ t, j ≤ t → G t = F t) ∧ (2 ^ u * val G j + at0 F n 0 % 2 ^ u = val F j + at0 F n j % 2 ^ u * pw j) ∧ w.grownBy wr (some b))
  (fun i _ => n - (intOf i).toNat)
 case atStart =>
  refine ⟨0, F, Nat.zero_le _, rfl, hF'.out, lF'.out, fun _ _ => rfl, ?_, grown_refl _ _⟩
  simp [pw, val]
 case round =>
  obtain ⟨j, G, hj, rfl, hblk1, hlim1, hz1, hval1, hgr1⟩ := hrel
  have hlim := Lib.hid hlim1; have hval := Lib.hid hval1; have hgr := Lib.hid hgr1; have hblk := Lib.hid hblk1; have hz := Lib.hid hz1; clear hlim1 hval1 hgr1 hblk1 hz1
  by_cases hlt : j < n
  ·have hcell := hblk.out.cell j hlt
   have hfree := hblk.out.free j
   go_wp2_with fail
   refine (limb_any (some ⟨b, 0, none⟩) n n (j + 1) G wr (by omega) (Sl.of_blk0 hblk.out n (Nat.le_refl _))).mono ?_
   rintro e w' ⟨rfl, rfl⟩
   rw [show ((j : Int) + 1).toNat = j + 1 by omega]
   go_wp2_with fail
   have bh := at0_lt hlim.out (j + 1)
   have bl := hlim.out j hlt
   have eh : at0 G n (j + 1) = at0 F n (j + 1) := by
    unfold at0; split
    ·exact hz.out _ (by omega)
    ·rfl
   have el : G j = F j := hz.out j (Nat.le_refl _)
   go_roundw
   case rel =>
    rw [down_word hu bh bl]
    refine ⟨j + 1, put G j (at0 G n (j + 1) % 2 ^ u * 2 ^ (32 - u) + G j / 2 ^ u), by omega, by go_num, hblk.out.set j hlt _ _ rfl,
     put_lim hlim.out (down_limb (pow_parts hu) bl (Nat.pow_pos (by decide))).2, ?_, ?_, grown_setCell hgr.out _ _⟩
    ·intro t ht
     rw [put_ne (by omega)]
     exact hz.out t (by omega)
    ·have e := hval.out
     rw [at0_in hlt] at e
     rw [val_put_succ, val_succ, pw_succ, eh, el]
     exact down_step (pow_parts hu) e
   case measure => simp [intOf]; omega
  ·obtain rfl : j = n := by omega
   go_wp2_with fail
   go_end0
   refine ⟨G, rfl, hblk.out, hlim.out, ?_, hgr.out⟩
   have e := hval.out
   rw [at0_out (Nat.le_refl _), Nat.zero_mod, Nat.zero_mul, Nat.add_zero] at e
   rw [← e, Nat.mul_add_div (Nat.pow_pos (by decide)), Nat.div_eq_of_lt (Nat.mod_lt _ (Nat.pow_pos (by decide))), Nat.add_zero]
end Go.Proofs.YtaepelipkkmeaaaGreat
namespace Go.Proofs.YtaepelipkkmeaaaGreat
open Go.RowKit Num
def DivPost (x y : Nat) (w : World) (e : Ending) (w' : World) : Prop :=
 Below w.heap.size w w' ∧ ((y = 0 ∧ e = .returned (.tuple #[.slice none 0 0, .slice none 0 0, .bool false])) ∨
  (y ≠ 0 ∧ ∃ ao n nc f bo m mc g, e = .returned (.tuple #[.slice ao n nc, .slice bo m mc, .bool true]) ∧ n ≤ nc ∧ nc ≤ 9223372036854775807 ∧ m ≤ mc ∧ mc ≤ 9223372036854775807 ∧
   Sl w' ao n f ∧ Canon (x / y) n f ∧ Sl w' bo m g ∧ Canon (x % y) m g))
set_option maxRecDepth 100000 in
theorem divMod_any (ao bo : Option Addr) (n nc m mc : Nat) (f g : Nat → Nat) (w : World) (A : Arg w ao n nc f) (B : Arg w bo m mc g) :
  Calls Tryz.prog 153 #[.slice ao n nc, .slice bo m mc] w (DivPost (val f n) (val g m) w) := by
 obtain ⟨hn, hnc, hnb, hf, lf⟩ := A
 obtain ⟨hm, hmc, hmb, hg, lg⟩ := B
 obtain ⟨i32, hi, hz0, hz1, hz2⟩ := info_parts info32
 go_enter Tryz.func153, Tryz.ntmps153
 go_wp2_with fail
 refine (trim_any ao n nc f w hn (by omega) hf).mono ?_
 rintro e w' ⟨k, hk, rfl, htf0, hvf0, rfl⟩
 have htf := Lib.hid htf0; have hvf := Lib.hid hvf0; clear htf0 hvf0
 go_wp2_with fail
 refine (trim_any bo m mc g w hm (by omega) hg).mono ?_
 rintro e w' ⟨l, hl, rfl, htg0, hvg0, rfl⟩
 have htg := Lib.hid htg0; have hvg := Lib.hid hvg0; clear htg0 hvg0
 have hsf := Lib.hid (hf.mono hk); have hsg := Lib.hid (hg.mono hl)
 have hlf := Lib.hid (lf.mono hk); have hlg := Lib.hid (lg.mono hl)
 clear hf hg lf lg
 by_cases hl0 : l = 0
 ·subst hl0
  go_wp2_with fail
  go_ret3
  exact ⟨Below.refl _ _, .inl ⟨by rw [← hvg.out]; rfl, rfl⟩⟩
 have hgz : val g m ≠ 0 := by
  rw [← hvg.out]
  exact fun e => hl0 ((Canon.ne_zero ⟨hlg.out, htg.out, rfl⟩).2 e)
 by_cases hkl : k < l
 ·have hxy : val f n < val g m := by rw [← hvf.out, ← hvg.out]; exact val_lt_of_len hlf.out htg.out hkl
  have hxy' := Lib.hid hxy; have hgz' := Lib.hid hgz
  clear hxy hgz
  go_wp2_with fail
  refine (norm_any ao k nc f w ⟨by omega, by omega, by omega, hsf.out, hlf.out⟩).mono ?_
  rintro e w1 ⟨co, q, qc, h, rfl, hq, hqc, hsh, hch, hbel⟩
  have hsh' := Lib.hid hsh; have hch' := Lib.hid hch; have hbel' := Lib.hid hbel
  clear hsh hch hbel
  go_wp2_with fail
  go_ret3
  refine ⟨hbel'.out, .inr ⟨hgz'.out, none, 0, 0, fun _ => 0, co, q, qc, h, rfl, Nat.le_refl _, by omega, hq, hqc, .inl rfl, ?_, hsh'.out, ?_⟩⟩
  ·rw [Nat.div_eq_of_lt hxy'.out]; exact canon_zero _
  ·rw [Nat.mod_eq_of_lt hxy'.out, ← hvf.out]; exact hch'.out
 obtain ⟨l, rfl⟩ : ∃ l', l = l' + 1 := ⟨l - 1, by omega⟩
 have hgz' := Lib.hid hgz
 clear hgz
 have htop : g l ≠ 0 := by
  rcases htg.out with h | h
  ·omega
  ·exact h
 have blg := hlg.out l (by omega)
 rcases hsg.out with h | ⟨b', off', hbo, hcg⟩
 ·omega
 subst hbo
 have c1 := hcg l (by omega)
 clear hcg
 obtain ⟨u1, u2, u3⟩ := lead_fits (g l) htop blg
 obtain ⟨u, hu⟩ : ∃ u, u = lead (g l) := ⟨_, rfl⟩
 rw [← hu] at u1 u2 u3
 have u2' := Lib.hid u2; have u3' := Lib.hid u3
 clear u2 u3 htop
 have hu' := Lib.hid hu
 clear hu
 go_wp2_with fail
 refine (lead_any (g l) w blg).mono ?_
 rintro e w' ⟨rfl, rfl⟩
 rw [← hu'.out]
 go_wp2_with fail
 refine (moveUp_any ao k nc u f w u1 ⟨by omega, by omega, by omega, hsf.out, hlf.out⟩).mono ?_
 rintro e w1 ⟨B1, F1, rfl, hB1, hB1', hblk1, hlim1, hval1, hbel1⟩
 have hb1 := Lib.hid hblk1; have hl1 := Lib.hid hlim1; have hv1 := Lib.hid hval1; have hw1 := Lib.hid hbel1
 clear hblk1 hlim1 hval1 hbel1 c1
 go_wp2_with fail
 refine (moveUp_any (some ⟨b', off', none⟩) (l + 1) mc u g w1 u1 ⟨by omega, by omega, by omega, hsg.out.below hw1.out, hlg.out⟩).mono ?_
 rintro e w2 ⟨B2, F2, rfl, hB2, hB2', hblk2, hlim2, hval2, hbel2⟩
 have hb2 := Lib.hid hblk2; have hl2 := Lib.hid hlim2; have hv2 := Lib.hid hval2; have hw2 := Lib.hid (hw1.out.trans (hbel2.mono hw1.out.size)); have hb1' := Lib.hid (hb1.out.below hbel2 hB1')
 have hsz := hbel2.size
 clear hblk2 hlim2 hval2 hbel2 hb1
 go_wp2_with fail
 refine (trim_any (some ⟨B2, 0, none⟩) (l + 1 + 1) (l + 1 + 1) F2 w2 (Nat.le_refl _) (by omega) (Sl.of_blk0 hb2.out _ (Nat.le_refl _))).mono ?_
 rintro e w' ⟨d, hd, rfl, htd0, hvd0, rfl⟩
 have htd := Lib.hid htd0; have hvd := Lib.hid hvd0; clear htd0 hvd0
 have hDv : val F2 d = val g (l + 1) * 2 ^ u := hvd.out.trans hv2.out
 have hcanon : Canon (val g (l + 1) * 2 ^ u) d F2 := ⟨hl2.out.mono hd, htd.out, hDv⟩
 have hd1 : d ≤ l + 1 := hcanon.len_le (lead_len (hlg.out.mono (Nat.le_succ l)) u2'.out ⟨_, pow_parts u1⟩)
 have hd2 : l + 1 ≤ d := len_le_of_val_le (hl2.out.mono hd) htg.out (by rw [hDv]; exact Nat.le_mul_of_pos_right _ (Nat.pow_pos (by decide)))
 obtain rfl : d = l + 1 := by omega
 obtain ⟨t, ht⟩ : ∃ t, k = l + 1 + t := ⟨k - (l + 1), by omega⟩
 subst ht
 have hD1 : val F2 (l + 1) ≤ pw (l + 1) := Nat.le_of_lt (val_lt (hl2.out.mono hd))
 have hst := div_start (x := val f (l + 1 + t)) (y := val F2 (l + 1)) (u := u) (t := t) (val_lt hlf.out) rfl (by rw [hDv]; exact lead_big u3'.out) u1
 have hcan := Lib.hid hcanon; have hDv' := Lib.hid hDv; have hD1' := Lib.hid hD1; have hst' := Lib.hid hst
 have hDpos : 0 < val F2 (l + 1) := Nat.pos_of_ne_zero (fun e => by have := hst'.out; rw [e] at this; omega)
 have hDpos' := Lib.hid hDpos
 clear hDv hcanon hd1 hd2 hD1 hst hDpos
 go_wp2_with (at_make; refine wpList_make_full _ rfl (.tmp 45) (.tmp 45) 22 rfl w2.heap.size 104 i32 (.int .u32 0) 1 Tryz.underlying22 hi hz0 hz1 .i64 .i64 _ _ (t + 1) rfl rfl (by omega) (by omega) (by rw [hz2]; omega) (by unfold maxLen; omega) (Nat.le_refl _) ?_)
 intro w3 hown hgrow
 have hbl3 : Below w2.heap.size w2 w3 := (Below.refl _ w2).grown hgrow (Nat.le_refl _) (fun _ h => by cases h)
 have hb3 := Lib.hid (Blk.of_made hown)
 have hB3 : w2.heap.size < w3.heap.size := hb3.out.lt (by omega)
 have hb13 := Lib.hid (hb1'.out.below hbl3 (by omega))
 have hb23 := Lib.hid ((hb2.out.mono (Nat.le_succ (l + 1))).below hbl3 hB2')
 have hw3 := Lib.hid (hw2.out.trans (hbl3.mono hw2.out.size))
 obtain ⟨B3, hB30⟩ : ∃ B3, B3 = w2.heap.size := ⟨_, rfl⟩
 rw [← hB30] at hb3 hB3 hB2' ⊢
 have hsz1 := hw1.out.size
 have hne12 : B2 ≠ B1 := by omega
 have hne13 : B1 ≠ B3 := by omega
 have hne23 : B2 ≠ B3 := by omega
 have hle1 : w.heap.size ≤ B1 := hB1
 have hle3 : w.heap.size ≤ B3 := by have := hw2.out.size; omega
 clear hown hgrow hbl3 hB30
 obtain ⟨D, hD⟩ : ∃ D, D = val F2 (l + 1) := ⟨_, rfl⟩
 obtain ⟨A, hA⟩ : ∃ A, A = val f (l + 1 + t) * 2 ^ u := ⟨_, rfl⟩
 obtain ⟨NN, hNN⟩ : ∃ NN, NN = l + 1 + t + 1 := ⟨_, rfl⟩
 have hD' := Lib.hid hD; have hA' := Lib.hid hA; have hNN' := Lib.hid hNN
 have hN1 : NN ≤ 1000001 := by omega
 have hN2 : l + t + 2 ≤ NN := by omega
 have hN3 : NN ≤ l + t + 2 := by omega
 clear hD hA hNN
 go_wp2_with fail
 go_loopw [11] (fun i wr => ∃ (j : Nat) (F Q : Nat → Nat), j ≤ t + 1 ∧ i = .int .i64 ((j : Int) - 1) ∧ Blk wr B1 NN F ∧ Lim F NN ∧ Blk wr B3 (t + 1) Q ∧ Lim Q (t + 1) ∧ Blk wr B2 (l + 1) F2 ∧
   val F NN + D * pw j * val (fun s => Q (j + s)) (t + 1 - j) = A ∧ val F NN < D * pw j ∧ Below w.heap.size w wr) (fun i _ => (intOf i + 1).toNat)
 case atStart =>
  refine ⟨t + 1, F1, fun _ => 0, Nat.le_refl _, int_eq (by omega), by rw [hNN'.out]; exact hb13.out, by rw [hNN'.out]; exact hl1.out, hb3.out, fun j _ => (by decide : 0 < 4294967296), hb23.out, ?_, ?_, hw3.out⟩
  ·rw [Nat.sub_self, val_zero, Nat.mul_zero, Nat.add_zero, hNN'.out, hv1.out, hA'.out]
  ·rw [hNN'.out, hv1.out, hD'.out]; exact hst'.out
 case round =>
  obtain ⟨j, F, Q, hj, rfl, hbF1, hlF1, hbQ1, hlQ1, hbD1, hval1, hlt1, hbel1⟩ := hrel
  have hbF := Lib.hid hbF1; have hlF := Lib.hid hlF1; have hbQ := Lib.hid hbQ1; have hlQ := Lib.hid hlQ1; have hbD := Lib.hid hbD1; have hval := Lib.hid hval1; have hlt := Lib.hid hlt1; have hbel := Lib.hid hbel1
  clear hbF1 hlF1 hbQ1 hlQ1 hbD1 hval1 hlt1 hbel1
  have z1 : B1 < wr.heap.size := hbF.out.lt (by omega)
  have z2 : B2 < wr.heap.size := hbD.out.lt (by omega)
  have z3 : B3 < wr.heap.size := hbQ.out.lt (by omega)
  have hDD : D ≤ pw (l + 1) := by rw [hD'.out]; exact hD1'.out
  have hDP : 0 < D := by rw [hD'.out]; exact hDpos'.out
  have hDD' := Lib.hid hDD; clear hDD
  by_cases h0 : j = 0
  ·subst h0
   have hfin := div_whole (V := val F NN) (D := D) (Q := val (fun s => Q (0 + s)) (t + 1 - 0)) (A := A) (x := val f (l + 1 + t)) (y := val g (l + 1)) (u := u) (by have := hval.out; rwa [show pw 0 = 1 from rfl, Nat.mul_one] at this) hA'.out
    (by rw [hD'.out]; exact hDv'.out) (by have := hlt.out; rwa [show pw 0 = 1 from rfl, Nat.mul_one] at this)
   rw [hvf.out, hvg.out] at hfin
   have hQe : val (fun s => Q (0 + s)) (t + 1 - 0) = val Q (t + 1) := val_congr (fun x _ => by rw [Nat.zero_add])
   rw [hQe] at hfin
   have hfin' := Lib.hid hfin
   clear hfin hQe
   rw [← hNN'.out]
   go_wp2_with fail
   refine (moveDown_any B1 NN u F wr (by omega) u1 hbF.out hlF.out).mono ?_
   rintro e w5 ⟨F3, rfl, hb5, hl5, hv5, hg5⟩
   have hb5' := Lib.hid hb5; have hl5' := Lib.hid hl5; have hv5' := Lib.hid hv5
   have hqq := Lib.hid (hbQ.out.kept z3 hg5 (Ne.symm hne13))
   have hbel5 := Lib.hid (hbel.out.grown hg5 (by have := hbel.out.size; omega) (fun k hk => by cases hk; exact hle1))
   clear hb5 hl5 hv5 hg5
   go_wp2_with fail
   refine (trim_any (some ⟨B3, 0, none⟩) (t + 1) (t + 1) Q w5 (Nat.le_refl _) (by omega) (Sl.of_blk0 hqq.out _ (Nat.le_refl _))).mono ?_
   rintro e w' ⟨q1, hq1, rfl, htq0, hvq0, rfl⟩
   have htq := Lib.hid htq0; have hvq := Lib.hid hvq0; clear htq0 hvq0
   go_wp2_with fail
   refine (trim_any (some ⟨B1, 0, none⟩) NN NN F3 w5 (Nat.le_refl _) (by omega) (Sl.of_blk0 hb5'.out _ (Nat.le_refl _))).mono ?_
   rintro e w' ⟨r1, hr1, rfl, htr0, hvr0, rfl⟩
   have htr := Lib.hid htr0; have hvr := Lib.hid hvr0; clear htr0 hvr0
   go_wp2_with fail
   go_ret3
   refine ⟨hbel5.out, .inr ⟨hgz'.out, some ⟨B3, 0, none⟩, q1, t + 1, Q, some ⟨B1, 0, none⟩, r1, NN, F3, rfl, hq1, by omega, hr1, by omega, Sl.of_blk0 hqq.out _ hq1, ?_, Sl.of_blk0 hb5'.out _ hr1, ?_⟩⟩
   ·exact ⟨hlQ.out.mono hq1, htq.out, hvq.out.trans hfin'.out.1⟩
   ·exact ⟨hl5'.out.mono hr1, htr.out, (hvr.out.trans hv5'.out).trans hfin'.out.2⟩
  ·obtain ⟨s, rfl⟩ : ∃ s, j = s + 1 := ⟨j - 1, by omega⟩
   have hz := high_noughts hDD'.out hlt.out
   have hwin := val_window (F := F) (N := NN) (i := s) (k := l + 1 + 1) (by omega) (fun x h1 h2 => hz x (by omega) h2)
   have hRw := div_window (L := val F s) (P := pw s) (Rw := val (fun x => F (s + x)) (l + 1 + 1)) (D := D) hwin (by have := hlt.out; rw [pw_succ, Nat.mul_comm 4294967296] at this; exact this)
   have hz' := Lib.hid hz; have hwin' := Lib.hid hwin; have hRw' := Lib.hid hRw
   clear hz hwin hRw h0
   go_wp2_with fail
   rw [show s + (l + 1) + 1 - s = l + 1 + 1 by omega]
   refine (divideLimb_any B1 NN s l (l + 1 + t + 1 - s) (some ⟨B2, 0, none⟩) (l + 1 + 1) F F2 wr (by omega) (by omega) hbF.out hlF.out (Sl.of_blk0 hbD.out _ (Nat.le_refl _)) (.inr (fun a ha => by cases ha; exact hne12)) (hl2.out.mono (Nat.le_succ _)) (by rw [← hD'.out]; exact hRw'.out)).mono ?_
   rw [← hD'.out]
   rintro e w5 ⟨q, F', hq, rfl, hb5, hl5, hs5, hv5, hg5⟩
   have hq' := Lib.hid hq; have hb5' := Lib.hid hb5; have hl5' := Lib.hid hl5; have hs5' := Lib.hid hs5; have hv5' := Lib.hid hv5; have hg5' := Lib.hid hg5
   have hqq := Lib.hid (hbQ.out.kept z3 hg5 (Ne.symm hne13))
   have hdd := Lib.hid (hbD.out.kept z2 hg5 hne12)
   have hq4 : q < 4294967296 := by rw [hq]; exact (Nat.div_lt_iff_lt_mul hDP).2 hRw'.out
   have z35 : B3 < w5.heap.size := Nat.lt_of_lt_of_le z3 hg5.size
   have z15 : B1 < w5.heap.size := Nat.lt_of_lt_of_le z1 hg5.size
   have z25 : B2 < w5.heap.size := Nat.lt_of_lt_of_le z2 hg5.size
   clear hq hb5 hl5 hs5 hv5 hg5
   have hcell := hqq.out.cell s (by omega)
   have hfree := hqq.out.free s
   go_wp2_with fail
   go_roundw
   case rel =>
    have hg6 : w5.grownBy (w5.setCell ⟨B3, s, none⟩ (.int .u32 q)) (some B3) := grown_setCell (grown_refl _ _) _ _
    have hwin2 : val F' NN = val F' s + pw s * val (fun x => F' (s + x)) (l + 1 + 1) :=
     val_window (by omega) (fun x h1 h2 => (hs5'.out x (by omega)).trans (hz'.out x (by omega) h2))
    have hlow : val F' s = val F s := val_congr (fun x hx => hs5'.out x (by omega))
    rw [hlow, hv5'.out] at hwin2
    have hv := hval.out
    rw [pw_succ, Nat.mul_comm 4294967296] at hv
    obtain ⟨r1, r2⟩ := div_round hwin'.out hwin2 hv hq'.out (val_lt (hlF.out.mono (by omega))) hDP
    refine ⟨s, F', put Q s q, by omega, int_eq (by omega), hb5'.out.kept z15 hg6 hne13, hl5'.out, hqq.out.set s (by omega) _ _ rfl, put_lim hlQ.out hq4, hdd.out.kept z25 hg6 hne23, ?_, r2, ?_⟩
    ·rw [← r1]
     have e : t + 1 - s = t + 1 - (s + 1) + 1 := by omega
     rw [e, val_cons, Nat.add_zero, put_at]
     have e3 : val (fun x => put Q s q (s + (x + 1))) (t + 1 - (s + 1)) = val (fun x => Q (s + 1 + x)) (t + 1 - (s + 1)) := val_congr (fun x _ => by rw [put_ne (by omega), show s + (x + 1) = s + 1 + x by omega])
     rw [e3]
    ·exact (hbel.out.grown hg5'.out (by have := hbel.out.size; omega) (fun k hk => by cases hk; exact hle1)).grown hg6 (by have := hbel.out.size; have := hg5'.out.size; omega) (fun k hk => by cases hk; exact hle3)
   case measure => simp [intOf]
end Go.Proofs.YtaepelipkkmeaaaGreat
namespace Go.Proofs.YtaepelipkkmeaaaGreat
open Go.RowKit Num
theorem val_two {f : Nat → Nat} {n : Nat} (h : n ≤ 2) : at0 f n 1 * 4294967296 + at0 f n 0 = val f n := by
 rw [← val_at0_ge h]
 simp [val, pw]
 omega
theorem word_any (ao : Option Addr) (n nc : Nat) (f : Nat → Nat) (w : World) (h2 : n ≤ 2) (hs : Sl w ao n f) (lf : Lim f n) :
  Calls Tryz.prog 164 #[.slice ao n nc] w fun e w' => e = .returned (.int .u64 (val f n)) ∧ w = w' := by
 have b0 := at0_lt lf 0
 have b1 := at0_lt lf 1
 have hor := or_shift (at0 f n 1) (at0 f n 0) (by omega) (by omega) (by omega) (by omega)
 have hv := Lib.hid (val_two (f := f) h2)
 go_enter Tryz.func164, Tryz.ntmps164
 go_wp2_with fail
 refine (limb_any ao n nc 1 f w (by omega) hs).mono ?_
 rintro e w' ⟨rfl, rfl⟩
 rw [show (1 : Int).toNat = 1 from rfl]
 go_wp2_with fail
 refine (limb_any ao n nc 0 f w (by omega) hs).mono ?_
 rintro e w' ⟨rfl, rfl⟩
 rw [show (0 : Int).toNat = 0 from rfl]
 go_wp2_with fail
 go_ret
 exact ⟨ret_num (by rw [← hv.out]; omega), rfl⟩
theorem gcdOfWords_any (x y : Nat) (w : World) (hx : x < 18446744073709551616) (hy : y < 18446744073709551616) :
  Calls Tryz.prog 163 #[.int .u64 x, .int .u64 y] w fun e w' => e = .returned (.int .u64 (Nat.gcd x y)) ∧ ∃ q, w' = w.drewN q := by
 obtain ⟨G, hG0⟩ : ∃ G, G = Nat.gcd x y := ⟨_, rfl⟩
 rw [← hG0]
 have hG := Lib.hid hG0
 clear hG0
 go_enter Tryz.func163, Tryz.ntmps163
 go_wp2_with fail
 go_loopw [0, 1] (fun a b wr => ∃ u v : Nat, a = .int .u64 u ∧ b = .int .u64 v ∧ u < 18446744073709551616 ∧ v < 18446744073709551616 ∧ G = Nat.gcd u v ∧ ∃ q, wr = w.drewN q) (fun _ b _ => (intOf b).toNat)
 case atStart => exact ⟨x, y, rfl, rfl, hx, hy, hG.out, 0, rfl⟩
 case round =>
  obtain ⟨u, v, rfl, rfl, hu, hv, hg0, hq0⟩ := hrel
  have hg := Lib.hid hg0; have hq := Lib.hid hq0
  clear hg0 hq0
  by_cases h0 : v = 0
  ·subst h0
   go_wp2_with fail
   go_ret
   exact ⟨ret_num (by rw [hg.out, Nat.gcd_zero_right]), hq.out⟩
  ·have hb : ((v : Int) != 0) = true := by rw [bne_iff_ne]; omega
   have hm : (u : Int) % (v : Int) = ((u % v : Nat) : Int) := by omega
   have hm' := Lib.hid hm
   have hm0 : 0 ≤ (u : Int) % (v : Int) := by omega
   have hlt : u % v < v := Nat.mod_lt _ (by omega)
   clear hm
   go_wp2_with fail
   go_quiet (fail)
   go_wp2_with fail
   go_roundw
   case rel =>
    obtain ⟨q, hq'⟩ := hq.out
    exact ⟨v, u % v, rfl, int_eq hm'.out, hv, by omega, by rw [hg.out, Nat.gcd_comm, Nat.gcd_rec, Nat.gcd_comm], drewN_trans hq' _⟩
   case measure => simp [intOf]; omega
theorem fromWord_any (x : Nat) (w : World) (hx : x < 18446744073709551616) :
  Calls Tryz.prog 162 #[.int .u64 x] w (NumPost x w) := by
 go_enter Tryz.func162, Tryz.ntmps162
 go_wp2_with fail
 obtain ⟨w1, hw1⟩ : ∃ w1, w1 = w.alloc (.cells #[.int .u32 ((x : Int) % 4294967296), .int .u32 ((x : Int) / 4294967296)] 104) := ⟨_, rfl⟩
 rw [← hw1]
 have hblk : Blk w1 w.heap.size 2 (put (put (fun _ => 0) 0 (x % 4294967296)) 1 (x / 4294967296)) := by
  refine ⟨fun j hj => ?_, fun j => ?_⟩
  ·rw [hw1, World.cell?_alloc_new]
   have : j = 0 ∨ j = 1 := by omega
   rcases this with rfl | rfl
   ·rw [put_ne (by decide), put_at]; simp
   ·rw [put_at]; simp
  ·rw [hw1, World.frozen?_alloc_new]
 have hbel : Below w.heap.size w w1 := by rw [hw1]; exact (Below.refl _ _).alloc (Nat.le_refl _) _
 have hsl := Lib.hid (Sl.of_blk0 hblk 2 (Nat.le_refl _)); have hbel' := Lib.hid hbel
 clear hblk hbel hw1
 refine (trim_any (some ⟨w.heap.size, 0, none⟩) 2 2 _ w1 (Nat.le_refl _) (by omega) hsl.out).mono ?_
 rintro e w' ⟨k, hk, rfl, htf0, hvf0, rfl⟩
 have htf := Lib.hid htf0; have hvf := Lib.hid hvf0; clear htf0 hvf0
 go_wp2_with fail
 go_ret
 refine ⟨_, k, 2, _, rfl, hk, by omega, hsl.out.mono hk, ⟨?_, htf.out, ?_⟩, hbel'.out⟩
 ·refine Lim.mono (n := 2) (fun j hj => ?_) hk
  have : j = 0 ∨ j = 1 := by omega
  rcases this with rfl | rfl
  ·rw [put_ne (by decide), put_at]; exact Nat.mod_lt _ (by decide)
  ·rw [put_at]; omega
 ·rw [hvf.out, val_succ, val_succ, val_zero, put_at, put_ne (by decide), put_at]
  simp [pw]
  omega
theorem Num.Canon.arg {w : World} {ao : Option Addr} {n nc v : Nat} {f : Nat → Nat} (h : Canon v n f) (hs : Sl w ao n f) (hn : n ≤ nc) (hc : nc ≤ 9223372036854775807) (hv : v < pw 1000000) : Arg w ao n nc f :=
 ⟨hn, hc, h.len_le hv, hs, h.lim⟩
theorem gcd_any (ao bo : Option Addr) (n nc m mc : Nat) (f g : Nat → Nat) (w : World) (A : Arg w ao n nc f) (B : Arg w bo m mc g) :
  Calls Tryz.prog 124 #[.slice ao n nc, .slice bo m mc] w (NumPost (Nat.gcd (val f n) (val g m)) w) := by
 have vx : val f n < pw 1000000 := Nat.lt_of_lt_of_le (val_lt A.lim) (pw_le A.few)
 have vy : val g m < pw 1000000 := Nat.lt_of_lt_of_le (val_lt B.lim) (pw_le B.few)
 obtain ⟨X, hX⟩ : ∃ X, X = val f n := ⟨_, rfl⟩
 obtain ⟨Y, hY⟩ : ∃ Y, Y = val g m := ⟨_, rfl⟩
 obtain ⟨G, hG0⟩ : ∃ G, G = Nat.gcd X Y := ⟨_, rfl⟩
 obtain ⟨T, hT⟩ : ∃ T, T = pw 1000000 := ⟨_, rfl⟩
 rw [← hX, ← hY, ← hG0]
 rw [← hT] at vx vy
 rw [← hX] at vx
 rw [← hY] at vy
 have hX' := Lib.hid hX; have hY' := Lib.hid hY; have hG' := Lib.hid hG0; have hT' := Lib.hid hT; have vx' := Lib.hid vx; have vy' := Lib.hid vy
 have hA := Lib.hid A; have hB := Lib.hid B
 clear hX hY hG0 hT vx vy A B
 go_enter Tryz.func124, Tryz.ntmps124
 go_wp2_with fail
 refine (norm_any ao n nc f w hA.out).mono ?_
 rintro e w1 ⟨co, q, qc, h, rfl, hq, hqc, hsh, hch, hbel⟩
 have hsh' := Lib.hid hsh; have hch' := Lib.hid hch; have hbel' := Lib.hid hbel
 clear hsh hch hbel
 go_wp2_with fail
 refine (norm_any bo m mc g w1 (hB.out.below hbel'.out)).mono ?_
 rintro e w2 ⟨do_, r, rc, i, rfl, hr, hrc, hsi, hci, hbel⟩
 have hsi' := Lib.hid hsi; have hci' := Lib.hid hci; have hbel2 := Lib.hid (hbel'.out.trans (hbel.mono hbel'.out.size)); have hsh2 := Lib.hid (hsh'.out.below hbel)
 clear hsi hci hbel hsh'
 go_wp2_with fail
 go_loopg [0, 1] Y (fun y a b wr => ∃ (x : Nat) (ao : Option Addr) (n nc : Nat) (f : Nat → Nat) (bo : Option Addr) (m mc : Nat) (g : Nat → Nat), a = .slice ao n nc ∧ b = .slice bo m mc ∧ n ≤ nc ∧ nc ≤ 9223372036854775807 ∧ m ≤ mc ∧ mc ≤ 9223372036854775807 ∧
   Sl wr ao n f ∧ Canon x n f ∧ Sl wr bo m g ∧ Canon y m g ∧ x < T ∧ y < T ∧ G = Nat.gcd x y ∧ Below w.heap.size w wr)
 case atStart =>
  exact ⟨X, co, q, qc, h, do_, r, rc, i, rfl, rfl, hq, hqc, hr, hrc, hsh2.out, by rw [hX'.out]; exact hch'.out, hsi'.out, by rw [hY'.out]; exact hci'.out, vx'.out, vy'.out, hG'.out, hbel2.out⟩
 case round =>
  obtain ⟨x, ao, n, nc, f, bo, m, mc, g, rfl, rfl, hn, hnc, hm, hmc, hsf0, hcf0, hsg0, hcg0, hx0, hy0, hg0, hbel0⟩ := hrel
  have hsf := Lib.hid hsf0; have hcf := Lib.hid hcf0; have hsg := Lib.hid hsg0; have hcg := Lib.hid hcg0; have hx := Lib.hid hx0; have hy := Lib.hid hy0; have hg := Lib.hid hg0; have hbel := Lib.hid hbel0
  clear hsf0 hcf0 hsg0 hcg0 hx0 hy0 hg0 hbel0
  by_cases hm0 : m = 0
  ·subst hm0
   go_wp2_with fail
   go_ret
   refine ⟨ao, n, nc, f, rfl, hn, hnc, hsf.out, ?_, hbel.out⟩
   have e : gk = 0 := hcg.out.ne_zero.1 rfl
   have e2 := hg.out
   rw [e, Nat.gcd_zero_right] at e2
   rw [e2]; exact hcf.out
  ·have hy1 : 0 < gk := Nat.pos_of_ne_zero (fun e => hm0 (hcg.out.ne_zero.2 e))
   by_cases hsmall : n ≤ 2 ∧ m ≤ 2
   ·obtain ⟨s1, s2⟩ := hsmall
    have wx : x < 18446744073709551616 := Nat.lt_of_lt_of_le hcf.out.lt_pw (pw_le s1)
    have wy : gk < 18446744073709551616 := Nat.lt_of_lt_of_le hcg.out.lt_pw (pw_le s2)
    go_wp2_with fail
    refine (word_any ao n nc f wr s1 hsf.out hcf.out.lim).mono ?_
    rw [hcf.out.val]
    rintro e w' ⟨rfl, rfl⟩
    go_wp2_with fail
    refine (word_any bo m mc g wr s2 hsg.out hcg.out.lim).mono ?_
    rw [hcg.out.val]
    rintro e w' ⟨rfl, rfl⟩
    go_wp2_with fail
    refine (gcdOfWords_any x gk wr wx wy).mono ?_
    rw [← hg.out]
    have wg : G < 18446744073709551616 := by rw [hg.out]; exact Nat.lt_of_le_of_lt (Nat.gcd_le_right _ hy1) wy
    rintro e w' ⟨rfl, p, rfl⟩
    go_wp2_with fail
    refine (fromWord_any G (wr.drewN p) wg).mono ?_
    rintro e w3 ⟨ao3, n3, nc3, f3, rfl, h1, h2, h3, h4, h5⟩
    have h3' := Lib.hid h3; have h4' := Lib.hid h4
    have hbel3 := Lib.hid ((below_drewN hbel.out p).trans (h5.mono hbel.out.size))
    clear h3 h4 h5
    go_wp2_with fail
    go_ret
    exact ⟨ao3, n3, nc3, f3, rfl, h1, h2, h3'.out, h4'.out, hbel3.out⟩
   ·by_cases s1 : n ≤ 2
    ·have s2 : ¬ m ≤ 2 := fun h => hsmall ⟨s1, h⟩
     clear hsmall
     go_wp2_with fail
     refine (divMod_any ao bo n nc m mc f g wr (hcf.out.arg hsf.out hn hnc (by rw [← hT'.out]; exact hx.out)) (hcg.out.arg hsg.out hm hmc (by rw [← hT'.out]; exact hy.out))).mono ?_
     rw [hcf.out.val, hcg.out.val]
     rintro e w3 ⟨hb3, h3⟩
     rcases h3 with ⟨h3, _⟩ | ⟨_, ao3, n3, nc3, f3, bo3, m3, mc3, g3, rfl, _, _, hm3, hmc3, _, _, hsg3, hcg3⟩
     ·exact absurd h3 (Nat.pos_iff_ne_zero.1 hy1)
     have hb3' := Lib.hid hb3; have hsg3' := Lib.hid hsg3; have hcg3' := Lib.hid hcg3; have hsg4 := Lib.hid (hsg.out.below hb3)
     have hbel3 := Lib.hid (hbel.out.trans (hb3.mono hbel.out.size))
     clear hb3 hsg3 hcg3
     go_wp2_with fail
     go_roundg (x % gk)
     case measure => exact Nat.mod_lt _ hy1
     case rel =>
      exact ⟨gk, bo, m, mc, g, bo3, m3, mc3, g3, rfl, rfl, hm, hmc, hm3, hmc3, hsg4.out, hcg.out, hsg3'.out, hcg3'.out, hy.out, Nat.lt_trans (Nat.mod_lt _ hy1) hy.out, by rw [hg.out, Nat.gcd_comm, Nat.gcd_rec, Nat.gcd_comm], hbel3.out⟩
    ·clear hsmall
     go_wp2_with fail
     refine (divMod_any ao bo n nc m mc f g wr (hcf.out.arg hsf.out hn hnc (by rw [← hT'.out]; exact hx.out)) (hcg.out.arg hsg.out hm hmc (by rw [← hT'.out]; exact hy.out))).mono ?_
     rw [hcf.out.val, hcg.out.val]
     rintro e w3 ⟨hb3, h3⟩
     rcases h3 with ⟨h3, _⟩ | ⟨_, ao3, n3, nc3, f3, bo3, m3, mc3, g3, rfl, _, _, hm3, hmc3, _, _, hsg3, hcg3⟩
     ·exact absurd h3 (Nat.pos_iff_ne_zero.1 hy1)
     have hb3' := Lib.hid hb3; have hsg3' := Lib.hid hsg3; have hcg3' := Lib.hid hcg3; have hsg4 := Lib.hid (hsg.out.below hb3)
     have hbel3 := Lib.hid (hbel.out.trans (hb3.mono hbel.out.size))
     clear hb3 hsg3 hcg3
     go_wp2_with fail
     go_roundg (x % gk)
     case measure => exact Nat.mod_lt _ hy1
     case rel =>
      exact ⟨gk, bo, m, mc, g, bo3, m3, mc3, g3, rfl, rfl, hm, hmc, hm3, hmc3, hsg4.out, hcg.out, hsg3'.out, hcg3'.out, hy.out, Nat.lt_trans (Nat.mod_lt _ hy1) hy.out, by rw [hg.out, Nat.gcd_comm, Nat.gcd_rec, Nat.gcd_comm], hbel3.out⟩
end Go.Proofs.YtaepelipkkmeaaaGreat
namespace Go.Proofs.YtaepelipkkmeaaaGreat
open Go.RowKit
theorem wpList_append_empty {P : Program} {w : World} {ops : Array Oper} {rest : List Oper} {o : Oper} {a : Act} {Q : Exit → Act → World → Prop} (hgd : o.guard = none) (s x : Operand) (t : TypeId)
  (ho : o.op = .call { callee := .builtin .append, args := #[s, x], argTypes := #[t, t] }) (e : TypeId) (i : TypeInfo) (ht : P.underlying t = some (.slice e)) (hi : P.info? e = some i)
  (ao : Option Addr) (c : Nat) (hs : a.eval s = .slice none 0 0) (hx : a.eval x = .slice ao 0 c)
  (h : wpList P ops Q rest (a.put o.dst (.slice none 0 0)) w) : wpList P ops Q (o :: rest) a w := by
 refine wpList_plain hgd fun K hK => ?_
 have hrun : (Builtin.append_ #[t, t] o.type #[.slice none 0 0, .slice ao 0 c]).run P w = .ok (.slice none 0 0) w := by
  cases ao <;> simp [Builtin.append_, run_underlying ht, sizeOf, typeInfo, hi, Builtin.lenOf, Builtin.firstCells, loadCells, loadCellsFrom]
 unfold Oper.wp
 simp [execOp, ho, resolve, invoke, builtin, hs, hx, hrun, Result.andThen]
 exact hK _ _ h
end Go.Proofs.YtaepelipkkmeaaaGreat
