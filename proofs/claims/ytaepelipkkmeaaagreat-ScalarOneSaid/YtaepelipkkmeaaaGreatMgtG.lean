/-
  Arrays in memory, and in which blocks they lie.
  What Cover makes, and what holds while it makes it.
  scrimref08.Cover: an array with all labels raised, or with one label in their place.
  scrimref08.Erase, Match.
  The three lists of characters, and a number's class, as the document's answer has them (scrimref06).
  scrimref08.Cell, Right: which cells and arrays are right.
  scrimref08.Pack, Unpack: an array as a cell, a cell as an array.
  scrimref10.Conform, Pick.
  scrimref10.inner.
  A cell's number: the fields that a number's top and bottom have, and back.
  What the words of numbers tell: a right number, or an error and none.
  scrimref10.Ones, Twos.
  Blocks without limbs (Shut): where a number that a call handed back does not lie; append keeps its row such a one.
  An array that is made cell by cell, some of whose numbers come from calls (Mk); what One tells, plain.
  scrimref10.One.
  Two, plain: its error and what it makes, by how many boxes are within one another.
  scrimref10.two, where Two tells what is made of what is in both.
  An api.Array that came in, as the walks speak of it.
  Arrays, plain: what is without labels, what has got more; what is packed and unpacked.
  What One and Two make is right; arrays that are alike become such as are (plain).
  scrimref10.Two, where two tells what is made of two cells; both, of any arrays.
  What the functions of package scalar are to tell (as hypotheses of the walks of the statements); the document's One and Two, of any word.
  What the functions of package array are to tell (as hypotheses of the walks of the statements).
  scrimlaw08.awake.
  scrimlaw10.ScalarPicks, walked.
  scrimref04.Small of a number whose bottom has not one limb; scrimlaw10.small.
  scrimlaw10.Light: it ends with a bool.
  label.Join; array.alone, Simple, Size, Depth, Total.
  slices.Clone over limbs, ints, cells, arrays; array.numAnew.
  Arrays and cells told anew, with other labels: what is made (mapT, mapC), rows whose elements are put anew one behind the other (Mapped), the three functions of labels; array.cellsBy.
  array.cellsBy: cells told anew, one behind the other.
-/
import Derived.Test.YtaepelipkkmeaaaGreatMgtA
import Derived.Test.YtaepelipkkmeaaaGreatMgtB
import Derived.Test.YtaepelipkkmeaaaGreatMgtC
import Derived.Test.YtaepelipkkmeaaaGreatMgtD
import Derived.Test.YtaepelipkkmeaaaGreatMgtE
import Derived.Test.YtaepelipkkmeaaaGreatMgtF
import Derived.Laws.OwnMore
import Derived.Deep.LoopGhost
import Derived.WalkKit
import Derived.Lib.BitFns
import Derived.Laws.CopyOwn
import Derived.Deep.RegionHeld3
import Derived.Laws.AppendOwn
import Derived.Deep.CutRange
import Derived.Deep.RegionWith
import Derived.BigQuiet
import Derived.Deep.DrawnRows
import Derived.Lib.Small
import Derived.Lib.Walk
import Derived.Deep.QuietTactic
import Derived.WalkSpells
import Derived.WalkLawsBesides
import Derived.Lib.Hide
import Derived.Deep.AppendLies
import Derived.OpenShut
import Derived.SizedLaws
import Derived.Lib.SliceRun
set_option maxRecDepth 20000
set_option maxHeartbeats 16000000
namespace Go.Proofs.YtaepelipkkmeaaaGreat
open Go.RowKit Num
def SlQ (w : World) (Q : Nat → Prop) (ao : Option Addr) (n : Nat) (f : Nat → Nat) : Prop :=
 n = 0 ∨ ∃ b off, ao = some ⟨b, off, none⟩ ∧ Q b ∧ ∀ j, j < n → w.cell? ⟨b, off + j, none⟩ = some (.int .u32 (f j))
def SlZQ (w : World) (Q : Nat → Prop) (ao : Option Addr) (n : Nat) (f : Nat → Int) : Prop :=
 n = 0 ∨ ∃ b off, ao = some ⟨b, off, none⟩ ∧ Q b ∧ ∀ j, j < n → w.cell? ⟨b, off + j, none⟩ = some (.int .i64 (f j))
def NumQ (w : World) (Q : Nat → Prop) (N : NumF) (c0 c1 c2 : Value) : Prop :=
 c0 = .bool N.neg ∧ (∃ ao ac, c1 = .slice ao N.an ac ∧ IsN N.an ac ∧ SlQ w Q ao N.an N.fa ∧ Lim N.fa N.an) ∧ (∃ bo bc, c2 = .slice bo N.am bc ∧ IsN N.am bc ∧ SlQ w Q bo N.am N.ga ∧ Lim N.ga N.am)
def RowQ (w : World) (Q : Nat → Prop) (ao : Option Addr) (k : Nat) (R : Nat → Value → Value → Value → Prop) : Prop :=
 k = 0 ∨ ∃ b o, ao = some ⟨b, o, none⟩ ∧ Q b ∧ ∀ j, j < k → ∃ d0 d1 d2, w.cell? ⟨b, o + j * 3, none⟩ = some d0 ∧ w.cell? ⟨b, o + j * 3 + 1, none⟩ = some d1 ∧ w.cell? ⟨b, o + j * 3 + 2, none⟩ = some d2 ∧ R j d0 d1 d2
def CellQ (w : World) (Q : Nat → Prop) (L : Nat) (K : Int) (N : NumF) (C : Int) (k : Nat) (R : Nat → Value → Value → Value → Prop) (e : Nat → Value) : Prop :=
 e 0 = .int .u64 L ∧ IsL L ∧ e 1 = .int .i64 K ∧ IsZ K ∧ NumQ w Q N (e 2) (e 3) (e 4) ∧ e 5 = .int .i64 C ∧ IsZ C ∧ ∃ ao kc, e 6 = .slice ao k kc ∧ IsN k kc ∧ RowQ w Q ao k R
def ArrQ (w : World) (Q : Nat → Prop) : Tree → Value → Value → Value → Prop
 | .leaf, _, _, _ => False
 | .arr S n sh m L K C N k sub, c0, c1, c2 =>
  c0 = .int .u64 S ∧ IsL S ∧ (∃ ao nc, c1 = .slice ao n nc ∧ IsN n nc ∧ SlZQ w Q ao n sh ∧ ∀ j, j < n → IsZ (sh j)) ∧
  ∃ co mc, c2 = .slice co m mc ∧ IsN m mc ∧ (m = 0 ∨ ∃ b o, co = some ⟨b, o, none⟩ ∧ Q b ∧ ∀ i, i < m → ∃ e : Nat → Value, (∀ t, t < 7 → w.cell? ⟨b, o + i * 7 + t, none⟩ = some (e t)) ∧
   CellQ w Q (L i) (K i) (N i) (C i) (k i) (fun j d0 d1 d2 => ArrQ w Q (sub i j) d0 d1 d2) e)
theorem cell_kept {w w' : World} {b o : Nat} {v : Value} (h : w.cell? ⟨b, o, none⟩ = some v) (e : w'.heap[b]? = w.heap[b]?) : w'.cell? ⟨b, o, none⟩ = some v := (World.cell?_of_block (a := ⟨b, o, none⟩) e).trans h
theorem SlQ.keep {w w' : World} {Q Q' : Nat → Prop} {ao : Option Addr} {n : Nat} {f : Nat → Nat} (h : SlQ w Q ao n f) (hk : ∀ b, Q b → b < w.heap.size → w'.heap[b]? = w.heap[b]?) (hq : ∀ b, Q b → b < w.heap.size → Q' b) : SlQ w' Q' ao n f := by
 by_cases h0 : n = 0
 ·exact .inl h0
 rcases h with h | ⟨b, o, rfl, h1, h2⟩
 ·exact .inl h
 ·have hb := World.block_lt_of_cell? w _ (h2 0 (by omega))
  exact .inr ⟨b, o, rfl, hq b h1 hb, fun j hj => cell_kept (h2 j hj) (hk b h1 hb)⟩
theorem SlZQ.keep {w w' : World} {Q Q' : Nat → Prop} {ao : Option Addr} {n : Nat} {f : Nat → Int} (h : SlZQ w Q ao n f) (hk : ∀ b, Q b → b < w.heap.size → w'.heap[b]? = w.heap[b]?) (hq : ∀ b, Q b → b < w.heap.size → Q' b) : SlZQ w' Q' ao n f := by
 by_cases h0 : n = 0
 ·exact .inl h0
 rcases h with h | ⟨b, o, rfl, h1, h2⟩
 ·exact .inl h
 ·have hb := World.block_lt_of_cell? w _ (h2 0 (by omega))
  exact .inr ⟨b, o, rfl, hq b h1 hb, fun j hj => cell_kept (h2 j hj) (hk b h1 hb)⟩
theorem NumQ.keep {w w' : World} {Q Q' : Nat → Prop} {N : NumF} {c0 c1 c2 : Value} (h : NumQ w Q N c0 c1 c2) (hk : ∀ b, Q b → b < w.heap.size → w'.heap[b]? = w.heap[b]?) (hq : ∀ b, Q b → b < w.heap.size → Q' b) : NumQ w' Q' N c0 c1 c2 := by
 obtain ⟨h0, ⟨ao, ac, h1, h2, h3, h4⟩, ⟨bo, bc, k1, k2, k3, k4⟩⟩ := h
 exact ⟨h0, ⟨ao, ac, h1, h2, h3.keep hk hq, h4⟩, ⟨bo, bc, k1, k2, k3.keep hk hq, k4⟩⟩
theorem RowQ.keep {w w' : World} {Q Q' : Nat → Prop} {ao : Option Addr} {k : Nat} {R R' : Nat → Value → Value → Value → Prop} (h : RowQ w Q ao k R) (hk : ∀ b, Q b → b < w.heap.size → w'.heap[b]? = w.heap[b]?) (hq : ∀ b, Q b → b < w.heap.size → Q' b) (hR : ∀ j d0 d1 d2, R j d0 d1 d2 → R' j d0 d1 d2) : RowQ w' Q' ao k R' := by
 by_cases h0 : k = 0
 ·exact .inl h0
 rcases h with h | ⟨b, o, rfl, h1, h2⟩
 ·exact .inl h
 ·have hb : b < w.heap.size := by
   obtain ⟨d0, d1, d2, e0, _⟩ := h2 0 (by omega)
   exact World.block_lt_of_cell? w _ e0
  refine .inr ⟨b, o, rfl, hq b h1 hb, fun j hj => ?_⟩
  obtain ⟨d0, d1, d2, e0, e1, e2, e3⟩ := h2 j hj
  exact ⟨d0, d1, d2, cell_kept e0 (hk b h1 hb), cell_kept e1 (hk b h1 hb), cell_kept e2 (hk b h1 hb), hR j d0 d1 d2 e3⟩
theorem CellQ.keep {w w' : World} {Q Q' : Nat → Prop} {L : Nat} {K : Int} {N : NumF} {C : Int} {k : Nat} {R R' : Nat → Value → Value → Value → Prop} {e : Nat → Value} (h : CellQ w Q L K N C k R e) (hk : ∀ b, Q b → b < w.heap.size → w'.heap[b]? = w.heap[b]?) (hq : ∀ b, Q b → b < w.heap.size → Q' b) (hR : ∀ j d0 d1 d2, R j d0 d1 d2 → R' j d0 d1 d2) : CellQ w' Q' L K N C k R' e := by
 obtain ⟨h0, h1, h2, h3, h4, h5, h6, ao, kc, h7, h8, h9⟩ := h
 exact ⟨h0, h1, h2, h3, h4.keep hk hq, h5, h6, ao, kc, h7, h8, h9.keep hk hq hR⟩
theorem ArrQ.leaf {w : World} {Q : Nat → Prop} {c0 c1 c2 : Value} (h : ArrQ w Q .leaf c0 c1 c2) : False := h
theorem ArrQ.keep {w w' : World} {Q Q' : Nat → Prop} (hk : ∀ b, Q b → b < w.heap.size → w'.heap[b]? = w.heap[b]?) (hq : ∀ b, Q b → b < w.heap.size → Q' b) : ∀ (A : Tree) (c0 c1 c2 : Value), ArrQ w Q A c0 c1 c2 → ArrQ w' Q' A c0 c1 c2 := by
 intro A
 induction A with
 | leaf => intros; exact (ArrQ.leaf ‹ArrQ _ _ Tree.leaf _ _ _›).elim
 | arr S n sh m L K C N k sub ih =>
  intro c0 c1 c2 h
  obtain ⟨h0, h1, ⟨ao, nc, h2, h3, h4, h5⟩, co, mc, h6, h7, h8⟩ := h
  refine ⟨h0, h1, ⟨ao, nc, h2, h3, h4.keep hk hq, h5⟩, co, mc, h6, h7, ?_⟩
  by_cases h0 : m = 0
  ·exact .inl h0
  rcases h8 with h8 | ⟨b, o, rfl, h8, h9⟩
  ·exact .inl h8
  ·have hb : b < w.heap.size := by
    obtain ⟨e, h10, _⟩ := h9 0 (by omega)
    exact World.block_lt_of_cell? w _ (h10 0 (by decide))
   refine .inr ⟨b, o, rfl, hq b h8 hb, fun i hi => ?_⟩
   obtain ⟨e, h10, h11⟩ := h9 i hi
   exact ⟨e, fun t ht => cell_kept (h10 t ht) (hk b h8 hb), h11.keep hk hq fun j d0 d1 d2 hd => ih i j d0 d1 d2 hd⟩
theorem blk_lt {w : World} {b o : Nat} {v : Value} (h : w.cell? ⟨b, o, none⟩ = some v) : b < w.heap.size := World.block_lt_of_cell? w _ h
theorem Sl.within {w : World} {ao : Option Addr} {n : Nat} {f : Nat → Nat} (h : Sl w ao n f) : SlQ w (· < w.heap.size) ao n f := by
 by_cases h0 : n = 0
 ·exact .inl h0
 ·rcases h with h | ⟨b, o, rfl, h⟩
  ·exact .inl h
  ·exact .inr ⟨b, o, rfl, blk_lt (h 0 (by omega)), h⟩
theorem SlZ.within {w : World} {ao : Option Addr} {n : Nat} {f : Nat → Int} (h : SlZ w ao n f) : SlZQ w (· < w.heap.size) ao n f := by
 by_cases h0 : n = 0
 ·exact .inl h0
 ·rcases h with h | ⟨b, o, rfl, h⟩
  ·exact .inl h
  ·exact .inr ⟨b, o, rfl, blk_lt (h 0 (by omega)), h⟩
theorem NumP.within {w : World} {N : NumF} {c0 c1 c2 : Value} (h : NumP w N c0 c1 c2) : NumQ w (· < w.heap.size) N c0 c1 c2 := by
 obtain ⟨h0, ⟨ao, ac, h1, h2, h3, h4⟩, ⟨bo, bc, k1, k2, k3, k4⟩⟩ := h
 exact ⟨h0, ⟨ao, ac, h1, h2, h3.within, h4⟩, ⟨bo, bc, k1, k2, k3.within, k4⟩⟩
theorem ArrP.within {w : World} : ∀ (A : Tree) (c0 c1 c2 : Value), ArrP w A c0 c1 c2 → ArrQ w (· < w.heap.size) A c0 c1 c2 := by
 intro A
 induction A with
 | leaf => intros; exact (ArrP.leaf ‹ArrP _ Tree.leaf _ _ _›).elim
 | arr S n sh m L K C N k sub ih =>
  intro c0 c1 c2 h
  obtain ⟨h0, h1, ⟨ao, nc, h2, h3, h4, h5⟩, co, mc, h6, h7, h8⟩ := h
  refine ⟨h0, h1, ⟨ao, nc, h2, h3, h4.within, h5⟩, co, mc, h6, h7, ?_⟩
  by_cases hm0 : m = 0
  ·exact .inl hm0
  rcases h8 with h8 | ⟨b, o, rfl, h9⟩
  ·exact .inl h8
  ·refine .inr ⟨b, o, rfl, ?_, fun i hi => ?_⟩
   ·obtain ⟨e, h10, _⟩ := h9 0 (by omega)
    exact blk_lt (h10 0 (by decide))
   ·obtain ⟨e, h10, q0, q1, q2, q3, q4, q5, q6, io, kc, q7, q8, q9⟩ := h9 i hi
    refine ⟨e, h10, q0, q1, q2, q3, q4.within, q5, q6, io, kc, q7, q8, ?_⟩
    by_cases hk0 : k i = 0
    ·exact .inl hk0
    rcases q9 with q9 | ⟨b', o', rfl, q9⟩
    ·exact .inl q9
    ·refine .inr ⟨b', o', rfl, ?_, fun j hj => ?_⟩
     ·obtain ⟨d0, d1, d2, r0, _⟩ := q9 0 (by omega)
      exact blk_lt r0
     ·obtain ⟨d0, d1, d2, r0, r1, r2, r3⟩ := q9 j hj
      exact ⟨d0, d1, d2, r0, r1, r2, ih i j d0 d1 d2 r3⟩
theorem SlQ.plain {w : World} {Q : Nat → Prop} {ao : Option Addr} {n : Nat} {f : Nat → Nat} (h : SlQ w Q ao n f) : Sl w ao n f := by
 rcases h with h | ⟨b, o, e, _, h⟩
 ·exact .inl h
 ·exact .inr ⟨b, o, e, h⟩
theorem SlZQ.plain {w : World} {Q : Nat → Prop} {ao : Option Addr} {n : Nat} {f : Nat → Int} (h : SlZQ w Q ao n f) : SlZ w ao n f := by
 rcases h with h | ⟨b, o, e, _, h⟩
 ·exact .inl h
 ·exact .inr ⟨b, o, e, h⟩
theorem ArrQ.plain {w : World} {Q : Nat → Prop} : ∀ (A : Tree) (c0 c1 c2 : Value), ArrQ w Q A c0 c1 c2 → ArrP w A c0 c1 c2 := by
 intro A
 induction A with
 | leaf => intros; exact (ArrQ.leaf ‹ArrQ _ _ Tree.leaf _ _ _›).elim
 | arr S n sh m L K C N k sub ih =>
  intro c0 c1 c2 h
  obtain ⟨h0, h1, ⟨ao, nc, h2, h3, h4, h5⟩, co, mc, h6, h7, h8⟩ := h
  refine ⟨h0, h1, ⟨ao, nc, h2, h3, h4.plain, h5⟩, co, mc, h6, h7, ?_⟩
  rcases h8 with h8 | ⟨b, o, rfl, _, h9⟩
  ·exact .inl h8
  ·refine .inr ⟨b, o, rfl, fun i hi => ?_⟩
   obtain ⟨e, h10, q0, q1, q2, q3, ⟨p0, ⟨ao, ac, p1, p2, p3, p4⟩, ⟨bo, bc, p5, p6, p7, p8⟩⟩, q5, q6, io, kc, q7, q8, q9⟩ := h9 i hi
   refine ⟨e, h10, q0, q1, q2, q3, ⟨p0, ⟨ao, ac, p1, p2, p3.plain, p4⟩, ⟨bo, bc, p5, p6, p7.plain, p8⟩⟩, q5, q6, io, kc, q7, q8, ?_⟩
   rcases q9 with q9 | ⟨b', o', rfl, _, q9⟩
   ·exact .inl q9
   ·refine .inr ⟨b', o', rfl, fun j hj => ?_⟩
    obtain ⟨d0, d1, d2, r0, r1, r2, r3⟩ := q9 j hj
    exact ⟨d0, d1, d2, r0, r1, r2, ih i j d0 d1 d2 r3⟩
def rowsN (es : Nat → List Value) (n : Nat) : List Value := (List.range n).flatMap es
def putL (es : Nat → List Value) (i : Nat) (x : List Value) (j : Nat) : List Value := if j = i then x else es j
theorem rowsN_length {es : Nat → List Value} {s : Nat} : ∀ n, (∀ i, i < n → (es i).length = s) → (rowsN es n).length = n * s
 | 0, _ => by simp [rowsN]
 | n + 1, h => by
  have e : rowsN es (n + 1) = rowsN es n ++ es n := by unfold rowsN; rw [List.range_succ, List.flatMap_append]; simp
  rw [e, List.length_append, rowsN_length n fun i hi => h i (by omega), h n (by omega), Nat.succ_mul]
theorem rowsN_get {es : Nat → List Value} {s : Nat} : ∀ n, (∀ i, i < n → (es i).length = s) → ∀ i t, i < n → t < s → (rowsN es n)[i * s + t]? = (es i)[t]?
 | 0, _, i, t, hi, _ => by omega
 | n + 1, h, i, t, hi, ht => by
  have e : rowsN es (n + 1) = rowsN es n ++ es n := by unfold rowsN; rw [List.range_succ, List.flatMap_append]; simp
  have hl := rowsN_length n fun i hi => h i (by omega)
  rw [e]
  by_cases hin : i < n
  ·have : i * s + t < n * s := by
    have := Nat.mul_le_mul_right s (show i + 1 ≤ n by omega)
    rw [Nat.succ_mul] at this
    omega
   rw [List.getElem?_append_left (by omega)]
   exact rowsN_get n (fun i hi => h i (by omega)) i t hin ht
  ·obtain rfl : i = n := by omega
   rw [List.getElem?_append_right (by omega), hl, Nat.add_sub_cancel_left]
end Go.Proofs.YtaepelipkkmeaaaGreat
namespace Go.Proofs.YtaepelipkkmeaaaGreat
open Go.RowKit Num
theorem infoCell : (Tryz.prog.info? 65).map (fun i => (i.zero, i.size, i.bytes)) = some (some (.agg #[.int .u64 0, .int .i64 0, .bool false, .slice none 0 0, .slice none 0 0, .int .i64 0, .slice none 0 0]), 7, 104) := by kernel_rfl
theorem infoArr : (Tryz.prog.info? 45).map (fun i => (i.zero, i.size, i.bytes)) = some (some (.agg #[.int .u64 0, .slice none 0 0, .slice none 0 0]), 3, 56) := by kernel_rfl
abbrev CellF := Nat → World → (Nat → Prop) → (Nat → Value) → Prop
def KeepF (F : CellF) : Prop := ∀ x (w w' : World) (Q Q' : Nat → Prop) e, F x w Q e → (∀ b, Q b → b < w.heap.size → w'.heap[b]? = w.heap[b]?) → (∀ b, Q b → b < w.heap.size → Q' b) → F x w' Q' e
end Go.Proofs.YtaepelipkkmeaaaGreat
namespace Go.Proofs.YtaepelipkkmeaaaGreat
open Go.RowKit Num
theorem Box7.set0 {w : World} {B : Nat} {z0 z1 z2 z3 z4 z5 z6 : Value} (h : Box7 w B z0 z1 z2 z3 z4 z5 z6) (v : Value) : Box7 (w.setCell ⟨B, 0, none⟩ v) B v z1 z2 z3 z4 z5 z6 := by
 have ne : ∀ {j k : Nat}, j ≠ k → (⟨B, j, none⟩ : Addr) ≠ ⟨B, k, none⟩ := fun h e => h (by injection e)
 exact ⟨World.cell?_setCell_same _ _ _ h.c0, (cell_set_ne (ne (by decide))).trans h.c1, (cell_set_ne (ne (by decide))).trans h.c2, (cell_set_ne (ne (by decide))).trans h.c3, (cell_set_ne (ne (by decide))).trans h.c4, (cell_set_ne (ne (by decide))).trans h.c5, (cell_set_ne (ne (by decide))).trans h.c6, fun j => by rw [World.frozen?_setCell]; exact h.fr j⟩
theorem parts_pos (A : Tree) : 1 ≤ partsT A := by
 obtain _ | ⟨S, n, sh, m, L, K, C, N, k, sub⟩ := A
 ·exact Nat.le_refl _
 show 1 ≤ 1 + n + sumN (fun i => 1 + (N i).an + (N i).am + sumN (fun j => partsT (sub i j)) (k i)) m
 omega
theorem ArrQ.form {w : World} {Q : Nat → Prop} {A : Tree} {c0 c1 c2 : Value} (h : ArrQ w Q A c0 c1 c2) : ∃ (S n nc m mc : Nat) (ao co : Option Addr), c0 = .int .u64 S ∧ c1 = .slice ao n nc ∧ c2 = .slice co m mc := by
 obtain _ | ⟨S, n, sh, m, L, K, C, N, k, sub⟩ := A
 ·exact (ArrQ.leaf h).elim
 obtain ⟨rfl, _, ⟨ao, nc, rfl, _⟩, co, mc, rfl, _⟩ := h
 exact ⟨S, n, nc, m, mc, ao, co, rfl, rfl, rfl⟩
theorem own_form {w : World} {B size n : Nat} {e : TypeId} {v : Value} {xs : List Value} (h : w.ownsRow B e size v n xs) : ∃ ao cap, v = .slice ao n cap ∧ n ≤ cap ∧ cap ≤ 9223372036854775807 ∧ (n = 0 ∨ ∃ g, ao = some ⟨g, 0, none⟩ ∧ v.ownBlock = some g ∧ B ≤ g ∧ g < w.heap.size) := by
 rcases h.2 with ⟨rfl, rfl⟩ | ⟨g, cap, cur, rfl, hb, hg, hnc, hcm, hcs, ht⟩
 ·exact ⟨none, 0, rfl, Nat.le_refl _, by omega, .inl rfl⟩
 ·exact ⟨_, cap, rfl, hnc, by unfold maxLen at hcm; omega, .inr ⟨g, rfl, rfl, hb, (h.lt g rfl).2⟩⟩
end Go.Proofs.YtaepelipkkmeaaaGreat
namespace Go.Proofs.YtaepelipkkmeaaaGreat
open Go.RowKit Num
def TreePost (T : Tree) (w : World) (e : Ending) (w' : World) : Prop := ∃ d0 d1 d2, e = .returned (.agg #[d0, d1, d2]) ∧ ArrP w' T d0 d1 d2 ∧ Below w.heap.size w w'
end Go.Proofs.YtaepelipkkmeaaaGreat
namespace Go.Proofs.YtaepelipkkmeaaaGreat
open Go.RowKit
def ListPost (L : List Int) (w : World) (e : Ending) (w' : World) : Prop :=
 ∃ B, e = .returned (.slice (some ⟨B, 0, none⟩) L.length L.length) ∧ SlZ w' (some ⟨B, 0, none⟩) L.length (fun j => L.getD j 0) ∧ Below w.heap.size w w'
theorem memZ_list (L : List Int) (c : Int) : MemZ (fun j => L.getD j 0) L.length c ↔ c ∈ L := by
 unfold MemZ
 rw [List.mem_iff_getElem]
 constructor
 ·rintro ⟨j, hj, h⟩
  refine ⟨j, hj, ?_⟩
  rw [← h]
  show L[j] = L.getD j 0
  rw [List.getD_eq_getElem?_getD, List.getElem?_eq_getElem hj]
  rfl
 ·rintro ⟨j, hj, h⟩
  refine ⟨j, hj, ?_⟩
  show L.getD j 0 = c
  rw [← h, List.getD_eq_getElem?_getD, List.getElem?_eq_getElem hj]
  rfl
def mayZ (c : Int) : Bool := decide (0 ≤ c) && decide (c ≤ 1114111) && (decide (c < 55296) || decide (57343 < c))
end Go.Proofs.YtaepelipkkmeaaaGreat
namespace Go.Proofs.YtaepelipkkmeaaaGreat
open Go.RowKit Num
def RightF (N : NumF) : Prop := ∃ (P : Int) (Q : Nat), Low P Q ∧ N.neg = decide (P < 0) ∧ Canon P.natAbs N.an N.fa ∧ Canon Q N.am N.ga
def CellT (K : Int) (N : NumF) (C : Int) (k : Nat) (simple : Bool) (d : Nat) (R : Prop) : Prop :=
 (K = 0 ∧ C = 0 ∧ k = 0 ∧ RightF N) ∨ (K = 1 ∧ zeroF N = true ∧ k = 0 ∧ mayZ C = true) ∨ (K = 2 ∧ zeroF N = true ∧ C = 0 ∧ k = 1 ∧ 0 < d ∧ simple = false ∧ R)
def RightT : Tree → Nat → Prop
 | .leaf, _ => False
 | .arr _ n sh m _ K C N k sub, d => Shape sh n (m : Int) ∧ ∀ i, i < m → CellT (K i) (N i) (C i) (k i) (simpleT (sub i 0)) d (RightT (sub i 0) (d - 1))
end Go.Proofs.YtaepelipkkmeaaaGreat
namespace Go.Proofs.YtaepelipkkmeaaaGreat
open Go.RowKit Num
structure CellD where
 L : Nat
 K : Int
 N : NumF
 C : Int
 k : Nat
 sub : Nat → Tree
def CellR (w : World) (c : CellD) (e : Nat → Value) : Prop := CellP w c.L c.K c.N c.C c.k (fun j d0 d1 d2 => ArrP w (c.sub j) d0 d1 d2) e
def CellPost (c : CellD) (w : World) (e : Ending) (w' : World) : Prop := ∃ v : Nat → Value, e = .returned (.agg #[v 0, v 1, v 2, v 3, v 4, v 5, v 6]) ∧ CellR w' c v ∧ Below w.heap.size w w'
def zeroN : NumF := ⟨false, 0, fun _ => 0, 0, fun _ => 0⟩
theorem Box7.setAll {w : World} {B : Nat} {z0 z1 z2 z3 z4 z5 z6 : Value} (h : Box7 w B z0 z1 z2 z3 z4 z5 z6) (v0 v1 v2 v3 v4 v5 v6 : Value) :
  Box7 (((((((w.setCell ⟨B, 0, none⟩ v0).setCell ⟨B, 1, none⟩ v1).setCell ⟨B, 2, none⟩ v2).setCell ⟨B, 3, none⟩ v3).setCell ⟨B, 4, none⟩ v4).setCell ⟨B, 5, none⟩ v5).setCell ⟨B, 6, none⟩ v6) B v0 v1 v2 v3 v4 v5 v6 := by
 have ne : ∀ {j k : Nat}, j ≠ k → (⟨B, j, none⟩ : Addr) ≠ ⟨B, k, none⟩ := fun h e => h (by injection e)
 have lt : ∀ {j : Nat} {x v : Value} {w' : World}, w'.cell? ⟨B, j, none⟩ = some x → (w'.setCell ⟨B, j, none⟩ v).cell? ⟨B, j, none⟩ = some v := fun h => World.cell?_setCell_same _ _ _ h
 have sk : ∀ {j k : Nat} {x : Option Value} {v : Value} {w' : World}, j ≠ k → w'.cell? ⟨B, j, none⟩ = x → (w'.setCell ⟨B, k, none⟩ v).cell? ⟨B, j, none⟩ = x := fun hn h => (cell_set_ne (ne hn)).trans h
 refine ⟨?_, ?_, ?_, ?_, ?_, ?_, ?_, fun j => by simp only [World.frozen?_setCell]; exact h.fr j⟩
 ·exact sk (by decide) (sk (by decide) (sk (by decide) (sk (by decide) (sk (by decide) (sk (by decide) (lt h.c0))))))
 ·exact sk (by decide) (sk (by decide) (sk (by decide) (sk (by decide) (sk (by decide) (lt (sk (by decide) h.c1))))))
 ·exact sk (by decide) (sk (by decide) (sk (by decide) (sk (by decide) (lt (sk (by decide) (sk (by decide) h.c2))))))
 ·exact sk (by decide) (sk (by decide) (sk (by decide) (lt (sk (by decide) (sk (by decide) (sk (by decide) h.c3))))))
 ·exact sk (by decide) (sk (by decide) (lt (sk (by decide) (sk (by decide) (sk (by decide) (sk (by decide) h.c4))))))
 ·exact sk (by decide) (lt (sk (by decide) (sk (by decide) (sk (by decide) (sk (by decide) (sk (by decide) h.c5))))))
 ·exact lt (sk (by decide) (sk (by decide) (sk (by decide) (sk (by decide) (sk (by decide) (sk (by decide) h.c6))))))
theorem below_setAll {w w' : World} {A B : Nat} (h : Below A w w') (hB : A ≤ B) (v0 v1 v2 v3 v4 v5 v6 : Value) :
  Below A w (((((((w'.setCell ⟨B, 0, none⟩ v0).setCell ⟨B, 1, none⟩ v1).setCell ⟨B, 2, none⟩ v2).setCell ⟨B, 3, none⟩ v3).setCell ⟨B, 4, none⟩ v4).setCell ⟨B, 5, none⟩ v5).setCell ⟨B, 6, none⟩ v6) :=
 ((((((h.setCell (p := ⟨B, 0, none⟩) hB v0).setCell (p := ⟨B, 1, none⟩) hB v1).setCell (p := ⟨B, 2, none⟩) hB v2).setCell (p := ⟨B, 3, none⟩) hB v3).setCell (p := ⟨B, 4, none⟩) hB v4).setCell (p := ⟨B, 5, none⟩) hB v5).setCell (p := ⟨B, 6, none⟩) hB v6
theorem Box7.aside {w : World} {B D : Nat} {v0 v1 v2 v3 v4 v5 v6 : Value} (h : Box7 w B v0 v1 v2 v3 v4 v5 v6) (hne : B ≠ D) (t : Nat) (u : Value) : Box7 (w.setCell ⟨D, t, none⟩ u) B v0 v1 v2 v3 v4 v5 v6 := by
 have ne : ∀ j, (⟨B, j, none⟩ : Addr) ≠ ⟨D, t, none⟩ := fun j e => hne (by injection e)
 exact ⟨(cell_set_ne (ne _)).trans h.c0, (cell_set_ne (ne _)).trans h.c1, (cell_set_ne (ne _)).trans h.c2, (cell_set_ne (ne _)).trans h.c3, (cell_set_ne (ne _)).trans h.c4, (cell_set_ne (ne _)).trans h.c5, (cell_set_ne (ne _)).trans h.c6, fun j => by rw [World.frozen?_setCell]; exact h.fr j⟩
end Go.Proofs.YtaepelipkkmeaaaGreat
namespace Go.Proofs.YtaepelipkkmeaaaGreat
open Go.RowKit Num
attribute [local go_sem ↓] Go.wp_at_zero Go.wp_at_succ
def confE (n : Nat) (f : Nat → Int) (m : Nat) (g : Nat → Int) : Int := if n = 0 then 0 else if m = 0 then 0 else if n ≠ m then 5 else if ∀ j, j < n → f j = g j then 0 else 4
def zeroD : CellD := ⟨0, 0, zeroN, 0, 0, fun _ => .leaf⟩
def pickT : Tree → Int → CellD
 | .leaf, _ => zeroD
 | .arr _ n _ m L K C N k sub, i => if n = 0 ∧ 0 < m then ⟨L 0, K 0, N 0, C 0, k 0, sub 0⟩ else if i < 0 ∨ (m : Int) ≤ i ∨ n = 0 then zeroD else ⟨L i.toNat, K i.toNat, N i.toNat, C i.toNat, k i.toNat, sub i.toNat⟩
def CellNQ (w : World) (Q : Nat → Prop) (c : CellD) (e : Nat → Value) : Prop := CellQ w Q c.L c.K c.N c.C c.k (fun j d0 d1 d2 => ArrQ w Q (c.sub j) d0 d1 d2) e
def CellQPost (c : CellD) (Q : Nat → Prop) (w : World) (e : Ending) (w' : World) : Prop := ∃ v : Nat → Value, e = .returned (.agg #[v 0, v 1, v 2, v 3, v 4, v 5, v 6]) ∧ CellNQ w' Q c v ∧ Below w.heap.size w w'
end Go.Proofs.YtaepelipkkmeaaaGreat
namespace Go.Proofs.YtaepelipkkmeaaaGreat
open Go.RowKit Num
attribute [local go_sem ↓] Go.wp_at_zero Go.wp_at_succ
def innerT (c : CellD) : Tree := if c.K = 2 then c.sub 0 else .arr 0 0 (fun _ => 0) 1 (fun _ => 0) (fun _ => c.K) (fun _ => c.C) (fun _ => c.N) (fun _ => c.k) (fun _ => c.sub)
theorem Box3.aside7 {w : World} {B D : Nat} {v0 v1 v2 : Value} (h : Box3 w B v0 v1 v2) (hne : B ≠ D) (t : Nat) (u : Value) : Box3 (w.setCell ⟨D, t, none⟩ u) B v0 v1 v2 := by
 have ne : ∀ j, (⟨B, j, none⟩ : Addr) ≠ ⟨D, t, none⟩ := fun j e => hne (by injection e)
 exact ⟨(cell_set_ne (ne _)).trans h.c0, (cell_set_ne (ne _)).trans h.c1, (cell_set_ne (ne _)).trans h.c2, fun j => by rw [World.frozen?_setCell]; exact h.fr j⟩
theorem madeQ {w w2 : World} {Q0 : Nat → Prop} {L : Nat} {K : Int} {N : NumF} {C : Int} {k : Nat} {sub : Nat → Tree} {e : Nat → Value} {z0 z1 z2 : Value} (t : TypeId) (h : CellNQ w Q0 ⟨L, K, N, C, k, sub⟩ e) (hL : IsL L) (b2 : Below w.heap.size w w2) (y2 : Box3 w2 (w.heap.size + 1) z0 z1 z2)
  (v0 v1 v2 v3 v4 v5 v6 : Value) (hv : (Value.agg #[v0, v1, v2, v3, v4, v5, v6]) = .agg #[e 0, e 1, e 2, e 3, e 4, e 5, e 6]) (W : World)
  (hW : W = (((w2.setCell ⟨w.heap.size + 1, 0, none⟩ (.int .u64 L)).setCell ⟨w.heap.size + 1, 1, none⟩ (.slice none 0 0)).setCell ⟨w.heap.size + 1, 2, none⟩ (.slice (some ⟨w2.heap.size, 0, none⟩) 1 1)).alloc (.cells #[v0, v1, v2, v3, v4, v5, v6] t)) :
  Box3 W (w.heap.size + 1) (.int .u64 L) (.slice none 0 0) (.slice (some ⟨w2.heap.size, 0, none⟩) 1 1) ∧ Below w.heap.size w W ∧
  ArrQ W (fun b => Q0 b ∨ w.heap.size ≤ b) (.arr L 0 (fun _ => 0) 1 (fun _ => L) (fun _ => K) (fun _ => C) (fun _ => N) (fun _ => k) (fun _ => sub)) (.int .u64 L) (.slice none 0 0) (.slice (some ⟨w2.heap.size, 0, none⟩) 1 1) := by
 have z := y2.set (.int .u64 L) (.slice none 0 0) (.slice (some ⟨w2.heap.size, 0, none⟩) 1 1)
 have bz := below_set3 b2 (B := w.heap.size + 1) (by omega) (.int .u64 L) (.slice none 0 0) (.slice (some ⟨w2.heap.size, 0, none⟩) 1 1)
 have zA := z.alloc (.cells #[v0, v1, v2, v3, v4, v5, v6] t)
 have bA := bz.alloc bz.size (.cells #[v0, v1, v2, v3, v4, v5, v6] t)
 have n7 := Box7.new (w := (((w2.setCell ⟨w.heap.size + 1, 0, none⟩ (.int .u64 L)).setCell ⟨w.heap.size + 1, 1, none⟩ (.slice none 0 0)).setCell ⟨w.heap.size + 1, 2, none⟩ (.slice (some ⟨w2.heap.size, 0, none⟩) 1 1))) (B := w2.heap.size) v0 v1 v2 v3 v4 v5 v6 t (by simp)
 rw [← hW] at zA bA n7
 simp only [Value.agg.injEq, Array.mk.injEq, List.cons.injEq, and_true] at hv
 obtain ⟨rfl, rfl, rfl, rfl, rfl, rfl, rfl⟩ := hv
 refine ⟨zA, bA, rfl, hL, ⟨none, 0, rfl, ⟨Nat.le_refl _, by decide, by decide⟩, .inl rfl, fun j hj => absurd hj (Nat.not_lt_zero _)⟩, _, _, rfl, ⟨Nat.le_refl _, by decide, by decide⟩, .inr ⟨_, _, rfl, .inr b2.size, fun i hi => ?_⟩⟩
 obtain rfl : i = 0 := by omega
 refine ⟨e, fun t ht => ?_, CellQ.keep h (fun b _ hb => bA.block b hb) (fun _ hq _ => .inl hq) fun j d0 d1 d2 hd => ArrQ.keep (fun b _ hb => bA.block b hb) (fun _ hq _ => .inl hq) _ _ _ _ hd⟩
 rcases t with _ | _ | _ | _ | _ | _ | _ | t
 ·exact n7.c0
 ·exact n7.c1
 ·exact n7.c2
 ·exact n7.c3
 ·exact n7.c4
 ·exact n7.c5
 ·exact n7.c6
 ·omega
def TreeQN (T : Tree) (Q : Nat → Prop) (w : World) (e : Ending) (w' : World) : Prop := ∃ d0 d1 d2, e = .returned (.agg #[d0, d1, d2]) ∧ ArrQ w' (fun b => Q b ∨ w.heap.size ≤ b) T d0 d1 d2 ∧ Below w.heap.size w w'
end Go.Proofs.YtaepelipkkmeaaaGreat
namespace Go.Proofs.YtaepelipkkmeaaaGreat
open Go.RowKit Num
theorem canon_ex (v : Nat) : ∃ n f, Canon v n f := by
 induction v using Nat.strongRecOn with
 | _ v ih =>
  by_cases hv : v = 0
  ·subst hv; exact ⟨0, fun _ => 0, canon_zero _⟩
  ·obtain ⟨n, f, c⟩ := ih (v / 4294967296) (Nat.div_lt_self (by omega) (by decide))
   have e : ∀ j, (fun j => if j = 0 then v % 4294967296 else f (j - 1)) (j + 1) = f j := fun j => by simp
   refine ⟨n + 1, fun j => if j = 0 then v % 4294967296 else f (j - 1), fun j hj => ?_, .inr ?_, ?_⟩
   ·by_cases h0 : j = 0
    ·simp only [h0, if_pos]; omega
    ·simp only [if_neg h0]; exact c.lim (j - 1) (by omega)
   ·by_cases h0 : n = 0
    ·subst h0
     have : v / 4294967296 = 0 := by have := c.val; rw [val_zero] at this; exact this.symm
     show (if 0 + 1 - 1 = 0 then v % 4294967296 else f (0 + 1 - 1 - 1)) ≠ 0
     rw [if_pos (by omega)]; omega
    ·show (if n + 1 - 1 = 0 then v % 4294967296 else f (n + 1 - 1 - 1)) ≠ 0
     rw [if_neg (by omega), show n + 1 - 1 - 1 = n - 1 by omega]
     rcases c.top with t | t
     ·exact absurd t h0
     ·exact t
   ·rw [val_cons, val_congr fun j _ => e j, c.val]
    show (if 0 = 0 then v % 4294967296 else f (0 - 1)) + _ = v
    rw [if_pos rfl]; omega
noncomputable def lenN (v : Nat) : Nat := (canon_ex v).choose
noncomputable def limN (v : Nat) : Nat → Nat := (canon_ex v).choose_spec.choose
theorem canonN (v : Nat) : Canon v (lenN v) (limN v) := (canon_ex v).choose_spec.choose_spec
noncomputable def numF (T : Int) (B : Nat) : NumF := ⟨decide (T < 0), lenN T.natAbs, limN T.natAbs, lenN B, limN B⟩
theorem numF_right {T : Int} {B : Nat} (h : Low T B) : RightF (numF T B) := ⟨T, B, h, rfl, canonN _, canonN _⟩
theorem limbs_in {w : World} {b : Bool} {ao : Option Addr} {n nc : Nat} {x : Int} {v : Nat} (h : Right w b ao n nc x) (hx : x.natAbs = v) (hl : v < pw 32) : n = lenN v ∧ IsN n nc ∧ Sl w ao (lenN v) (limN v) := by
 obtain ⟨f, h1, h2, h3, h4, _⟩ := h.ex
 rw [hx] at h4
 have e := h4.len (canonN v)
 subst e
 have := h4.len_le hl
 exact ⟨rfl, ⟨h1, h2, by omega⟩, h3.congr (h4.eq (canonN v))⟩
theorem Rt.numP {w : World} {b : Bool} {ao bo : Option Addr} {n nc m mc : Nat} {T : Int} {B : Nat} (h : Rt w b ao n nc bo m mc T B) (hT : T.natAbs < pw 32) (hB : B < pw 32) : NumP w (numF T B) (.bool b) (.slice ao n nc) (.slice bo m mc) := by
 obtain ⟨e1, i1, s1⟩ := limbs_in h.top rfl hT
 obtain ⟨e2, i2, s2⟩ := limbs_in h.bot (Int.natAbs_natCast B) hB
 have e3 := h.top.neg
 subst e1; subst e2; subst e3
 exact ⟨rfl, ⟨_, _, rfl, i1, s1, (canonN _).lim⟩, ⟨_, _, rfl, i2, s2, (canonN _).lim⟩⟩
theorem NumP.rt {w : World} {N : NumF} {c0 c1 c2 : Value} (h : NumP w N c0 c1 c2) (hr : RightF N) :
  ∃ (ao bo : Option Addr) (nc mc : Nat) (P : Int) (Q : Nat), c0 = .bool N.neg ∧ c1 = .slice ao N.an nc ∧ c2 = .slice bo N.am mc ∧ Rt w N.neg ao N.an nc bo N.am mc P Q ∧ Low P Q ∧ Canon P.natAbs N.an N.fa ∧ Canon Q N.am N.ga ∧ N.neg = decide (P < 0) := by
 obtain ⟨rfl, ⟨ao, ac, rfl, hn, hs, hl⟩, ⟨bo, bc, rfl, hm, hs', hl'⟩⟩ := h
 obtain ⟨P, Q, l, r1, r2, r3⟩ := hr
 exact ⟨ao, bo, ac, bc, P, Q, rfl, rfl, rfl, ⟨⟨N.fa, hn.1, hn.2.1, hs, r2, r1⟩, ⟨N.ga, hm.1, hm.2.1, hs', by rw [Int.natAbs_natCast]; exact r3, (decide_eq_false (by omega)).symm⟩⟩, l, r2, r3, r1⟩
end Go.Proofs.YtaepelipkkmeaaaGreat
namespace Go.Proofs.YtaepelipkkmeaaaGreat
open Go.RowKit Num
def Fit (r : Int × Nat × Int) : Prop := (r.2.2 = 0 ∧ Low r.1 r.2.1) ∨ (r.2.2 ≠ 0 ∧ r.1 = 0 ∧ r.2.1 = 0)
theorem fit_low {P : Int} {Q : Nat} (h : Low P Q) : Fit (P, Q, 0) := .inl ⟨rfl, h⟩
theorem fit_err {E : Int} (h : E ≠ 0) : Fit (0, 0, E) := .inr ⟨h, rfl, rfl⟩
theorem fit_mk (p q : Int) : Fit (mkT p q, mkB p q, mkE p q) := by
 by_cases h : mkE p q = 0
 ·exact .inl ⟨h, mk_low h⟩
 ·exact .inr ⟨h, if_neg h, if_neg h⟩
theorem one_lt : 1 < pw 32 := Nat.lt_of_lt_of_le (by decide : 1 < pw 1) (pw_le (by omega))
theorem low_small {P : Int} (h : P.natAbs ≤ 1) : Low P 1 := low_one (Nat.lt_of_le_of_lt h one_lt)
theorem fit_truth (b : Bool) : Fit (truthZ b, 1, 0) := fit_low (low_small (by cases b <;> decide))
theorem fit_gcd {P R : Int} {Q S : Nat} (hP : Low P Q) (hR : Low R S) : Fit (gcdRes P Q R S) := by
 unfold gcdRes
 split
 ·refine fit_low (low_one ?_)
  rw [Int.natAbs_natCast]
  by_cases h : P.natAbs = 0
  ·rw [h, Nat.gcd_zero_left]; exact hR.abs_lt
  ·exact Nat.lt_of_le_of_lt (Nat.gcd_le_left _ (by omega)) hP.abs_lt
 ·exact fit_err (by decide)
theorem fit_lcm {P R : Int} {Q S : Nat} : Fit (lcmRes P Q R S) := by
 unfold lcmRes
 split
 ·split
  ·exact fit_low (low_small (by decide))
  ·exact fit_mk _ _
 ·exact fit_err (by decide)
theorem fit_mod {P R : Int} {Q S : Nat} (hR : Low R S) : Fit (modRes P Q R S) := by
 unfold modRes
 split
 ·exact fit_low hR
 split
 ·rename_i h; exact fit_err h
 split
 ·rename_i h; exact fit_err h
 ·exact fit_mk _ _
theorem fit_pw {p q k : Int} : Fit (pwRes p q k) := by
 unfold pwRes
 split
 ·rename_i h; exact fit_err h
 split
 ·rename_i h; exact fit_err h
 ·exact fit_mk _ _
theorem fit_pow {P R : Int} {Q S : Nat} : Fit (powN P Q R S) := by
 unfold powN
 split
 ·unfold powRes
  split
  ·split
   ·exact fit_err (by decide)
   ·exact fit_pw
  ·exact fit_pw
 ·exact fit_err (by decide)
theorem fit_maxR {c P R : Int} {Q S : Nat} (hP : Low P Q) (hR : Low R S) : Fit (maxR c P Q R S) := by
 unfold maxR; split
 ·exact fit_low hP
 ·exact fit_low hR
theorem fit_minR {c P R : Int} {Q S : Nat} (hP : Low P Q) (hR : Low R S) : Fit (minR c P Q R S) := by
 unfold minR; split
 ·exact fit_low hP
 ·exact fit_low hR
theorem fit_two (f : Int) {P R : Int} {Q S : Nat} (hP : Low P Q) (hR : Low R S) : Fit (num2R f P Q R S) := by
 unfold num2R
 by_cases h : f = 43
 ·rw [if_pos h]; exact fit_mk _ _
 rw [if_neg h]; clear h
 by_cases h : f = 45
 ·rw [if_pos h]; exact fit_mk _ _
 rw [if_neg h]; clear h
 by_cases h : f = 215
 ·rw [if_pos h]; exact fit_mk _ _
 rw [if_neg h]; clear h
 by_cases h : f = 247
 ·rw [if_pos h]; exact fit_mk _ _
 rw [if_neg h]; clear h
 by_cases h : f = 8968
 ·rw [if_pos h]; exact fit_maxR hP hR
 rw [if_neg h]; clear h
 by_cases h : f = 8970
 ·rw [if_pos h]; exact fit_minR hP hR
 rw [if_neg h]; clear h
 by_cases h : f = 124
 ·rw [if_pos h]; exact fit_mod hR
 rw [if_neg h]; clear h
 by_cases h : f = 42
 ·rw [if_pos h]; exact fit_pow
 rw [if_neg h]; clear h
 by_cases h : f = 60
 ·rw [if_pos h]; exact fit_truth _
 rw [if_neg h]; clear h
 by_cases h : f = 8804
 ·rw [if_pos h]; exact fit_truth _
 rw [if_neg h]; clear h
 by_cases h : f = 61
 ·rw [if_pos h]; exact fit_truth _
 rw [if_neg h]; clear h
 by_cases h : f = 8805
 ·rw [if_pos h]; exact fit_truth _
 rw [if_neg h]; clear h
 by_cases h : f = 62
 ·rw [if_pos h]; exact fit_truth _
 rw [if_neg h]; clear h
 by_cases h : f = 8800
 ·rw [if_pos h]; exact fit_truth _
 rw [if_neg h]; clear h
 by_cases h : f = 8743
 ·rw [if_pos h]; exact fit_lcm
 rw [if_neg h]; clear h
 by_cases h : f = 8744
 ·rw [if_pos h]; exact fit_gcd hP hR
 rw [if_neg h]; clear h
 exact fit_err (by decide)
end Go.Proofs.YtaepelipkkmeaaaGreat
namespace Go.Proofs.YtaepelipkkmeaaaGreat
open Go.RowKit Num
def onesZ : List Int := [43, 45, 215, 247, 8968, 8970, 124, 126, 33]
def twosZ : List Int := [43, 45, 215, 247, 8968, 8970, 124, 42, 60, 8804, 61, 8805, 62, 8800, 8743, 8744]
theorem onesZ_any (w : World) : Calls Tryz.prog 10 #[] w (ListPost onesZ w) := by
 go_enter Tryz.func10, Tryz.ntmps10
 go_wp2_with fail
 go_ret
 exact ⟨_, rfl, slz_new w onesZ _ _ rfl, (Below.refl _ _).alloc (Nat.le_refl _) _⟩
end Go.Proofs.YtaepelipkkmeaaaGreat
namespace Go.Proofs.YtaepelipkkmeaaaGreat
open Go.RowKit Num
def Shut (w : World) (b : Nat) : Prop := b < w.heap.size ∧ ∀ o x, w.cell? ⟨b, o, none⟩ ≠ some (.int .u32 x)
def HasLimb (w : World) (b : Nat) : Prop := ∃ o x, w.cell? ⟨b, o, none⟩ = some (.int .u32 x)
theorem Shut.ne {w : World} {b c : Nat} (h : Shut w b) (k : HasLimb w c) : c ≠ b := by
 rintro rfl
 obtain ⟨o, x, e⟩ := k
 exact h.2 o x e
theorem lt_of_block {w w' : World} {b : Nat} (h : b < w.heap.size) (e : w'.heap[b]? = w.heap[b]?) : b < w'.heap.size := by
 rcases Nat.lt_or_ge b w'.heap.size with h' | h'
 ·exact h'
 ·rw [Array.getElem?_eq_none h', Array.getElem?_eq_getElem h] at e; cases e
theorem Shut.keep {w w' : World} {b : Nat} (h : Shut w b) (e : w'.heap[b]? = w.heap[b]?) : Shut w' b :=
 ⟨lt_of_block h.1 e, fun o x => by rw [World.cell?_of_block (a := ⟨b, o, none⟩) e]; exact h.2 o x⟩
theorem HasLimb.keep {w w' : World} {b : Nat} (h : HasLimb w b) (e : w'.heap[b]? = w.heap[b]?) : HasLimb w' b := by
 obtain ⟨o, x, k⟩ := h
 exact ⟨o, x, (World.cell?_of_block (a := ⟨b, o, none⟩) e).trans k⟩
theorem Shut.later {w w' : World} {b : Nat} (h : Shut w b) (hb : Below w.heap.size w w') : Shut w' b := h.keep (hb.block b h.1)
theorem Shut.new {w : World} {vs : Array Value} {t : TypeId} (h : ∀ (i : Nat) (x : Int), vs[i]? ≠ some (Value.int .u32 x)) : Shut (w.alloc (.cells vs t)) w.heap.size :=
 ⟨by simp, fun o x => by rw [World.cell?_alloc_new]; exact h o x⟩
theorem Shut.other {w : World} {b c : Nat} (h : Shut w b) (hne : b ≠ c) (t : Nat) (v : Value) : Shut (w.setCell ⟨c, t, none⟩ v) b := h.keep (Below.heap_setCell _ _ _ _ hne)
theorem Shut.set {w : World} {b : Nat} (h : Shut w b) (t : Nat) (v : Value) (hv : ∀ x, v ≠ .int .u32 x) : Shut (w.setCell ⟨b, t, none⟩ v) b := by
 refine ⟨by simpa [World.setCell] using h.1, fun o x e => ?_⟩
 by_cases ho : o = t
 ·subst ho
  cases hc : w.cell? ⟨b, o, none⟩ with
  | none =>
   have : (w.setCell ⟨b, o, none⟩ v).cell? ⟨b, o, none⟩ = none := by
    unfold World.cell? at hc ⊢
    unfold World.setCell
    simp only [Array.getElem?_modify, if_pos]
    cases hb : w.heap[b]? with
    | none => rfl
    | some O =>
     rw [hb] at hc
     cases O with
     | cells c t f =>
      simp at hc
      simp [hc]
     | _ => rfl
   rw [this] at e; cases e
  | some u =>
   rw [World.cell?_setCell_same _ _ _ hc] at e
   exact hv x (Option.some.inj e)
 ·rw [World.cell?_setCell_other _ _ _ _ (fun e => ho (by injection e with _ e _; exact e.symm))] at e
  exact h.2 o x e
end Go.Proofs.YtaepelipkkmeaaaGreat
namespace Go.Proofs.YtaepelipkkmeaaaGreat
open Go.RowKit Num
def topF (N : NumF) : Int := if N.neg then -(val N.fa N.an : Int) else (val N.fa N.an : Int)
def botF (N : NumF) : Nat := val N.ga N.am
theorem topF_of {N : NumF} {P : Int} (h : N.neg = decide (P < 0)) (k : val N.fa N.an = P.natAbs) : topF N = P := by
 unfold topF
 rw [h, k]
 by_cases hp : P < 0
 ·rw [decide_eq_true hp, if_pos rfl]; omega
 ·rw [decide_eq_false hp, if_neg (by decide)]; omega
theorem RightF.low {N : NumF} (h : RightF N) : Low (topF N) (botF N) := by
 obtain ⟨P, Q, l, r1, r2, r3⟩ := h
 rw [topF_of r1 r2.val, show botF N = Q from r3.val]
 exact l
theorem NumP.rtF {w : World} {N : NumF} {c0 c1 c2 : Value} (h : NumP w N c0 c1 c2) (hr : RightF N) :
  ∃ (ao bo : Option Addr) (nc mc : Nat), c0 = .bool N.neg ∧ c1 = .slice ao N.an nc ∧ c2 = .slice bo N.am mc ∧ Rt w N.neg ao N.an nc bo N.am mc (topF N) (botF N) := by
 obtain ⟨ao, bo, nc, mc, P, Q, h0, h1, h2, R, l, k1, k2, k3⟩ := h.rt hr
 refine ⟨ao, bo, nc, mc, h0, h1, h2, ?_⟩
 rw [topF_of k3 k1.val, show botF N = Q from k2.val]
 exact R
theorem Sl.limbs {w : World} {ao : Option Addr} {n : Nat} {f : Nat → Nat} (h : Sl w ao n f) : SlQ w (HasLimb w) ao n f := by
 by_cases h0 : n = 0
 ·exact .inl h0
 rcases h with h | ⟨b, o, e, h⟩
 ·exact .inl h
 ·exact .inr ⟨b, o, e, ⟨o, f 0, by have := h 0 (by omega); rwa [Nat.add_zero] at this⟩, h⟩
theorem NumP.limbs {w : World} {N : NumF} {c0 c1 c2 : Value} (h : NumP w N c0 c1 c2) : NumQ w (HasLimb w) N c0 c1 c2 := by
 obtain ⟨h0, ⟨ao, ac, h1, h2, h3, h4⟩, ⟨bo, bc, k1, k2, k3, k4⟩⟩ := h
 exact ⟨h0, ⟨ao, ac, h1, h2, h3.limbs, h4⟩, ⟨bo, bc, k1, k2, k3.limbs, k4⟩⟩
def Prov (Q0 : Nat → Prop) (w : World) (b : Nat) : Prop := Q0 b ∨ w.heap.size ≤ b ∨ HasLimb w b
theorem Prov.limb {Q0 : Nat → Prop} {w w' : World} {b : Nat} (h : HasLimb w' b) (hb : Below w.heap.size w w') : Prov Q0 w b := by
 rcases Nat.lt_or_ge b w.heap.size with hlt | hge
 ·exact .inr (.inr (h.keep (hb.block b hlt).symm))
 ·exact .inr (.inl hge)
theorem Prov.trans {Q0 Q1 : Nat → Prop} {w w' : World} {b : Nat} (h : Prov Q1 w' b) (hb : Below w.heap.size w w') (hq : Q1 b → Prov Q0 w b) : Prov Q0 w b := by
 rcases h with h | h | h
 ·exact hq h
 ·exact .inr (.inl (Nat.le_trans hb.size h))
 ·exact Prov.limb h hb
def firstE (e : Nat → Int) : Nat → Int
 | 0 => 0
 | n + 1 => if firstE e n = 0 then e n else firstE e n
theorem firstE_zero {e : Nat → Int} : ∀ n, firstE e n = 0 ↔ ∀ i, i < n → e i = 0
 | 0 => ⟨fun _ i hi => by omega, fun _ => rfl⟩
 | n + 1 => by
  have ih := firstE_zero (e := e) n
  unfold firstE
  by_cases h : firstE e n = 0
  ·rw [if_pos h]
   refine ⟨fun k i hi => ?_, fun k => k n (by omega)⟩
   by_cases hin : i = n
   ·rw [hin]; exact k
   ·exact ih.1 h i (by omega)
  ·rw [if_neg h]
   exact ⟨fun k => absurd k h, fun k => absurd (ih.2 fun i hi => k i (by omega)) h⟩
theorem firstE_at {e : Nat → Int} {t : Nat} (h : ∀ i, i < t → e i = 0) (ht : e t ≠ 0) : ∀ n, t < n → firstE e n = e t
 | 0, hn => by omega
 | n + 1, hn => by
  unfold firstE
  by_cases hnt : n = t
  ·subst hnt
   rw [if_pos ((firstE_zero n).2 h)]
  ·have := firstE_at h ht n (by omega)
   rw [if_neg (by rw [this]; exact ht), this]
def zeroT : Tree := .arr 0 0 (fun _ => 0) 0 (fun _ => 0) (fun _ => 0) (fun _ => 0) (fun _ => zeroN) (fun _ => 0) (fun _ _ => .leaf)
theorem zero_arr (w : World) (Q : Nat → Prop) : ArrQ w Q zeroT (.int .u64 0) (.slice none 0 0) (.slice none 0 0) :=
 ⟨rfl, by show (0 : Nat) < 18446744073709551616; decide, ⟨none, 0, rfl, ⟨Nat.le_refl _, by decide, by decide⟩, .inl rfl, fun j hj => absurd hj (Nat.not_lt_zero _)⟩, none, 0, rfl, ⟨Nat.le_refl _, by decide, by decide⟩, .inl rfl⟩
def resT (E : Int) (T : Tree) : Tree := if E = 0 then T else zeroT
def ResQ (E : Int) (T : Tree) (Q0 : Nat → Prop) (w : World) (e : Ending) (w' : World) : Prop :=
 (∃ d0 d1 d2, e = .returned (.tuple #[.agg #[d0, d1, d2], .int .i64 E]) ∧ ArrQ w' (Prov Q0 w) (resT E T) d0 d1 d2) ∧ Below w.heap.size w w'
end Go.Proofs.YtaepelipkkmeaaaGreat
namespace Go.Proofs.YtaepelipkkmeaaaGreat
open Go.RowKit Num
theorem no_limb7 {a k c : Int} {b : Bool} {p q r : Option Addr} {n nc m mc l lc : Nat} : ∀ u ∈ [Value.int .u64 a, .int .i64 k, .bool b, .slice p n nc, .slice q m mc, .int .i64 c, .slice r l lc], ∀ x, u ≠ .int .u32 x := by
 intro u hu x e
 subst e
 simp at hu
theorem shut7 {w : World} {a k c : Int} {b : Bool} {p q r : Option Addr} {n nc m mc l lc : Nat} {t : TypeId} : Shut (w.alloc (.cells #[.int .u64 a, .int .i64 k, .bool b, .slice p n nc, .slice q m mc, .int .i64 c, .slice r l lc] t)) w.heap.size :=
 Shut.new fun i x h => by
  have h' := List.mem_of_getElem? (l := [Value.int .u64 a, .int .i64 k, .bool b, .slice p n nc, .slice q m mc, .int .i64 c, .slice r l lc]) (i := i) (a := .int .u32 x) (by simpa using h)
  exact no_limb7 _ h' x rfl
theorem shut3 {w : World} {a : Int} {p q : Option Addr} {n nc m mc : Nat} {t : TypeId} : Shut (w.alloc (.cells #[.int .u64 a, .slice p n nc, .slice q m mc] t)) w.heap.size :=
 Shut.new fun i x h => by
  have h' := List.mem_of_getElem? (l := [Value.int .u64 a, .slice p n nc, .slice q m mc]) (i := i) (a := .int .u32 x) (by simpa using h)
  simp at h'
theorem NumQ.plain' {w : World} {Q : Nat → Prop} {N : NumF} {c0 c1 c2 : Value} (h : NumQ w Q N c0 c1 c2) : NumP w N c0 c1 c2 := by
 obtain ⟨h0, ⟨ao, ac, h1, h2, h3, h4⟩, ⟨bo, bc, k1, k2, k3, k4⟩⟩ := h
 exact ⟨h0, ⟨ao, ac, h1, h2, h3.plain, h4⟩, ⟨bo, bc, k1, k2, k3.plain, k4⟩⟩
theorem NumP.rtS {w : World} {N : NumF} {ao bo : Option Addr} {ac bc : Nat} (h : NumP w N (.bool N.neg) (.slice ao N.an ac) (.slice bo N.am bc)) (hr : RightF N) : Rt w N.neg ao N.an ac bo N.am bc (topF N) (botF N) := by
 obtain ⟨ao', bo', nc', mc', _, h1, h2, R⟩ := h.rtF hr
 injection h1 with e1 e2 e3
 injection h2 with e4 e5 e6
 subst e1; subst e3; subst e4; subst e6
 exact R
theorem row_one {w : World} (v0 v1 v2 : Value) (T : TypeId) :
  (w.alloc (.cells #[v0, v1, v2] T)).cell? ⟨w.heap.size, 0, none⟩ = some v0 ∧ (w.alloc (.cells #[v0, v1, v2] T)).cell? ⟨w.heap.size, 1, none⟩ = some v1 ∧ (w.alloc (.cells #[v0, v1, v2] T)).cell? ⟨w.heap.size, 2, none⟩ = some v2 :=
 ⟨World.cell?_alloc_new w _ _ _, World.cell?_alloc_new w _ _ _, World.cell?_alloc_new w _ _ _⟩
theorem heap_set012 {w : World} {B b : Nat} (h : b ≠ B) (u0 u1 u2 : Value) : (((w.setCell ⟨B, 0, none⟩ u0).setCell ⟨B, 1, none⟩ u1).setCell ⟨B, 2, none⟩ u2).heap[b]? = w.heap[b]? := by
 rw [Below.heap_setCell _ _ _ _ h, Below.heap_setCell _ _ _ _ h, Below.heap_setCell _ _ _ _ h]
end Go.Proofs.YtaepelipkkmeaaaGreat
namespace Go.Proofs.YtaepelipkkmeaaaGreat
open Go.RowKit Num
def labT : Tree → Nat
 | .leaf => 0
 | .arr S .. => S
def rankT : Tree → Nat
 | .leaf => 0
 | .arr _ n .. => n
def shapeT : Tree → Nat → Int
 | .leaf => fun _ => 0
 | .arr _ _ sh .. => sh
def cellsT : Tree → Nat
 | .leaf => 0
 | .arr _ _ _ m .. => m
def sameKC (x y : CellD) : Bool := decide (x.K = y.K ∧ x.C = y.C)
noncomputable def twoN (f : Int) (x y : CellD) : NumF :=
 if x.K = 2 ∨ y.K = 2 then zeroN else if x.K = 0 ∧ y.K = 0 then numF (num2R f (topF x.N) (botF x.N) (topF y.N) (botF y.N)).1 (num2R f (topF x.N) (botF x.N) (topF y.N) (botF y.N)).2.1
 else if f = 61 then numF (truthZ (sameKC x y)) 1 else numF (truthZ (!sameKC x y)) 1
noncomputable def cellE (f : Int) (x y : CellD) (e : Int) : Int :=
 if x.K = 2 ∨ y.K = 2 then e else if x.K = 0 ∧ y.K = 0 then (num2R f (topF x.N) (botF x.N) (topF y.N) (botF y.N)).2.2 else if f = 61 ∨ f = 8800 then 0 else 3
noncomputable def twoD (f : Int) (x y : CellD) (T : Tree) : CellD := ⟨orL x.L y.L, if x.K = 2 ∨ y.K = 2 then 2 else 0, twoN f x y, 0, if x.K = 2 ∨ y.K = 2 then 1 else 0, fun _ => T⟩
noncomputable def twoE (f : Int) : Nat → Tree → Tree → Int
 | 0, _, _ => 0
 | d + 1, A, B => if confE (rankT A) (shapeT A) (rankT B) (shapeT B) = 0 then
   firstE (fun i => cellE f (pickT A (i : Int)) (pickT B (i : Int)) (twoE f d (innerT (pickT A (i : Int))) (innerT (pickT B (i : Int))))) (if rankT A = 0 then cellsT B else cellsT A)
  else confE (rankT A) (shapeT A) (rankT B) (shapeT B)
noncomputable def twoT (f : Int) : Nat → Tree → Tree → Tree
 | 0, _, _ => .leaf
 | d + 1, A, B => .arr (orL (labT A) (labT B)) (if rankT A = 0 then rankT B else rankT A) (if rankT A = 0 then shapeT B else shapeT A) (if rankT A = 0 then cellsT B else cellsT A)
   (fun i => (twoD f (pickT A (i : Int)) (pickT B (i : Int)) (twoT f d (innerT (pickT A (i : Int))) (innerT (pickT B (i : Int))))).L) (fun i => (twoD f (pickT A (i : Int)) (pickT B (i : Int)) (twoT f d (innerT (pickT A (i : Int))) (innerT (pickT B (i : Int))))).K)
   (fun i => (twoD f (pickT A (i : Int)) (pickT B (i : Int)) (twoT f d (innerT (pickT A (i : Int))) (innerT (pickT B (i : Int))))).C) (fun i => (twoD f (pickT A (i : Int)) (pickT B (i : Int)) (twoT f d (innerT (pickT A (i : Int))) (innerT (pickT B (i : Int))))).N)
   (fun i => (twoD f (pickT A (i : Int)) (pickT B (i : Int)) (twoT f d (innerT (pickT A (i : Int))) (innerT (pickT B (i : Int))))).k) (fun i => (twoD f (pickT A (i : Int)) (pickT B (i : Int)) (twoT f d (innerT (pickT A (i : Int))) (innerT (pickT B (i : Int))))).sub)
noncomputable def twoR (f : Int) (d : Nat) (A B : Tree) : Int := if f ∈ twosZ then twoE f d A B else 8
def CellOk (x : CellD) (d : Nat) : Prop := CellT x.K x.N x.C x.k (simpleT (x.sub 0)) d (RightT (x.sub 0) (d - 1)) ∧ 2 + x.N.an + x.N.am + sumN (fun j => partsT (x.sub j)) x.k ≤ 4000
theorem CellOk.box {x : CellD} {d : Nat} (h : CellOk x d) (hK : x.K = 2) : x.C = 0 ∧ x.k = 1 ∧ 0 < d ∧ simpleT (x.sub 0) = false ∧ RightT (x.sub 0) (d - 1) ∧ zeroF x.N = true := by
 rcases h.1 with ⟨h0, _⟩ | ⟨h0, _⟩ | ⟨_, hz, hC, hk, hd, hs, hR⟩
 ·omega
 ·omega
 ·exact ⟨hC, hk, hd, hs, hR, hz⟩
theorem CellOk.plain {x : CellD} {d : Nat} (h : CellOk x d) (hK : x.K ≠ 2) : (x.K = 0 ∧ x.C = 0 ∧ x.k = 0 ∧ RightF x.N) ∨ (x.K = 1 ∧ x.k = 0) := by
 rcases h.1 with ⟨h0, h1, h2, h3⟩ | ⟨h0, _, h2, _⟩ | ⟨h0, _⟩
 ·exact .inl ⟨h0, h1, h2, h3⟩
 ·exact .inr ⟨h0, h2⟩
 ·exact absurd h0 hK
theorem shape_nil : Shape (fun _ => 0) 0 ((1 : Nat) : Int) := ⟨by decide, fun j hj => absurd hj (Nat.not_lt_zero _), fun j hj => absurd hj (Nat.not_lt_zero _), rfl, by decide⟩
theorem Shape.only {f : Nat → Int} {n m : Nat} (h : Shape f n (m : Int)) (hn : n = 0) : m = 1 := by
 subst hn
 have h1 : (m : Int) = 1 := h.all
 omega
theorem CellOk.inner {x : CellD} {d : Nat} (h : CellOk x (d + 1)) : RightT (innerT x) d ∧ partsT (innerT x) ≤ 4000 := by
 unfold innerT
 by_cases hK : x.K = 2
 ·rw [if_pos hK]
  obtain ⟨_, hk, _, _, hR, _⟩ := h.box hK
  refine ⟨hR, ?_⟩
  have h2 := h.2
  have h1 := sumN_one (fun j => partsT (x.sub j)) (show 0 < x.k by omega)
  have h1' : partsT (x.sub 0) ≤ sumN (fun j => partsT (x.sub j)) x.k := h1
  omega
 ·rw [if_neg hK]
  refine ⟨⟨shape_nil, fun i hi => ?_⟩, ?_⟩
  ·rcases h.1 with h0 | h0 | ⟨h0, _⟩
   ·exact .inl h0
   ·exact .inr (.inl h0)
   ·exact absurd h0 hK
  ·show 1 + 0 + (0 + (1 + x.N.an + x.N.am + sumN (fun j => partsT (x.sub j)) x.k)) ≤ 4000
   have := h.2
   omega
theorem pick_ok {A : Tree} {d : Nat} (h : RightT A d) (hp : partsT A ≤ 4000) {i : Nat} (hi : i < cellsT A ∨ rankT A = 0) (hm : 0 < cellsT A) : CellOk (pickT A (i : Int)) d := by
 obtain _ | ⟨S, n, sh, m, L, K, C, N, k, sub⟩ := A
 ·exact h.elim
 have hm' : 0 < m := hm
 have key : ∀ j, j < m → CellOk ⟨L j, K j, N j, C j, k j, sub j⟩ d := fun j hj => by
  refine ⟨h.2 j hj, ?_⟩
  have h1 := sumN_one (fun i => 1 + (N i).an + (N i).am + sumN (fun j => partsT (sub i j)) (k i)) hj
  have h1' : 1 + (N j).an + (N j).am + sumN (fun j' => partsT (sub j j')) (k j) ≤ sumN (fun i => 1 + (N i).an + (N i).am + sumN (fun j => partsT (sub i j)) (k i)) m := h1
  have h2 : 1 + n + sumN (fun i => 1 + (N i).an + (N i).am + sumN (fun j => partsT (sub i j)) (k i)) m ≤ 4000 := hp
  show 2 + (N j).an + (N j).am + sumN (fun j' => partsT (sub j j')) (k j) ≤ 4000
  omega
 show CellOk (if n = 0 ∧ 0 < m then _ else _) d
 by_cases h0 : n = 0 ∧ 0 < m
 ·rw [if_pos h0]; exact key 0 h0.2
 ·rw [if_neg h0]
  have hn : n ≠ 0 := fun e => h0 ⟨e, hm'⟩
  have hi' : i < m := by
   rcases hi with h | h
   ·exact h
   ·exact absurd h hn
  rw [if_neg (by omega)]
  exact key i hi'
def CellResQ (E : Int) (D : CellD) (Q0 : Nat → Prop) (w : World) (e : Ending) (w' : World) : Prop :=
 (∃ (v : Nat → Value) (D' : CellD), e = .returned (.tuple #[.agg #[v 0, v 1, v 2, v 3, v 4, v 5, v 6], .int .i64 E]) ∧ CellNQ w' (Prov Q0 w) D' v ∧ (E = 0 → D' = D)) ∧ Below w.heap.size w w'
theorem CellNQ.form {w : World} {Q : Nat → Prop} {c : CellD} {e : Nat → Value} (h : CellNQ w Q c e) : ∃ (bo co io : Option Addr) (bc cc kc : Nat),
  (Value.agg #[.int .u64 c.L, .int .i64 c.K, .bool c.N.neg, .slice bo c.N.an bc, .slice co c.N.am cc, .int .i64 c.C, .slice io c.k kc]) = .agg #[e 0, e 1, e 2, e 3, e 4, e 5, e 6] ∧
  IsL c.L ∧ IsZ c.K ∧ NumQ w Q c.N (.bool c.N.neg) (.slice bo c.N.an bc) (.slice co c.N.am cc) ∧ IsZ c.C ∧ IsN c.k kc ∧ RowQ w Q io c.k (fun j d0 d1 d2 => ArrQ w Q (c.sub j) d0 d1 d2) := by
 obtain ⟨h0, hL, h1, hK, ⟨h2, ⟨ao, ac, h3, ha⟩, ⟨bo, bc, h4, hb⟩⟩, h5, hC, io, kc, h6, hk, hrow⟩ := h
 exact ⟨ao, bo, io, ac, bc, kc, by rw [h0, h1, h2, h3, h4, h5, h6], hL, hK, ⟨rfl, ⟨ao, ac, rfl, ha⟩, ⟨bo, bc, rfl, hb⟩⟩, hC, hk, hrow⟩
theorem CellNQ.made {w : World} {Q : Nat → Prop} {c : CellD} {l : Nat} {kk cc : Int} {z0 z1 z2 : Value} {io : Option Addr} {kc : Nat} (h1 : c.L = l) (hL : IsL c.L) (h2 : c.K = kk) (hK : IsZ c.K) (hN : NumQ w Q c.N z0 z1 z2) (h3 : c.C = cc) (hC : IsZ c.C) {kn : Nat} (h4 : c.k = kn) (hk : IsN c.k kc) (hr : RowQ w Q io c.k (fun j d0 d1 d2 => ArrQ w Q (c.sub j) d0 d1 d2)) :
  CellNQ w Q c (fun q => [Value.int .u64 l, .int .i64 kk, z0, z1, z2, .int .i64 cc, .slice io kn kc].getD q undef) := by
 subst h1; subst h2; subst h3; subst h4
 exact ⟨rfl, hL, rfl, hK, hN, rfl, hC, io, kc, rfl, hk, hr⟩
end Go.Proofs.YtaepelipkkmeaaaGreat
namespace Go.Proofs.YtaepelipkkmeaaaGreat
open Go.RowKit Num
theorem heap_set7' {w : World} {B b : Nat} (h : b ≠ B) (u0 u1 u2 u3 u4 u5 u6 : Value) : (((((((w.setCell ⟨B, 0, none⟩ u0).setCell ⟨B, 1, none⟩ u1).setCell ⟨B, 2, none⟩ u2).setCell ⟨B, 3, none⟩ u3).setCell ⟨B, 4, none⟩ u4).setCell ⟨B, 5, none⟩ u5).setCell ⟨B, 6, none⟩ u6).heap[b]? = w.heap[b]? := by
 rw [Below.heap_setCell _ _ _ _ h, Below.heap_setCell _ _ _ _ h, Below.heap_setCell _ _ _ _ h, Below.heap_setCell _ _ _ _ h, Below.heap_setCell _ _ _ _ h, Below.heap_setCell _ _ _ _ h, Below.heap_setCell _ _ _ _ h]
theorem num_zero10 (w : World) (Q : Nat → Prop) : NumQ w Q zeroN (.bool false) (.slice none 0 0) (.slice none 0 0) :=
 ⟨rfl, ⟨none, 0, rfl, ⟨Nat.le_refl _, by decide, by decide⟩, .inl rfl, fun j hj => absurd hj (Nat.not_lt_zero _)⟩, ⟨none, 0, rfl, ⟨Nat.le_refl _, by decide, by decide⟩, .inl rfl, fun j hj => absurd hj (Nat.not_lt_zero _)⟩⟩
theorem isz_zero : IsZ 0 := ⟨by decide, by decide⟩
theorem isn_zero : IsN 0 0 := ⟨Nat.le_refl _, by decide, by decide⟩
theorem ArrQ.laterQ {w w' : World} {Q : Nat → Prop} {A : Tree} {c0 c1 c2 : Value} (h : ArrQ w Q A c0 c1 c2) (hb : Below w.heap.size w w') : ArrQ w' Q A c0 c1 c2 := ArrQ.keep (fun b _ hlt => hb.block b hlt) (fun _ hq _ => hq) _ _ _ _ h
theorem CellNQ.later {w w' : World} {Q : Nat → Prop} {c : CellD} {e : Nat → Value} (h : CellNQ w Q c e) (hb : Below w.heap.size w w') : CellNQ w' Q c e := CellQ.keep h (fun b _ hlt => hb.block b hlt) (fun _ hq _ => hq) fun _ _ _ _ hd => ArrQ.keep (fun b _ hlt => hb.block b hlt) (fun _ hq _ => hq) _ _ _ _ hd
theorem truth_small (b : Bool) : (truthZ b).natAbs < pw 32 ∧ 1 < pw 32 := ⟨Nat.lt_of_le_of_lt (by cases b <;> decide) one_lt, one_lt⟩
end Go.Proofs.YtaepelipkkmeaaaGreat
namespace Go.Proofs.YtaepelipkkmeaaaGreat
open Go.RowKit Num Go.ChangeShapes
section
variable {H : Type} {enc : TypeId × Value → H} {P : Program} {W : World}
theorem weights_all {e : TypeId} {y : DataW H} : ∀ {ds : List (DataW H)}, y ∈ ds → ∀ k ∈ y.weights P e, k ∈ DataW.weightsAll P e ds
 | d :: r, h, k, hk => by
  simp only [DataW.weightsAll, List.mem_append]
  rcases List.mem_cons.1 h with rfl | h
  ·exact .inl hk
  ·exact .inr (weights_all h k hk)
theorem row_open {t e : TypeId} {sz fuel : Nat} {c : Value} {x : DataW H × List MemPlace} (ht : P.underlying t = some (.slice e)) (hc : P.cellsOf e = sz) (hs : 0 < sz) (hb : 0 < P.bytesOf e)
  (h : DataW.trod enc P W 0 (fun _ => true) true fuel t [c] = some x) (hw : ∀ k ∈ x.1.weights P t, k ≤ reachBytes) :
  ∃ ao n nc, c = .slice ao n nc ∧ IsN n nc ∧ (n = 0 ∨ ∃ b o, ao = some ⟨b, o, none⟩ ∧ ∀ i, i < n → ∃ m cs y, m < fuel ∧ cs.length = sz ∧ (∀ j, j < sz → W.cell? ⟨b, o + i * sz + j, none⟩ = cs[j]?) ∧
   DataW.trod enc P W 0 (fun _ => true) true m e cs = some y ∧ ∀ k ∈ y.1.weights P e, k ≤ reachBytes) := by
 rcases DataW.trod_slice ht h with ⟨h0, _⟩ | ⟨a, len, cap, elems, rest, n, hf, h1, rfl, _, hl, hm, hlen, hel, hsp, _⟩
 ·obtain rfl : c = .slice none 0 0 := by simpa using h0
  exact ⟨none, 0, 0, rfl, ⟨Nat.le_refl _, by decide, by decide⟩, .inl rfl⟩
 ·obtain rfl : c = .slice (some a) len cap := by simpa using h1
  obtain ⟨hrl, _⟩ := hsp rfl
  have hwt : (elems.length + rest.length) * P.bytesOf e ≤ reachBytes := hw _ (by simp [DataW.weights, ht])
  have hcap : cap ≤ reachBytes := by
   rw [hlen, hrl, show len + (cap - len) = cap by omega] at hwt
   exact Nat.le_trans (Nat.le_mul_of_pos_right _ hb) hwt
  have hr : reachBytes < 140737488355328 := reachBytes_lt
  refine ⟨some a, len, cap, rfl, ⟨hl, by unfold maxLen at hm; omega, by omega⟩, ?_⟩
  by_cases h0 : len = 0
  ·exact .inl h0
  have each : ∀ i, i < len → ∃ cs y, y ∈ elems ∧ cs.length = sz ∧ (∀ j, j < sz → W.cell? ((a.add (i * sz)).add j) = cs[j]?) ∧ DataW.trod enc P W 0 (fun _ => true) true n e cs = some y := by
   intro i hi
   have h2 := hel i hi
   have hi' : i < elems.length := by omega
   rw [List.getElem?_eq_getElem hi', hc, Option.bind_eq_some_iff] at h2
   obtain ⟨cs, hcs, hy⟩ := h2
   obtain ⟨_, q1, q2⟩ := World.cells?_some hcs
   exact ⟨cs, _, List.getElem_mem hi', q1, q2, hy⟩
  obtain ⟨b, o, spot⟩ := a
  have hspot : spot = none := by
   obtain ⟨cs, y, _, q1, q2, _⟩ := each 0 (by omega)
   have q3 := q2 0 hs
   rw [List.getElem?_eq_getElem (by omega)] at q3
   simpa [Addr.add] using World.cell?_spot q3
  subst hspot
  refine .inr ⟨b, o, rfl, fun i hi => ?_⟩
  obtain ⟨cs, y, hm, q1, q2, q3⟩ := each i hi
  refine ⟨n, cs, y, by omega, q1, fun j hj => by rw [← q2 j hj, Go.WideShapes.add_plain, Go.WideShapes.add_plain], q3, fun k hk => hw k ?_⟩
  simp only [DataW.weights, ht, List.mem_cons, List.mem_append]
  exact .inr (.inl (weights_all (List.mem_map_of_mem hm) k hk))
theorem pick {α : Type} (d : α) {n : Nat} {p : Nat → α → Prop} (h : ∀ i, i < n → ∃ a, p i a) : ∃ f : Nat → α, ∀ i, i < n → p i (f i) := by
 refine ⟨fun i => if hi : i < n then Classical.choose (h i hi) else d, fun i hi => ?_⟩
 show p i (if hi : i < n then Classical.choose (h i hi) else d)
 rw [dif_pos hi]
 exact Classical.choose_spec (h i hi)
theorem weights_agg {t : TypeId} {fs : Array Field} {parts : List (DataW H)} (ht : P.underlying t = some (.struct fs)) (hw : ∀ k ∈ (DataW.agg parts).weights P t, k ≤ reachBytes) {j : Nat} {f : Field} {d : DataW H} (hf : fs[j]? = some f) (hd : parts[j]? = some d) : ∀ k ∈ d.weights P f.type, k ≤ reachBytes := by
 intro k hk
 refine hw k ?_
 simp only [DataW.weights, ht]
 exact DataW.weights_mem_each (j := j) (by simp [hf]) hd k hk
theorem struct_open {t : TypeId} {fs : Array Field} {fuel : Nat} {cs : List Value} {x : DataW H × List MemPlace} (ht : P.underlying t = some (.struct fs)) (h : DataW.trod enc P W 0 (fun _ => true) true fuel t cs = some x) (hw : ∀ k ∈ x.1.weights P t, k ≤ reachBytes) :
  ∃ n, n < fuel ∧ cs.length = P.cellsOf t ∧ ∀ (i : Nat) (f : Field), fs[i]? = some f → ∃ y, DataW.trod enc P W 0 (fun _ => true) true n f.type ((cs.drop f.offset).take (P.cellsOf f.type)) = some y ∧ ∀ k ∈ y.1.weights P f.type, k ≤ reachBytes := by
 obtain ⟨xs, n, hf, rfl, hl, hlen, hx⟩ := DataW.trod_struct ht h
 refine ⟨n, by omega, hl, fun i f hi => ?_⟩
 have hi' : i < xs.length := by rw [hlen]; exact (Array.getElem?_eq_some_iff.1 hi).1
 have h1 := hx i f hi
 rw [List.getElem?_eq_getElem hi'] at h1
 exact ⟨_, h1, weights_agg ht hw hi (by rw [List.getElem?_map, List.getElem?_eq_getElem hi']; rfl)⟩
end
variable {H : Type} {enc : TypeId × Value → H} {W : World}
theorem ints_in {fuel : Nat} {c : Value} {x : DataW H × List MemPlace} (h : DataW.trod enc Tryz.prog W 0 (fun _ => true) true fuel 27 [c] = some x) (hw : ∀ k ∈ x.1.weights Tryz.prog 27, k ≤ reachBytes) :
  ∃ ao n nc, c = .slice ao n nc ∧ IsN n nc ∧ ∃ f : Nat → Int, SlZ W ao n f ∧ ∀ j, j < n → IsZ (f j) := by
 obtain ⟨ao, n, nc, rfl, hn, hr⟩ := row_open Tryz.underlying27 (show Tryz.prog.cellsOf 3 = 1 by kernel_rfl) (by decide) (show 0 < Tryz.prog.bytesOf 3 from of_decide_eq_true (by kernel_rfl)) h hw
 refine ⟨ao, n, nc, rfl, hn, ?_⟩
 rcases hr with h0 | ⟨b, o, rfl, hr⟩
 ·exact ⟨fun _ => 0, .inl h0, fun j hj => by omega⟩
 ·obtain ⟨f, hf⟩ := pick (0 : Int) (p := fun i v => W.cell? ⟨b, o + i, none⟩ = some (.int .i64 v) ∧ IsZ v) fun i hi => by
   obtain ⟨m, cs, y, _, _, q2, q3, _⟩ := hr i hi
   obtain ⟨v, rfl, rfl, hv⟩ := DataW.trod_int Tryz.underlying3 q3
   have q4 := q2 0 (by decide)
   exact ⟨v, by simpa using q4, bounds_i64 hv⟩
  exact ⟨f, .inr ⟨b, o, rfl, fun j hj => (hf j hj).1⟩, fun j hj => (hf j hj).2⟩
theorem limbs_came {fuel : Nat} {c : Value} {x : DataW H × List MemPlace} (h : DataW.trod enc Tryz.prog W 0 (fun _ => true) true fuel 22 [c] = some x) (hw : ∀ k ∈ x.1.weights Tryz.prog 22, k ≤ reachBytes) :
  ∃ n f ao ac, c = .slice ao n ac ∧ IsN n ac ∧ Sl W ao n f ∧ Lim f n := by
 obtain ⟨ao, n, nc, rfl, hn, hr⟩ := row_open Tryz.underlying22 (show Tryz.prog.cellsOf 104 = 1 by kernel_rfl) (by decide) (show 0 < Tryz.prog.bytesOf 104 from of_decide_eq_true (by kernel_rfl)) h hw
 rcases hr with h0 | ⟨b, o, rfl, hr⟩
 ·exact ⟨n, fun _ => 0, ao, nc, rfl, hn, .inl h0, fun j hj => by omega⟩
 ·obtain ⟨f, hf⟩ := pick (0 : Nat) (p := fun i v => W.cell? ⟨b, o + i, none⟩ = some (.int .u32 (v : Nat)) ∧ v < 4294967296) fun i hi => by
   obtain ⟨m, cs, y, _, _, q2, q3, _⟩ := hr i hi
   obtain ⟨v, rfl, rfl, hv⟩ := DataW.trod_int Tryz.underlying104 q3
   have q4 := q2 0 (by decide)
   have q5 := bounds_u32 hv
   exact ⟨v.toNat, by rw [Int.toNat_of_nonneg q5.1]; simpa using q4, by omega⟩
  exact ⟨n, f, _, nc, rfl, hn, .inr ⟨b, o, rfl, fun j hj => (hf j hj).1⟩, fun j hj => (hf j hj).2⟩
theorem three_of {cs : List Value} (h : cs.length = 3) : ∃ c0 c1 c2, cs = [c0, c1, c2] := by
 match cs, h with
 | [c0, c1, c2], _ => exact ⟨c0, c1, c2, rfl⟩
theorem num_in {fuel : Nat} {c0 c1 c2 : Value} {x : DataW H × List MemPlace} (h : DataW.trod enc Tryz.prog W 0 (fun _ => true) true fuel 24 [c0, c1, c2] = some x) (hw : ∀ k ∈ x.1.weights Tryz.prog 24, k ≤ reachBytes) : ∃ N, NumP W N c0 c1 c2 := by
 obtain ⟨n, _, _, hf⟩ := struct_open Tryz.underlying24 h hw
 obtain ⟨y0, h0, _⟩ := hf 0 _ rfl
 obtain ⟨y1, h1, w1⟩ := hf 1 _ rfl
 obtain ⟨y2, h2, w2⟩ := hf 2 _ rfl
 have kb : Tryz.prog.cellsOf 4 = 1 := by kernel_rfl
 have ks : Tryz.prog.cellsOf 22 = 1 := by kernel_rfl
 have h0' : DataW.trod enc Tryz.prog W 0 (fun _ => true) true n 4 [c0] = some y0 := by simpa [kb] using h0
 have h1' : DataW.trod enc Tryz.prog W 0 (fun _ => true) true n 22 [c1] = some y1 := by simpa [ks] using h1
 have h2' : DataW.trod enc Tryz.prog W 0 (fun _ => true) true n 22 [c2] = some y2 := by simpa [ks] using h2
 obtain ⟨b, e0, _⟩ := DataW.trod_bool Tryz.underlying4 h0'
 obtain rfl : c0 = .bool b := by simpa using e0
 obtain ⟨an, fa, ao, ac, rfl, q1⟩ := limbs_came h1' w1
 obtain ⟨am, ga, bo, bc, rfl, q2⟩ := limbs_came h2' w2
 exact ⟨⟨b, an, fa, am, ga⟩, rfl, ⟨ao, ac, rfl, q1⟩, ⟨bo, bc, rfl, q2⟩⟩
end Go.Proofs.YtaepelipkkmeaaaGreat
namespace Go.Proofs.YtaepelipkkmeaaaGreat
open Go.RowKit Num
def scalarT (c : CellD) : Tree := .arr 0 0 (fun _ => 0) 1 (fun _ => c.L) (fun _ => c.K) (fun _ => c.C) (fun _ => c.N) (fun _ => c.k) (fun _ => c.sub)
end Go.Proofs.YtaepelipkkmeaaaGreat
namespace Go.Proofs.YtaepelipkkmeaaaGreat
open Go.RowKit Num
theorem right_form {A : Tree} {d : Nat} (h : RightT A d) : Shape (shapeT A) (rankT A) ((cellsT A : Nat) : Int) := by
 obtain _ | ⟨S, n, sh, m, L, K, C, N, k, sub⟩ := A
 ·exact h.elim
 ·exact h.1
theorem conf_ok {A B : Tree} {d : Nat} (hA : RightT A d) (hB : RightT B d) (hc : confE (rankT A) (shapeT A) (rankT B) (shapeT B) = 0) :
  Shape (if rankT A = 0 then shapeT B else shapeT A) (if rankT A = 0 then rankT B else rankT A) (((if rankT A = 0 then cellsT B else cellsT A) : Nat) : Int) ∧
  ∀ i, i < (if rankT A = 0 then cellsT B else cellsT A) → (i < cellsT A ∨ rankT A = 0) ∧ 0 < cellsT A ∧ (i < cellsT B ∨ rankT B = 0) ∧ 0 < cellsT B := by
 have sA := right_form hA
 have sB := right_form hB
 by_cases h0 : rankT A = 0
 ·rw [if_pos h0, if_pos h0, if_pos h0]
  refine ⟨sB, fun i hi => ⟨.inr h0, by have := sA.only h0; omega, .inl hi, by omega⟩⟩
 ·rw [if_neg h0, if_neg h0, if_neg h0]
  refine ⟨sA, fun i hi => ⟨.inl hi, by omega, ?_⟩⟩
  unfold confE at hc
  rw [if_neg h0] at hc
  by_cases g0 : rankT B = 0
  ·exact ⟨.inr g0, by have := sB.only g0; omega⟩
  ·rw [if_neg g0] at hc
   by_cases hr : rankT A = rankT B
   ·rw [if_neg (by omega)] at hc
    by_cases hj : ∀ j, j < rankT A → shapeT A j = shapeT B j
    ·have e1 := sA.all; have e2 := sB.all
     rw [prodZ_congr _ hj, hr, ← e2] at e1
     exact ⟨.inl (by omega), by omega⟩
    ·rw [if_neg hj] at hc; exact absurd hc (by decide)
   ·rw [if_pos hr] at hc; exact absurd hc (by decide)
end Go.Proofs.YtaepelipkkmeaaaGreat
namespace Go.Proofs.YtaepelipkkmeaaaGreat
open Go.RowKit Num
theorem ArrQ.top {w : World} {Q : Nat → Prop} {A : Tree} {c0 c1 c2 : Value} (h : ArrQ w Q A c0 c1 c2) : ∃ (ao co : Option Addr) (nc mc : Nat), c0 = .int .u64 (labT A) ∧ c1 = .slice ao (rankT A) nc ∧ c2 = .slice co (cellsT A) mc ∧
  IsL (labT A) ∧ IsN (rankT A) nc ∧ SlZQ w Q ao (rankT A) (shapeT A) ∧ (∀ j, j < rankT A → IsZ (shapeT A j)) ∧ IsN (cellsT A) mc := by
 obtain _ | ⟨S, n, sh, m, L, K, C, N, k, sub⟩ := A
 ·exact (ArrQ.leaf h).elim
 obtain ⟨h0, h1, ⟨ao, nc, h2, h3, h4, h5⟩, co, mc, h6, h7, _⟩ := h
 exact ⟨ao, co, nc, mc, h0, h2, h6, h1, h3, h4, h5, h7⟩
noncomputable def twoF (f : Int) (d : Nat) (A B : Tree) : CellF := fun i w Q e => CellNQ w Q (twoD f (pickT A (i : Int)) (pickT B (i : Int)) (twoT f d (innerT (pickT A (i : Int))) (innerT (pickT B (i : Int))))) e
theorem twoF_keep (f : Int) (d : Nat) (A B : Tree) : KeepF (twoF f d A B) := fun _ _ _ _ _ _ h hk hq => CellQ.keep h hk hq fun _ d0 d1 d2 hd => ArrQ.keep hk hq _ d0 d1 d2 hd
theorem CellResQ.form {E : Int} {D : CellD} {Q0 : Nat → Prop} {w w' : World} {e : Ending} (h : CellResQ E D Q0 w e w') : ∃ (D' : CellD) (p1 p2 p3 : Option Addr) (c1 c2 c3 : Nat),
  e = .returned (.tuple #[.agg #[.int .u64 D'.L, .int .i64 D'.K, .bool D'.N.neg, .slice p1 D'.N.an c1, .slice p2 D'.N.am c2, .int .i64 D'.C, .slice p3 D'.k c3], .int .i64 E]) ∧
  CellNQ w' (Prov Q0 w) D' (fun q => [Value.int .u64 D'.L, .int .i64 D'.K, .bool D'.N.neg, .slice p1 D'.N.an c1, .slice p2 D'.N.am c2, .int .i64 D'.C, .slice p3 D'.k c3].getD q undef) ∧ (E = 0 → D' = D) ∧ Below w.heap.size w w' := by
 obtain ⟨⟨v, D', rfl, hv, hD⟩, hb⟩ := h
 obtain ⟨h0, hL, h1, hK, ⟨h2, ⟨ao, ac, h3, ha⟩, ⟨bo, bc, h4, hb'⟩⟩, h5, hC, io, kc, h6, hk, hrow⟩ := hv
 rw [h0, h1, h2, h3, h4, h5, h6]
 exact ⟨D', ao, bo, io, ac, bc, kc, rfl, ⟨rfl, hL, rfl, hK, ⟨rfl, ⟨ao, ac, rfl, ha⟩, ⟨bo, bc, rfl, hb'⟩⟩, rfl, hC, io, kc, rfl, hk, hrow⟩, hD, hb⟩
theorem CellQPost.form {c : CellD} {Q : Nat → Prop} {w w' : World} {e : Ending} (h : CellQPost c Q w e w') : ∃ (p1 p2 p3 : Option Addr) (c1 c2 c3 : Nat),
  e = .returned (.agg #[.int .u64 c.L, .int .i64 c.K, .bool c.N.neg, .slice p1 c.N.an c1, .slice p2 c.N.am c2, .int .i64 c.C, .slice p3 c.k c3]) ∧
  CellNQ w' Q c (fun q => [Value.int .u64 c.L, .int .i64 c.K, .bool c.N.neg, .slice p1 c.N.an c1, .slice p2 c.N.am c2, .int .i64 c.C, .slice p3 c.k c3].getD q undef) ∧ Below w.heap.size w w' := by
 obtain ⟨v, rfl, hv, hb⟩ := h
 obtain ⟨h0, hL, h1, hK, ⟨h2, ⟨ao, ac, h3, ha⟩, ⟨bo, bc, h4, hb'⟩⟩, h5, hC, io, kc, h6, hk, hrow⟩ := hv
 rw [h0, h1, h2, h3, h4, h5, h6]
 exact ⟨ao, bo, io, ac, bc, kc, rfl, ⟨rfl, hL, rfl, hK, ⟨rfl, ⟨ao, ac, rfl, ha⟩, ⟨bo, bc, rfl, hb'⟩⟩, rfl, hC, io, kc, rfl, hk, hrow⟩, hb⟩
theorem prov_ne {Q0 : Nat → Prop} {w wa : World} {b E : Nat} (hb : Prov (fun b => Q0 b ∧ b < w.heap.size) wa b) (hs : Shut wa E) (hE : w.heap.size ≤ E) : b ≠ E := by
 have h1 := hs.1
 rcases hb with k | k | k
 ·have := k.2; omega
 ·omega
 ·exact hs.ne k
end Go.Proofs.YtaepelipkkmeaaaGreat
namespace Go.Proofs.YtaepelipkkmeaaaGreat
open Go.RowKit Num
def ResP (E : Int) (T : Tree) (w : World) (e : Ending) (w' : World) : Prop :=
 ∃ d0 d1 d2, e = .returned (.tuple #[.agg #[d0, d1, d2], .int .i64 E]) ∧ ArrP w' (resT E T) d0 d1 d2 ∧ Below w.heap.size w w'
theorem ResQ.plain {E : Int} {T : Tree} {Q0 : Nat → Prop} {w w' : World} {e : Ending} (h : ResQ E T Q0 w e w') : ResP E T w e w' := by
 obtain ⟨⟨d0, d1, d2, rfl, hA⟩, hb⟩ := h
 exact ⟨d0, d1, d2, rfl, ArrQ.plain _ _ _ _ hA, hb⟩
theorem ResP.form {E : Int} {T : Tree} {w w' : World} {e : Ending} (h : ResP E T w e w') : ∃ (S n nc m mc : Nat) (ao co : Option Addr),
  e = .returned (.tuple #[.agg #[.int .u64 S, .slice ao n nc, .slice co m mc], .int .i64 E]) ∧ ArrP w' (resT E T) (.int .u64 S) (.slice ao n nc) (.slice co m mc) ∧ Below w.heap.size w w' := by
 obtain ⟨d0, d1, d2, rfl, hA, hb⟩ := h
 obtain ⟨S, n, nc, m, mc, ao, co, rfl, rfl, rfl⟩ := (ArrP.within _ _ _ _ hA).form
 exact ⟨S, n, nc, m, mc, ao, co, rfl, hA, hb⟩
def TwoSC : Prop := ∀ (f : Int) (A B : Tree) (c0 c1 c2 d0 d1 d2 : Value) (w : World), IsZ f → ArrP w A c0 c1 c2 → ArrP w B d0 d1 d2 → FewT A → FewT B → RightT A 8 → RightT B 8 → Calls Tryz.prog 29 #[.int .i64 f, .agg #[c0, c1, c2], .agg #[d0, d1, d2]] w (ResP (twoR f 9 A B) (twoT f 9 A B) w)
end Go.Proofs.YtaepelipkkmeaaaGreat
namespace Go.Proofs.YtaepelipkkmeaaaGreat
open Go.RowKit Num
theorem ArrP.later {w w' : World} {A : Tree} {c0 c1 c2 : Value} (h : ArrP w A c0 c1 c2) (hb : Below w.heap.size w w') : ArrP w' A c0 c1 c2 := ArrP.below _ _ _ _ h hb
theorem CellR.later {w w' : World} {c : CellD} {e : Nat → Value} (h : CellR w c e) (hb : Below w.heap.size w w') : CellR w' c e := CellP.below h hb fun _ _ _ _ _ hd => hd.later hb
def OfZ (N : NumF) (n : Int) : Prop := N.neg = decide (n < 0) ∧ Canon n.natAbs N.an N.fa ∧ Canon 1 N.am N.ga
def IntCell (n : Int) (w : World) (e : Ending) (w' : World) : Prop := ∃ N, OfZ N n ∧ CellPost ⟨0, 0, N, 0, 0, fun _ => .leaf⟩ w e w'
def vecT (m : Nat) (cs : Nat → CellD) : Tree := .arr 0 1 (fun _ => m) m (fun i => (cs i).L) (fun i => (cs i).K) (fun i => (cs i).C) (fun i => (cs i).N) (fun i => (cs i).k) (fun i => (cs i).sub)
def CellsP (w : World) (co : Option Addr) (m : Nat) (cs : Nat → CellD) : Prop := m = 0 ∨ ∃ b o, co = some ⟨b, o, none⟩ ∧ ∀ i, i < m → ∃ e : Nat → Value, (∀ t, t < 7 → w.cell? ⟨b, o + i * 7 + t, none⟩ = some (e t)) ∧ CellR w (cs i) e
def ScalarC : Prop := ∀ (c : CellD) (e : Nat → Value) (w : World), CellR w c e → partsT (scalarT c) ≤ 5000 → Calls Tryz.prog 46 #[.agg #[e 0, e 1, e 2, e 3, e 4, e 5, e 6]] w (TreePost (scalarT c) w)
def IntAC : Prop := ∀ (n : Int) (w : World), IsZ n → Calls Tryz.prog 44 #[.int .i64 n] w (IntCell n w)
def VectorC : Prop := ∀ (cs : Nat → CellD) (co : Option Addr) (m mc : Nat) (w : World), IsN m mc → CellsP w co m cs → partsT (vecT m cs) ≤ 5000 → Calls Tryz.prog 45 #[.slice co m mc] w (TreePost (vecT m cs) w)
end Go.Proofs.YtaepelipkkmeaaaGreat
namespace Go.Proofs.YtaepelipkkmeaaaGreat
open Go.RowKit Num
theorem CellPost.form {c : CellD} {w w' : World} {e : Ending} (h : CellPost c w e w') : ∃ (bo co io : Option Addr) (bc cc kc : Nat),
  e = .returned (.agg #[.int .u64 c.L, .int .i64 c.K, .bool c.N.neg, .slice bo c.N.an bc, .slice co c.N.am cc, .int .i64 c.C, .slice io c.k kc]) ∧
  CellR w' c (fun t => (#[.int .u64 c.L, .int .i64 c.K, .bool c.N.neg, .slice bo c.N.an bc, .slice co c.N.am cc, .int .i64 c.C, .slice io c.k kc] : Array Value).getD t (.bool false)) ∧ Below w.heap.size w w' := by
 obtain ⟨v, rfl, hv, hb⟩ := h
 obtain ⟨h0, hL, h1, hK, ⟨h2, ⟨ao, ac, h3, ha⟩, ⟨bo, bc, h4, hb'⟩⟩, h5, hC, io, kc, h6, hk, hrow⟩ := hv
 rw [h0, h1, h2, h3, h4, h5, h6]
 exact ⟨ao, bo, io, ac, bc, kc, rfl, ⟨rfl, hL, rfl, hK, ⟨rfl, ⟨ao, ac, rfl, ha⟩, ⟨bo, bc, rfl, hb'⟩⟩, rfl, hC, io, kc, rfl, hk, hrow⟩, hb⟩
theorem TreePost.form {T : Tree} {w w' : World} {e : Ending} (h : TreePost T w e w') : ∃ (S n nc m mc : Nat) (ao co : Option Addr),
  e = .returned (.agg #[.int .u64 S, .slice ao n nc, .slice co m mc]) ∧ ArrP w' T (.int .u64 S) (.slice ao n nc) (.slice co m mc) ∧ Below w.heap.size w w' := by
 obtain ⟨d0, d1, d2, rfl, hA, hb⟩ := h
 obtain ⟨S, n, nc, m, mc, ao, co, rfl, rfl, rfl⟩ := (ArrP.within _ _ _ _ hA).form
 exact ⟨S, n, nc, m, mc, ao, co, rfl, hA, hb⟩
theorem OfZ.few {N : NumF} {n : Int} (h : OfZ N n) (hz : n.natAbs < pw 1) : N.an ≤ 1 ∧ N.am ≤ 1 := ⟨h.2.1.len_le hz, h.2.2.len_le (by decide)⟩
theorem CellsP.later {w w' : World} {co : Option Addr} {m : Nat} {cs : Nat → CellD} (h : CellsP w co m cs) (hb : Below w.heap.size w w') : CellsP w' co m cs := by
 rcases h with h | ⟨b, o, rfl, h⟩
 ·exact .inl h
 ·refine .inr ⟨b, o, rfl, fun i hi => ?_⟩
  obtain ⟨e, h1, h2⟩ := h i hi
  exact ⟨e, fun t ht => cell_below (h1 t ht) hb, h2.later hb⟩
theorem cell_aside {w : World} {B b t : Nat} {x : Int} {p q : Option Addr} {np cp nq cq : Nat} {v : Value} (z : Box3 w B (.int .u64 x) (.slice p np cp) (.slice q nq cq)) (u0 u1 u2 : Value) (h : w.cell? ⟨b, t, none⟩ = some v)
  (hv : t = 0 → b = B → v ≠ .int .u64 x) (hs : t = 1 ∨ t = 2 → ∀ a n c, v ≠ .slice a n c) : (((w.setCell ⟨B, 0, none⟩ u0).setCell ⟨B, 1, none⟩ u1).setCell ⟨B, 2, none⟩ u2).cell? ⟨b, t, none⟩ = some v := by
 have ne : ∀ j, ¬ (b = B ∧ t = j) → (⟨b, t, none⟩ : Addr) ≠ ⟨B, j, none⟩ := fun j hn e => hn (by injection e with e1 e2; exact ⟨e1, e2⟩)
 have n0 : ¬ (b = B ∧ t = 0) := fun ⟨e1, e2⟩ => by
  subst e1; subst e2
  have := h.symm.trans z.c0
  injection this with e
  exact hv rfl rfl e
 have n1 : ¬ (b = B ∧ t = 1) := fun ⟨e1, e2⟩ => by
  subst e1; subst e2
  have := h.symm.trans z.c1
  injection this with e
  exact hs (.inl rfl) _ _ _ e
 have n2 : ¬ (b = B ∧ t = 2) := fun ⟨e1, e2⟩ => by
  subst e1; subst e2
  have := h.symm.trans z.c2
  injection this with e
  exact hs (.inr rfl) _ _ _ e
 rw [cell_set_ne (ne 2 n2), cell_set_ne (ne 1 n1), cell_set_ne (ne 0 n0)]
 exact h
def AsideP (w w' : World) (B : Nat) (x : Int) : Prop := ∀ (b t : Nat) (v : Value), w.cell? ⟨b, t, none⟩ = some v → (t = 0 → b = B → v ≠ .int .u64 x) → (t = 1 ∨ t = 2 → ∀ a n c, v ≠ .slice a n c) → w'.cell? ⟨b, t, none⟩ = some v
theorem aside_three {w : World} {B : Nat} {x : Int} {p q : Option Addr} {np cp nq cq : Nat} (z : Box3 w B (.int .u64 x) (.slice p np cp) (.slice q nq cq)) (u0 u1 u2 : Value) : AsideP w (((w.setCell ⟨B, 0, none⟩ u0).setCell ⟨B, 1, none⟩ u1).setCell ⟨B, 2, none⟩ u2) B x :=
 fun _ _ _ h hv hs => cell_aside z u0 u1 u2 h hv hs
theorem ArrP.aside_flat {w w' : World} {B S n m : Nat} {sh : Nat → Int} {L : Nat → Nat} {K C : Nat → Int} {N : Nat → NumF} {k : Nat → Nat} {sub : Nat → Nat → Tree} {c0 c1 c2 : Value} (h : ArrP w (.arr S n sh m L K C N k sub) c0 c1 c2) (hk : ∀ i, i < m → k i = 0)
  {x : Int} {p q : Option Addr} {np cp nq cq : Nat} (z : Box3 w B (.int .u64 x) (.slice p np cp) (.slice q nq cq)) (H : AsideP w w' B x) : ArrP w' (.arr S n sh m L K C N k sub) c0 c1 c2 := by
 have hi : ∀ {b t : Nat} {i : Int}, w.cell? ⟨b, t, none⟩ = some (.int .i64 i) → w'.cell? ⟨b, t, none⟩ = some (.int .i64 i) := fun h => H _ _ _ h (fun _ _ e => by cases e) fun _ _ _ _ e => by cases e
 have hl : ∀ {b t : Nat} {i : Int}, w.cell? ⟨b, t, none⟩ = some (.int .u32 i) → w'.cell? ⟨b, t, none⟩ = some (.int .u32 i) := fun h => H _ _ _ h (fun _ _ e => by cases e) fun _ _ _ _ e => by cases e
 have hS : ∀ {ao : Option Addr} {n : Nat} {f : Nat → Nat}, Sl w ao n f → Sl w' ao n f := by
  rintro ao n f (h | ⟨b, off, rfl, h⟩)
  ·exact .inl h
  ·exact .inr ⟨b, off, rfl, fun j hj => hl (h j hj)⟩
 obtain ⟨h0, h1, ⟨ao, nc, h2, h3, h4, h5⟩, co, mc, h6, h7, h8⟩ := h
 refine ⟨h0, h1, ⟨ao, nc, h2, h3, ?_, h5⟩, co, mc, h6, h7, ?_⟩
 ·rcases h4 with h4 | ⟨b, off, rfl, h4⟩
  ·exact .inl h4
  ·exact .inr ⟨b, off, rfl, fun j hj => hi (h4 j hj)⟩
 ·rcases h8 with h8 | ⟨b, o, rfl, h8⟩
  ·exact .inl h8
  ·refine .inr ⟨b, o, rfl, fun i hm => ?_⟩
   obtain ⟨e, h9, h10, hL, h11, hK, ⟨h12, ⟨ao', ac, h13, ha, hsa, hla⟩, ⟨bo, bc, h14, hb, hsb, hlb⟩⟩, h15, hC, io, kc, h16, hkk, hrow⟩ := h8 i hm
   refine ⟨e, fun t ht => ?_, h10, hL, h11, hK, ⟨h12, ⟨ao', ac, h13, ha, hS hsa, hla⟩, ⟨bo, bc, h14, hb, hS hsb, hlb⟩⟩, h15, hC, io, kc, h16, hkk, .inl (hk i hm)⟩
   refine H _ _ _ (h9 t ht) (fun e0 eb => ?_) (fun e12 a n c ee => ?_)
   ·subst eb
    have h1' := h9 1 (by decide)
    have : o + i * 7 = 0 ∧ t = 0 := by omega
    rw [this.1] at h1'
    have := h1'.symm.trans z.c1
    injection this with e
    rw [h11] at e
    cases e
   ·have : t = 0 ∨ t = 1 ∨ t = 2 := by omega
    rcases this with rfl | rfl | rfl
    ·rw [h10] at ee; cases ee
    ·rw [h11] at ee; cases ee
    ·rw [h12] at ee; cases ee
end Go.Proofs.YtaepelipkkmeaaaGreat
namespace Go.Proofs.YtaepelipkkmeaaaGreat
open Go.RowKit Num
def Awake10C : Prop := ∀ w : World, Calls Tryz.prog 16 #[] w (Tell (.bool true) w)
end Go.Proofs.YtaepelipkkmeaaaGreat
namespace Go.Proofs.YtaepelipkkmeaaaGreat
open Go.RowKit Num
attribute [local go_sem ↓] Go.wp_at_zero Go.wp_at_succ
theorem isWhole_not (ab : Bool) (ap aq : Option Addr) (an ac am ae : Nat) (w : World) (h : am ≠ 1) :
  Calls Tryz.prog 39 #[.agg #[.bool ab, .slice ap an ac, .slice aq am ae]] w (Tell (.bool false) w) := by
 have hd : ((am : Int) == 1) = false := by rw [beq_eq_false_iff_ne]; omega
 clear h
 go_enter Tryz.func39, Tryz.ntmps39
 go_wp2_with fail
 go_ret
 exact ⟨by simp, (Below.refl _ w).alloc (Nat.le_refl _) _⟩
theorem small4_not (ab : Bool) (ap aq : Option Addr) (an ac am ae : Nat) (w : World) (h : am ≠ 1) :
  Calls Tryz.prog 13 #[.agg #[.bool ab, .slice ap an ac, .slice aq am ae]] w (Tell (.tuple #[.int .i64 0, .bool false]) w) := by
 have h' := Lib.hid h
 clear h
 go_enter Tryz.func13, Tryz.ntmps13
 go_upto_region 1 with fail
 refine told_wp (fun w' => Below w.heap.size w w' ∧ Box3 w' w.heap.size (.bool ab) (.slice ap an ac) (.slice aq am ae)) ⟨(Below.refl _ _).alloc (Nat.le_refl _) _, Box3.new _ _ _ _ rfl⟩ ?_
 rintro w0 ⟨bb, X⟩
 have p0 := X.c0; have p1 := X.c1; have p2 := X.c2
 have bb' := Lib.hid bb
 clear X bb
 go_wp2_with fail
 refine (isWhole_not ab ap aq an ac am ae w0 h'.out).mono ?_
 rintro e v1 ⟨rfl, hb⟩
 have b1 := Lib.hid (below_then bb'.out (Nat.le_refl _) hb)
 clear hb p0 p1 p2
 go_wp2_with fail
 go_ret2
 exact ⟨rfl, b1.out⟩
def SmallPost (w : World) (e : Ending) (w' : World) : Prop := ∃ (k : Int) (r : Bool), IsZ k ∧ e = .returned (.tuple #[.int .i64 k, .bool r]) ∧ Below w.heap.size w w'
end Go.Proofs.YtaepelipkkmeaaaGreat
namespace Go.Proofs.YtaepelipkkmeaaaGreat
open Go.RowKit Num
def SomeBool (w : World) (e : Ending) (w' : World) : Prop := (∃ r : Bool, e = .returned (.bool r)) ∧ Below w.heap.size w w'
end Go.Proofs.YtaepelipkkmeaaaGreat
namespace Go.Proofs.YtaepelipkkmeaaaGreat
open Go.RowKit Num
theorem join_any (a b : Nat) (ha : IsL a) (hb : IsL b) (w : World) : Calls Tryz.prog 88 #[.int .u64 a, .int .u64 b] w fun e w' => e = .returned (.int .u64 (orL a b : Nat)) ∧ w = w' := by
 have h : bits .or .u64 (a : Int) (b : Int) = ((orL a b : Nat) : Int) := or64 a b ha hb
 go_enter Tryz.func88, Tryz.ntmps88
 go_wp2_with fail
 go_ret
 exact ⟨rfl, rfl⟩
end Go.Proofs.YtaepelipkkmeaaaGreat
namespace Go.Proofs.YtaepelipkkmeaaaGreat
open Go.RowKit Num
def LiesL (w : World) (ao : Option Addr) (L : List Value) : Prop := L = [] ∨ ∃ b o, ao = some ⟨b, o, none⟩ ∧ ∀ j u, L[j]? = some u → w.cell? ⟨b, o + j, none⟩ = some u
theorem LiesL.below {w w' : World} {ao : Option Addr} {L : List Value} (h : LiesL w ao L) (hb : Below w.heap.size w w') : LiesL w' ao L := by
 rcases h with h | ⟨b, o, e, h⟩
 ·exact .inl h
 ·exact .inr ⟨b, o, e, fun j u hu => cell_below (h j u hu) hb⟩
theorem wpList_append_lie {P : Program} {w : World} {ops : Array Oper} {rest : List Oper} {o : Oper} {a : Act} {Q : Exit → Act → World → Prop} (hgd : o.guard = none) (s x : Operand) (t : TypeId)
  (ho : o.op = .call { callee := .builtin .append, args := #[s, x], argTypes := #[t, t] })
  (base : Nat) (e : TypeId) (i : TypeInfo) (z : Value) (size bytes : Nat) (ht : P.underlying t = some (.slice e)) (hi : P.info? e = some i) (hz : i.zero = some z) (hsize : i.size = size) (hby : i.bytes = bytes) (hzs : z.cells.size = size) (hsz : 0 < size)
  (v : Value) (n : Nat) (xs : List Value) (hs : a.eval s = v) (hown : w.ownsRow base e size v n xs) (ad : Addr) (m c : Nat) (L : List Value) (hx : a.eval x = .slice (some ad) m c) (hl : L.length = m * size) (hf : LiesL w (some ad) L) (h1 : ∀ u ∈ L, u.oneCell' = true)
  (h63 : n + m ≤ maxLen) (hbytes : (n + m) * bytes ≤ 140737488355328) (hbase : base ≤ w.heap.size)
  (h : ∀ v' w', w'.ownsRow base e size v' (n + m) (xs ++ L) → w.grownBy w' v.ownBlock → wpList P ops Q rest (a.put o.dst v') w') : wpList P ops Q (o :: rest) a w := by
 refine wpList_plain hgd fun K hK => ?_
 have hnews : ∀ j u, L[j]? = some u → w.cell? (ad.add j) = some u := by
  intro j u hu
  rcases hf with h | ⟨b, off, e1, hc⟩
  ·rw [h] at hu; simp at hu
  ·cases e1
   rw [← hc j u hu, Addr.add_lit]
 obtain ⟨v', w', hr, h2, h3, _⟩ := run_append_own (P := P) w base t o.type e i z size bytes ht hi hz hsize hby hzs hsz v n xs hown ad m c L hl hnews h1 h63 hbytes hbase
 unfold Oper.wp execOp
 simp only [ho, resolve, invoke, builtin, Sem.run_bind, Sem.run_pure, Result.andThen_ok, List.map_toArray, List.map_cons, List.map_nil, hs, hx, hr]
 exact hK _ _ (h v' w' h2 h3)
structure Row (w : World) (B : Nat) (E : TypeId) (s : Nat) (ao : Option Addr) (n cap : Nat) (L : List Value) : Prop where
 own : w.ownsRow B E s (.slice ao n cap) n L
theorem Row.later {w w' : World} {B : Nat} {E : TypeId} {s : Nat} {ao : Option Addr} {n cap : Nat} {L : List Value} (h : Row w B E s ao n cap L) (hb : Below w.heap.size w w') : Row w' B E s ao n cap L := ⟨owns_later h.own hb⟩
def ClonePost (E : TypeId) (s n : Nat) (L : List Value) (w : World) (e : Ending) (w' : World) : Prop :=
 ∃ ao cap, e = .returned (.slice ao n cap) ∧ Row w' w.heap.size E s ao n cap L ∧ Below w.heap.size w w'
theorem clone_post {E : TypeId} {s n : Nat} {L : List Value} {w w' : World} {v : Value} (h : w'.ownsRow w.heap.size E s v n L) (hb : Below w.heap.size w w') : ClonePost E s n L w (.returned v) w' := by
 obtain ⟨ao, cap, rfl, _⟩ := own_form h
 exact ⟨ao, cap, rfl, ⟨h⟩, hb⟩
theorem lies_none {w : World} {L : List Value} (h : LiesL w none L) : L = [] := by
 rcases h with h | ⟨b, o, e, _⟩
 ·exact h
 ·cases e
theorem infoU32 : (Tryz.prog.info? 104).map (fun i => (i.zero, i.size, i.bytes)) = some (some (.int .u32 0), 1, 4) := by kernel_rfl
theorem eqlNilU (w : World) (a : Option Addr) (n c n' c' : Nat) : (binOp .eql 22 (.slice a n c) (.slice none n' c')).run Tryz.prog w = .ok (.bool a.isNone) w :=
 Lib.run_eql_slice_nil w _ _ a n c n' c' Tryz.underlying22
theorem cloneU_any (ao : Option Addr) (n nc : Nat) (L : List Value) (w : World) (hn : n ≤ 6000) (hl : L.length = n * 1) (hf : LiesL w ao L) (h1 : ∀ u ∈ L, u.oneCell' = true) :
  Calls Tryz.prog 148 #[.slice ao n nc] w (ClonePost 104 1 n L w) := by
 obtain ⟨iE, hi0, hz0, hz1, hz2⟩ := info_parts infoU32
 have hq := eqlNilU
 have hl' := Lib.hid hl; have h1' := Lib.hid h1
 cases ao with
 | none =>
  have e := lies_none hf
  have hn0 : n = 0 := by rw [e] at hl; simp at hl; omega
  subst hn0
  have e' := Lib.hid e
  clear hl hf h1 e
  go_enter Tryz.func148, Tryz.ntmps148
  go_wp2_with fail
  go_ret
  rw [e'.out]
  exact clone_post (World.ownsRow_nil _ _ _ _) (Below.refl _ _)
 | some ad =>
  have hf' := Lib.hid (hf.below (w' := w.alloc (.cells #[] 104)) ((Below.refl _ _).alloc (Nat.le_refl _) _))
  clear hl hf h1
  go_enter Tryz.func148, Tryz.ntmps148
  go_wp2_with (at_builtin; refine wpList_append_lie rfl (.tmp 5) (.tmp 6) 22 rfl w.heap.size 104 iE (.int .u32 0) 1 4 Tryz.underlying22 hi0 hz0 hz1 hz2 rfl (by decide) _ 0 [] rfl (World.ownsRow_made w #[] 0 (Nat.le_refl _) (Nat.zero_le _) rfl) ad n nc L rfl hl'.out hf'.out h1'.out (by unfold maxLen; omega) (by omega) (by simp) ?_)
  intro v' w1 hown hgr
  have ho1 := Lib.hid hown
  have hb1 := Lib.hid (((Below.refl _ w).alloc (Nat.le_refl _) _).grown hgr (by simp) (by intro k hk; simp [Value.ownBlock] at hk; omega))
  clear hown hgr hq
  go_wp2_with fail
  go_ret
  exact clone_post ho1.out hb1.out
theorem eqlNilI (w : World) (a : Option Addr) (n c n' c' : Nat) : (binOp .eql 27 (.slice a n c) (.slice none n' c')).run Tryz.prog w = .ok (.bool a.isNone) w :=
 Lib.run_eql_slice_nil w _ _ a n c n' c' Tryz.underlying27
theorem cloneI_any (ao : Option Addr) (n nc : Nat) (L : List Value) (w : World) (hn : n ≤ 6000) (hl : L.length = n * 1) (hf : LiesL w ao L) (h1 : ∀ u ∈ L, u.oneCell' = true) :
  Calls Tryz.prog 81 #[.slice ao n nc] w (ClonePost 3 1 n L w) := by
 obtain ⟨iE, hi0, hz0, hz1, hz2⟩ := info_parts info64
 have hq := eqlNilI
 have hl' := Lib.hid hl; have h1' := Lib.hid h1
 cases ao with
 | none =>
  have e := lies_none hf
  have hn0 : n = 0 := by rw [e] at hl; simp at hl; omega
  subst hn0
  have e' := Lib.hid e
  clear hl hf h1 e
  go_enter Tryz.func81, Tryz.ntmps81
  go_wp2_with fail
  go_ret
  rw [e'.out]
  exact clone_post (World.ownsRow_nil _ _ _ _) (Below.refl _ _)
 | some ad =>
  have hf' := Lib.hid (hf.below (w' := w.alloc (.cells #[] 3)) ((Below.refl _ _).alloc (Nat.le_refl _) _))
  clear hl hf h1
  go_enter Tryz.func81, Tryz.ntmps81
  go_wp2_with (at_builtin; refine wpList_append_lie rfl (.tmp 5) (.tmp 6) 27 rfl w.heap.size 3 iE (.int .i64 0) 1 8 Tryz.underlying27 hi0 hz0 hz1 hz2 rfl (by decide) _ 0 [] rfl (World.ownsRow_made w #[] 0 (Nat.le_refl _) (Nat.zero_le _) rfl) ad n nc L rfl hl'.out hf'.out h1'.out (by unfold maxLen; omega) (by omega) (by simp) ?_)
  intro v' w1 hown hgr
  have ho1 := Lib.hid hown
  have hb1 := Lib.hid (((Below.refl _ w).alloc (Nat.le_refl _) _).grown hgr (by simp) (by intro k hk; simp [Value.ownBlock] at hk; omega))
  clear hown hgr hq
  go_wp2_with fail
  go_ret
  exact clone_post ho1.out hb1.out
theorem eqlNilC (w : World) (a : Option Addr) (n c n' c' : Nat) : (binOp .eql 43 (.slice a n c) (.slice none n' c')).run Tryz.prog w = .ok (.bool a.isNone) w :=
 Lib.run_eql_slice_nil w _ _ a n c n' c' Tryz.underlying43
theorem cloneC_any (ao : Option Addr) (n nc : Nat) (L : List Value) (w : World) (hn : n ≤ 6000) (hl : L.length = n * 7) (hf : LiesL w ao L) (h1 : ∀ u ∈ L, u.oneCell' = true) :
  Calls Tryz.prog 145 #[.slice ao n nc] w (ClonePost 65 7 n L w) := by
 obtain ⟨iE, hi0, hz0, hz1, hz2⟩ := info_parts infoCell
 have hq := eqlNilC
 have hl' := Lib.hid hl; have h1' := Lib.hid h1
 cases ao with
 | none =>
  have e := lies_none hf
  have hn0 : n = 0 := by rw [e] at hl; simp at hl; omega
  subst hn0
  have e' := Lib.hid e
  clear hl hf h1 e
  go_enter Tryz.func145, Tryz.ntmps145
  go_wp2_with fail
  go_ret
  rw [e'.out]
  exact clone_post (World.ownsRow_nil _ _ _ _) (Below.refl _ _)
 | some ad =>
  have hf' := Lib.hid (hf.below (w' := w.alloc (.cells #[] 65)) ((Below.refl _ _).alloc (Nat.le_refl _) _))
  clear hl hf h1
  go_enter Tryz.func145, Tryz.ntmps145
  go_wp2_with (at_builtin; refine wpList_append_lie rfl (.tmp 5) (.tmp 6) 43 rfl w.heap.size 65 iE (.agg #[.int .u64 0, .int .i64 0, .bool false, .slice none 0 0, .slice none 0 0, .int .i64 0, .slice none 0 0]) 7 104 Tryz.underlying43 hi0 hz0 hz1 hz2 rfl (by decide) _ 0 [] rfl (World.ownsRow_made w #[] 0 (Nat.le_refl _) (Nat.zero_le _) rfl) ad n nc L rfl hl'.out hf'.out h1'.out (by unfold maxLen; omega) (by omega) (by simp) ?_)
  intro v' w1 hown hgr
  have ho1 := Lib.hid hown
  have hb1 := Lib.hid (((Below.refl _ w).alloc (Nat.le_refl _) _).grown hgr (by simp) (by intro k hk; simp [Value.ownBlock] at hk; omega))
  clear hown hgr hq
  go_wp2_with fail
  go_ret
  exact clone_post ho1.out hb1.out
theorem eqlNilA (w : World) (a : Option Addr) (n c n' c' : Nat) : (binOp .eql 63 (.slice a n c) (.slice none n' c')).run Tryz.prog w = .ok (.bool a.isNone) w :=
 Lib.run_eql_slice_nil w _ _ a n c n' c' Tryz.underlying63
theorem cloneA_any (ao : Option Addr) (n nc : Nat) (L : List Value) (w : World) (hn : n ≤ 6000) (hl : L.length = n * 3) (hf : LiesL w ao L) (h1 : ∀ u ∈ L, u.oneCell' = true) :
  Calls Tryz.prog 146 #[.slice ao n nc] w (ClonePost 45 3 n L w) := by
 obtain ⟨iE, hi0, hz0, hz1, hz2⟩ := info_parts infoArr
 have hq := eqlNilA
 have hl' := Lib.hid hl; have h1' := Lib.hid h1
 cases ao with
 | none =>
  have e := lies_none hf
  have hn0 : n = 0 := by rw [e] at hl; simp at hl; omega
  subst hn0
  have e' := Lib.hid e
  clear hl hf h1 e
  go_enter Tryz.func146, Tryz.ntmps146
  go_wp2_with fail
  go_ret
  rw [e'.out]
  exact clone_post (World.ownsRow_nil _ _ _ _) (Below.refl _ _)
 | some ad =>
  have hf' := Lib.hid (hf.below (w' := w.alloc (.cells #[] 45)) ((Below.refl _ _).alloc (Nat.le_refl _) _))
  clear hl hf h1
  go_enter Tryz.func146, Tryz.ntmps146
  go_wp2_with (at_builtin; refine wpList_append_lie rfl (.tmp 5) (.tmp 6) 63 rfl w.heap.size 45 iE (.agg #[.int .u64 0, .slice none 0 0, .slice none 0 0]) 3 56 Tryz.underlying63 hi0 hz0 hz1 hz2 rfl (by decide) _ 0 [] rfl (World.ownsRow_made w #[] 0 (Nat.le_refl _) (Nat.zero_le _) rfl) ad n nc L rfl hl'.out hf'.out h1'.out (by unfold maxLen; omega) (by omega) (by simp) ?_)
  intro v' w1 hown hgr
  have ho1 := Lib.hid hown
  have hb1 := Lib.hid (((Below.refl _ w).alloc (Nat.le_refl _) _).grown hgr (by simp) (by intro k hk; simp [Value.ownBlock] at hk; omega))
  clear hown hgr hq
  go_wp2_with fail
  go_ret
  exact clone_post ho1.out hb1.out
theorem Sl.lies {w : World} {ao : Option Addr} {n : Nat} {f : Nat → Nat} (h : Sl w ao n f) : LiesL w ao (limbCells f n) := by
 rcases h with h | ⟨b, o, e, h⟩
 ·subst h; exact .inl rfl
 ·refine .inr ⟨b, o, e, fun j u hu => ?_⟩
  have hj : j < n := by
   have := (List.getElem?_eq_some_iff.1 hu).1
   rwa [limbCells_length] at this
  rw [limbCells_get f n j hj] at hu
  rw [← hu]
  exact h j hj
theorem SlZ.lies {w : World} {ao : Option Addr} {n : Nat} {f : Nat → Int} (h : SlZ w ao n f) : LiesL w ao (intCells f n) := by
 rcases h with h | ⟨b, o, e, h⟩
 ·subst h; exact .inl rfl
 ·refine .inr ⟨b, o, e, fun j u hu => ?_⟩
  have hj : j < n := by
   have := (List.getElem?_eq_some_iff.1 hu).1
   rwa [intCells_length] at this
  rw [intCells_get f n j hj] at hu
  rw [← hu]
  exact h j hj
theorem intCells_one (f : Nat → Int) (n : Nat) : ∀ u ∈ intCells f n, u.oneCell' = true := by intro u hu; obtain ⟨x, _, rfl⟩ := List.mem_map.1 hu; rfl
theorem Row.slQ {w : World} {B : Nat} {E : TypeId} {ao : Option Addr} {n cap : Nat} {f : Nat → Nat} (h : Row w B E 1 ao n cap (limbCells f n)) (hn : n ≤ 6000) : IsN n cap ∧ SlQ w (B ≤ ·) ao n f := by
 obtain ⟨ao', cap', e, h1, h2, h3⟩ := own_form h.own
 injection e with e1 e2 e3
 subst e1; subst e3
 refine ⟨⟨h1, h2, by omega⟩, ?_⟩
 rcases h3 with h0 | ⟨g, rfl, _, hg, _⟩
 ·exact .inl h0
 ·refine .inr ⟨g, 0, rfl, hg, fun j hj => ?_⟩
  rw [Nat.zero_add, h.own.cellAt j (by omega), limbCells_get f n j hj]
theorem Row.slzQ {w : World} {B : Nat} {E : TypeId} {ao : Option Addr} {n cap : Nat} {f : Nat → Int} (h : Row w B E 1 ao n cap (intCells f n)) (hn : n ≤ 6000) : IsN n cap ∧ SlZQ w (B ≤ ·) ao n f := by
 obtain ⟨ao', cap', e, h1, h2, h3⟩ := own_form h.own
 injection e with e1 e2 e3
 subst e1; subst e3
 refine ⟨⟨h1, h2, by omega⟩, ?_⟩
 rcases h3 with h0 | ⟨g, rfl, _, hg, _⟩
 ·exact .inl h0
 ·refine .inr ⟨g, 0, rfl, hg, fun j hj => ?_⟩
  rw [Nat.zero_add, h.own.cellAt j (by omega), intCells_get f n j hj]
theorem heap_set3 {w : World} {B b : Nat} (h : b ≠ B) (u0 u1 u2 : Value) : (((w.setCell ⟨B, 0, none⟩ u0).setCell ⟨B, 1, none⟩ u1).setCell ⟨B, 2, none⟩ u2).heap[b]? = w.heap[b]? := by
 rw [Below.heap_setCell _ _ _ _ h, Below.heap_setCell _ _ _ _ h, Below.heap_setCell _ _ _ _ h]
theorem heap_set7 {w : World} {B b : Nat} (h : b ≠ B) (u0 u1 u2 u3 u4 u5 u6 : Value) : (((((((w.setCell ⟨B, 0, none⟩ u0).setCell ⟨B, 1, none⟩ u1).setCell ⟨B, 2, none⟩ u2).setCell ⟨B, 3, none⟩ u3).setCell ⟨B, 4, none⟩ u4).setCell ⟨B, 5, none⟩ u5).setCell ⟨B, 6, none⟩ u6).heap[b]? = w.heap[b]? := by
 rw [Below.heap_setCell _ _ _ _ h, Below.heap_setCell _ _ _ _ h, Below.heap_setCell _ _ _ _ h, Below.heap_setCell _ _ _ _ h, Below.heap_setCell _ _ _ _ h, Below.heap_setCell _ _ _ _ h, Below.heap_setCell _ _ _ _ h]
def NumNew (N : NumF) (w : World) (e : Ending) (w' : World) : Prop :=
 ∃ ao ac bo bc, e = .returned (.agg #[.bool N.neg, .slice ao N.an ac, .slice bo N.am bc]) ∧ NumQ w' (w.heap.size ≤ ·) N (.bool N.neg) (.slice ao N.an ac) (.slice bo N.am bc) ∧ Below w.heap.size w w'
theorem numAnew_any (N : NumF) (c0 c1 c2 : Value) (w : World) (h : NumP w N c0 c1 c2) (ha6 : N.an ≤ 6000) (hb6 : N.am ≤ 6000) :
  Calls Tryz.prog 104 #[.agg #[c0, c1, c2]] w (NumNew N w) := by
 obtain ⟨rfl, ⟨ao, ac, rfl, hn, hs, hl⟩, ⟨bo, bc, rfl, hm, hs', hl'⟩⟩ := h
 have n1 := hn.1; have n2 := hn.2.1; have m1 := hm.1; have m2 := hm.2.1
 have hsL := Lib.hid hs.lies; have htL := Lib.hid hs'.lies
 have hlim := Lib.hid hl; have hlim' := Lib.hid hl'
 have hx := (Box3.new (w := w) (B := w.heap.size) (.bool N.neg) (.slice ao N.an ac) (.slice bo N.am bc) 24 rfl).alloc (.cells #[.bool false, .slice none 0 0, .slice none 0 0] 24)
 have hy := Box3.new (w := w.alloc (.cells #[.bool N.neg, .slice ao N.an ac, .slice bo N.am bc] 24)) (B := w.heap.size + 1) (.bool false) (.slice none 0 0) (.slice none 0 0) 24 (by simp)
 have hbel := (((Below.refl w.heap.size w).alloc (Nat.le_refl _) (.cells #[.bool N.neg, .slice ao N.an ac, .slice bo N.am bc] 24)).alloc (by simp) (.cells #[.bool false, .slice none 0 0, .slice none 0 0] 24))
 clear hs hs' hl hl' hn hm
 go_enter Tryz.func104, Tryz.ntmps104
 go_upto_region 1 with fail
 refine told_wp (fun w' => Below w.heap.size w w' ∧ Box3 w' w.heap.size (.bool N.neg) (.slice ao N.an ac) (.slice bo N.am bc) ∧ Box3 w' (w.heap.size + 1) (.bool false) (.slice none 0 0) (.slice none 0 0)) ⟨hbel, hx, hy⟩ ?_
 clear hbel hx hy
 rintro w2 ⟨bb, x0, y0⟩
 have sa0 := True.intro
 go_region_held3 (fun w' => w'.cell? ⟨w.heap.size, 0, none⟩ = some (.bool N.neg) ∧ w'.cell? ⟨w.heap.size, 1, none⟩ = some (.slice ao N.an ac) ∧ w'.cell? ⟨w.heap.size, 2, none⟩ = some (.slice bo N.am bc))
  (first | with_reducible exact ⟨x0.drew.c0, x0.drew.c1, x0.drew.c2⟩ | with_reducible exact ⟨x0.c0, x0.c1, x0.c2⟩ | go_keep)
  (first
  | (go_at_call 148; clear sa0; have bb := bb.drew; have x0 := x0.drew; have y0 := y0.drew; refine (cloneU_any ao N.an ac (limbCells N.fa N.an) _ ha6 (by rw [limbCells_length, Nat.mul_one]) (hsL.out.below bb) (limbCells_one _ _)).mono ?_; rintro e w' ⟨po, pc, rfl, hr1, hb⟩; have hB1 := y0.lt; have bb := below_then bb (Nat.le_refl _) hb; have x0 := x0.later hb; have y0 := y0.later hb; clear hb; have sa1 := True.intro)
  | (go_at_call 148; clear sa1; refine (cloneU_any bo N.am bc (limbCells N.ga N.am) _ hb6 (by rw [limbCells_length, Nat.mul_one]) (htL.out.below bb) (limbCells_one _ _)).mono ?_; rintro e w' ⟨qo, qc, rfl, hr2, hb2⟩; have hB2 := y0.lt; have bb := below_then bb (Nat.le_refl _) hb2; have x0 := x0.later hb2; have y0 := y0.later hb2; have hr1 := hr1.later hb2; clear hb2; have q0 := y0.c0; have q1 := y0.c1; have q2 := y0.c2; have q3 := y0.fr 0; have q4 := y0.fr 1; have q5 := y0.fr 2; have sa2 := True.intro))
 have z := y0.set (.bool N.neg) (.slice po N.an pc) (.slice qo N.am qc)
 have e0 := z.c0; have e1 := z.c1; have e2 := z.c2
 have hbw := Lib.hid (below_set3 bb (B := w.heap.size + 1) (by omega) (.bool N.neg) (.slice po N.an pc) (.slice qo N.am qc))
 obtain ⟨hp1, hp2⟩ := hr1.slQ ha6
 obtain ⟨hq1, hq2⟩ := hr2.slQ hb6
 have hne := fun b (hb : w.heap.size + 1 < b) => heap_set3 (w := w') (B := w.heap.size + 1) (b := b) (by omega) (.bool N.neg) (.slice po N.an pc) (.slice qo N.am qc)
 have hres := Lib.hid (show NumQ (((w'.setCell ⟨w.heap.size + 1, 0, none⟩ (.bool N.neg)).setCell ⟨w.heap.size + 1, 1, none⟩ (.slice po N.an pc)).setCell ⟨w.heap.size + 1, 2, none⟩ (.slice qo N.am qc)) (w.heap.size ≤ ·) N (.bool N.neg) (.slice po N.an pc) (.slice qo N.am qc) from
  ⟨rfl, ⟨po, pc, rfl, hp1, hp2.keep (fun b hb _ => hne b (by omega)) (fun b hb _ => by omega), hlim.out⟩, ⟨qo, qc, rfl, hq1, hq2.keep (fun b hb _ => hne b (by omega)) (fun b hb _ => by omega), hlim'.out⟩⟩)
 clear z y0 bb hr1 hr2 hp1 hp2 hq1 hq2 hne
 go_wp2_with fail
 refine bodyPost_ret (v := .agg #[.bool N.neg, .slice po N.an pc, .slice qo N.am qc]) (by simp [results, Tryz.results104, go_sem, e0, e1, e2]) rfl ?_
 exact ⟨_, _, _, _, rfl, hres.out, hbw.out⟩
end Go.Proofs.YtaepelipkkmeaaaGreat
namespace Go.Proofs.YtaepelipkkmeaaaGreat
open Go.RowKit Num
inductive Md where
 | same
def Md.fn : Md → Value
 | .same => .func (.func 101) #[] #[]
def Md.g : Md → Nat → Nat
 | .same, x => x
def Md.Env (_ : World) : Md → Prop
 | _ => True
theorem Md.Env.later {w w' : World} {md : Md} (h : md.Env w) (_ : Below w.heap.size w w') : md.Env w' := h
theorem Md.g_is {w : World} {md : Md} (_ : md.Env w) {x : Nat} (hx : IsL x) : IsL (md.g x) := by
 cases md
 exact hx
def mapT (g : Nat → Nat) : Tree → Tree
 | .leaf => .leaf
 | .arr S n sh m L K C N k sub => .arr (g S) n sh m (fun i => g (L i)) K C N k (fun i j => mapT g (sub i j))
def mapC (g : Nat → Nat) (c : CellD) : CellD := ⟨g c.L, c.K, c.N, c.C, c.k, fun j => mapT g (c.sub j)⟩
def partsC (c : CellD) : Nat := 1 + c.N.an + c.N.am + sumN (fun j => partsT (c.sub j)) c.k
theorem map_same : ∀ A, mapT Md.same.g A = A := by
 intro A
 induction A with
 | leaf => rfl
 | arr S n sh m L K C N k sub ih =>
  have e : (fun i j => mapT Md.same.g (sub i j)) = sub := funext fun i => funext fun j => ih i j
  show Tree.arr S n sh m (fun i => L i) K C N k (fun i j => mapT Md.same.g (sub i j)) = _
  rw [e]
theorem mapC_same (c : CellD) : mapC Md.same.g c = c := by
 have e : (fun j => mapT Md.same.g (c.sub j)) = c.sub := funext fun j => map_same _
 show CellD.mk c.L c.K c.N c.C c.k (fun j => mapT Md.same.g (c.sub j)) = c
 rw [e]
theorem asItIs_any (x : Nat) (w : World) : Calls Tryz.prog 101 #[.int .u64 x] w (Tell (.int .u64 (Md.same.g x : Nat)) w) := by
 go_enter Tryz.func101, Tryz.ntmps101
 go_wp2_with fail
 go_ret
 exact ⟨rfl, Below.refl _ _⟩
def CellRQ (w : World) (Q : Nat → Prop) (c : CellD) (e : Nat → Value) : Prop := CellQ w Q c.L c.K c.N c.C c.k (fun j d0 d1 d2 => ArrQ w Q (c.sub j) d0 d1 d2) e
def CellsQ (w : World) (Q : Nat → Prop) (co : Option Addr) (m : Nat) (cs : Nat → CellD) : Prop :=
 m = 0 ∨ ∃ b o, co = some ⟨b, o, none⟩ ∧ Q b ∧ ∀ i, i < m → ∃ e : Nat → Value, (∀ t, t < 7 → w.cell? ⟨b, o + i * 7 + t, none⟩ = some (e t)) ∧ CellRQ w Q (cs i) e
theorem CellRQ.keep {w w' : World} {Q Q' : Nat → Prop} {c : CellD} {e : Nat → Value} (h : CellRQ w Q c e) (hk : ∀ b, Q b → b < w.heap.size → w'.heap[b]? = w.heap[b]?) (hq : ∀ b, Q b → b < w.heap.size → Q' b) : CellRQ w' Q' c e :=
 CellQ.keep h hk hq fun _ d0 d1 d2 hd => ArrQ.keep hk hq _ d0 d1 d2 hd
def TreeNew (T : Tree) (w : World) (e : Ending) (w' : World) : Prop := ∃ d0 d1 d2, e = .returned (.agg #[d0, d1, d2]) ∧ ArrQ w' (w.heap.size ≤ ·) T d0 d1 d2 ∧ Below w.heap.size w w'
def CellNew (c : CellD) (w : World) (e : Ending) (w' : World) : Prop := ∃ v : Nat → Value, e = .returned (.agg #[v 0, v 1, v 2, v 3, v 4, v 5, v 6]) ∧ CellRQ w' (w.heap.size ≤ ·) c v ∧ Below w.heap.size w w'
def CellsNew (m : Nat) (cs : Nat → CellD) (w : World) (e : Ending) (w' : World) : Prop := ∃ co mc, e = .returned (.slice co m mc) ∧ IsN m mc ∧ CellsQ w' (w.heap.size ≤ ·) co m cs ∧ Below w.heap.size w w'
def seven (v : Nat → Value) : List Value := [v 0, v 1, v 2, v 3, v 4, v 5, v 6]
theorem TreeNew.form {T : Tree} {w w' : World} {e : Ending} (h : TreeNew T w e w') : ∃ (S n nc m mc : Nat) (ao co : Option Addr),
  e = .returned (.agg #[.int .u64 S, .slice ao n nc, .slice co m mc]) ∧ ArrQ w' (w.heap.size ≤ ·) T (.int .u64 S) (.slice ao n nc) (.slice co m mc) ∧ Below w.heap.size w w' := by
 obtain ⟨d0, d1, d2, rfl, hA, hb⟩ := h
 obtain ⟨S, n, nc, m, mc, ao, co, rfl, rfl, rfl⟩ := hA.form
 exact ⟨S, n, nc, m, mc, ao, co, rfl, hA, hb⟩
theorem CellNew.form {c : CellD} {w w' : World} {e : Ending} (h : CellNew c w e w') : ∃ (bo co io : Option Addr) (bc cc kc : Nat),
  e = .returned (.agg #[.int .u64 c.L, .int .i64 c.K, .bool c.N.neg, .slice bo c.N.an bc, .slice co c.N.am cc, .int .i64 c.C, .slice io c.k kc]) ∧
  CellRQ w' (w.heap.size ≤ ·) c (fun q => [Value.int .u64 c.L, .int .i64 c.K, .bool c.N.neg, .slice bo c.N.an bc, .slice co c.N.am cc, .int .i64 c.C, .slice io c.k kc].getD q undef) ∧ Below w.heap.size w w' := by
 obtain ⟨v, rfl, hv, hb⟩ := h
 obtain ⟨h0, hL, h1, hK, ⟨h2, ⟨ao, ac, h3, ha⟩, ⟨bo, bc, h4, hb'⟩⟩, h5, hC, io, kc, h6, hk, hrow⟩ := hv
 rw [h0, h1, h2, h3, h4, h5, h6]
 exact ⟨ao, bo, io, ac, bc, kc, rfl, ⟨rfl, hL, rfl, hK, ⟨rfl, ⟨ao, ac, rfl, ha⟩, ⟨bo, bc, rfl, hb'⟩⟩, rfl, hC, io, kc, rfl, hk, hrow⟩, hb⟩
def ArrBy (md : Md) (A : Tree) : Prop := ∀ (c0 c1 c2 : Value) (w : World), ArrP w A c0 c1 c2 → md.Env w → partsT A ≤ 5000 → Calls Tryz.prog 147 #[.agg #[c0, c1, c2], md.fn] w (TreeNew (mapT md.g A) w)
def CellBy (md : Md) (c : CellD) : Prop := ∀ (e : Nat → Value) (w : World), CellR w c e → md.Env w → partsC c ≤ 5000 → Calls Tryz.prog 102 #[.agg #[e 0, e 1, e 2, e 3, e 4, e 5, e 6], md.fn] w (CellNew (mapC md.g c) w)
def CellsBy (md : Md) (m : Nat) (cs : Nat → CellD) : Prop := ∀ (co : Option Addr) (mc : Nat) (w : World), IsN m mc → CellsP w co m cs → md.Env w → m ≤ 5000 → (∀ i, i < m → partsC (cs i) ≤ 5000) → Calls Tryz.prog 100 #[.slice co m mc, md.fn] w (CellsNew m (fun i => mapC md.g (cs i)) w)
theorem rowsN_at {es : Nat → List Value} {s m : Nat} (hl : ∀ i, i < m → (es i).length = s) (hs : 0 < s) (j : Nat) (hj : j < m * s) : (rowsN es m)[j]? = (es (j / s))[j % s]? := by
 have e : j / s * s + j % s = j := by rw [Nat.mul_comm]; exact Nat.div_add_mod j s
 have hd : j / s < m := by rw [Nat.div_lt_iff_lt_mul hs]; exact hj
 have := rowsN_get m hl (j / s) (j % s) hd (Nat.mod_lt _ hs)
 rwa [e] at this
structure Mapped (P : CellF) (w wr : World) (E : TypeId) (s g : Nat) (ao : Option Addr) (m cap t : Nat) (es es0 : Nat → List Value) : Prop where
 row : wr.ownsRow w.heap.size E s (.slice ao m cap) m (rowsN es m)
 len : ∀ x, x < m → (es x).length = s
 done : ∀ x, x < t → P x wr (fun b => w.heap.size ≤ b ∧ b ≠ g) (fun q => (es x).getD q undef)
 todo : ∀ x, t ≤ x → x < m → es x = es0 x
 bel : Below w.heap.size w wr
theorem Mapped.later {P : CellF} (hP : KeepF P) {w wr w' : World} {E : TypeId} {s g : Nat} {ao : Option Addr} {m cap t : Nat} {es es0 : Nat → List Value} (h : Mapped P w wr E s g ao m cap t es es0) (hb : Below wr.heap.size wr w') : Mapped P w w' E s g ao m cap t es es0 :=
 ⟨owns_later h.row hb, h.len, fun x hx => hP x _ _ _ _ _ (h.done x hx) (fun b _ hlt => hb.block b hlt) (fun _ hq _ => hq), h.todo, h.bel.trans (hb.mono h.bel.size)⟩
theorem Mapped.put {P : CellF} (hP : KeepF P) {w wr W : World} {E : TypeId} {s g m cap t : Nat} {es es0 : Nat → List Value} (h : Mapped P w wr E s g (some ⟨g, 0, none⟩) m cap t es es0) (x : List Value) (hx : x.length = s) (hW : ∀ b, b ≠ g → W.heap[b]? = wr.heap[b]?)
  (hown : W.ownsRow w.heap.size E s (.slice (some ⟨g, 0, none⟩) m cap) m (rowsN (putL es t x) m)) (hbel : Below w.heap.size w W) (hnew : P t wr (fun b => w.heap.size ≤ b ∧ b ≠ g) (fun q => x.getD q undef)) :
  Mapped P w W E s g (some ⟨g, 0, none⟩) m cap (t + 1) (putL es t x) es0 := by
 refine ⟨hown, fun y hy => ?_, fun y hy => ?_, fun y hy1 hy2 => ?_, hbel⟩
 ·unfold putL; split
  ·exact hx
  ·exact h.len y hy
 ·by_cases e : y = t
  ·subst e
   unfold putL; rw [if_pos rfl]
   exact hP y _ _ _ _ _ hnew (fun b hq _ => hW b hq.2) (fun _ hq _ => hq)
  ·unfold putL; rw [if_neg e]
   exact hP y _ _ _ _ _ (h.done y (by omega)) (fun b hq _ => hW b hq.2) (fun _ hq _ => hq)
 ·unfold putL; rw [if_neg (by omega)]; exact h.todo y (by omega) hy2
theorem Mapped.cell {P : CellF} {w wr : World} {E : TypeId} {s g m cap t : Nat} {es es0 : Nat → List Value} (h : Mapped P w wr E s g (some ⟨g, 0, none⟩) m cap t es es0) {q : Nat} (ht : t < m) (hq : q < s) {v : Value} (hv : (es0 t)[q]? = some v) : wr.cell? ⟨g, t * s + q, none⟩ = some v := by
 have hlt : t * s + q < m * s := by
  have := Nat.mul_le_mul_right s (show t + 1 ≤ m by omega)
  rw [Nat.succ_mul] at this
  omega
 rw [h.row.cellAt _ hlt, rowsN_get m h.len t q ht hq, h.todo t (Nat.le_refl _) ht, hv]
theorem own_put7 {w : World} {B : Nat} {E : TypeId} {g m cap t : Nat} {es : Nat → List Value} (h : w.ownsRow B E 7 (.slice (some ⟨g, 0, none⟩) m cap) m (rowsN es m)) (hl : ∀ i, i < m → (es i).length = 7) (v0 v1 v2 v3 v4 v5 v6 : Value) :
  (((((((w.setCell ⟨g, t * 7, none⟩ v0).setCell ⟨g, t * 7 + 1, none⟩ v1).setCell ⟨g, t * 7 + 2, none⟩ v2).setCell ⟨g, t * 7 + 3, none⟩ v3).setCell ⟨g, t * 7 + 4, none⟩ v4).setCell ⟨g, t * 7 + 5, none⟩ v5).setCell ⟨g, t * 7 + 6, none⟩ v6).ownsRow B E 7 (.slice (some ⟨g, 0, none⟩) m cap) m (rowsN (putL es t [v0, v1, v2, v3, v4, v5, v6]) m) := by
 have k := ((((((((h.stored (t * 7) v0).1).stored (t * 7 + 1) v1).1).stored (t * 7 + 2) v2).1.stored (t * 7 + 3) v3).1.stored (t * 7 + 4) v4).1.stored (t * 7 + 5) v5).1.stored (t * 7 + 6) v6 |>.1
 have e : (((((((rowsN es m).set (t * 7) v0).set (t * 7 + 1) v1).set (t * 7 + 2) v2).set (t * 7 + 3) v3).set (t * 7 + 4) v4).set (t * 7 + 5) v5).set (t * 7 + 6) v6 = rowsN (putL es t [v0, v1, v2, v3, v4, v5, v6]) m := by
  have hl' : ∀ i, i < m → (putL es t [v0, v1, v2, v3, v4, v5, v6] i).length = 7 := fun i hi => by
   unfold putL; split
   ·rfl
   ·exact hl i hi
  have n1 := rowsN_length m hl; have n2 := rowsN_length m hl'
  refine List.ext_getElem? fun j => ?_
  by_cases hj : j < m * 7
  ·rw [rowsN_at hl' (by decide) j hj]
   have ho := rowsN_at hl (by decide) j hj
   have hjl : j < (rowsN es m).length := by omega
   by_cases hd : j / 7 = t
   ·have hr : j % 7 = 0 ∨ j % 7 = 1 ∨ j % 7 = 2 ∨ j % 7 = 3 ∨ j % 7 = 4 ∨ j % 7 = 5 ∨ j % 7 = 6 := by omega
    rw [hd]
    unfold putL
    rw [if_pos rfl]
    rcases hr with r | r | r | r | r | r | r
    ·have e : j = t * 7 := by omega
     rw [r]; subst e; simp only [List.getElem?_set, List.length_set]; simp [hjl]
    ·have e : j = t * 7 + 1 := by omega
     rw [r]; subst e; simp only [List.getElem?_set, List.length_set]; simp [hjl]
    ·have e : j = t * 7 + 2 := by omega
     rw [r]; subst e; simp only [List.getElem?_set, List.length_set]; simp [hjl]
    ·have e : j = t * 7 + 3 := by omega
     rw [r]; subst e; simp only [List.getElem?_set, List.length_set]; simp [hjl]
    ·have e : j = t * 7 + 4 := by omega
     rw [r]; subst e; simp only [List.getElem?_set, List.length_set]; simp [hjl]
    ·have e : j = t * 7 + 5 := by omega
     rw [r]; subst e; simp only [List.getElem?_set, List.length_set]; simp [hjl]
    ·have e : j = t * 7 + 6 := by omega
     rw [r]; subst e; simp only [List.getElem?_set, List.length_set]; simp [hjl]
   ·have hp : putL es t [v0, v1, v2, v3, v4, v5, v6] (j / 7) = es (j / 7) := by unfold putL; rw [if_neg hd]
    rw [hp, ← ho]
    simp only [List.getElem?_set]
    rw [if_neg (by omega), if_neg (by omega), if_neg (by omega), if_neg (by omega), if_neg (by omega), if_neg (by omega), if_neg (by omega)]
  ·rw [List.getElem?_eq_none (by simp only [List.length_set]; omega), List.getElem?_eq_none (by omega)]
 rw [e] at k
 exact k
theorem own_put3 {w : World} {B : Nat} {E : TypeId} {g m cap t : Nat} {es : Nat → List Value} (h : w.ownsRow B E 3 (.slice (some ⟨g, 0, none⟩) m cap) m (rowsN es m)) (hl : ∀ i, i < m → (es i).length = 3) (v0 v1 v2 : Value) :
  (((w.setCell ⟨g, t * 3, none⟩ v0).setCell ⟨g, t * 3 + 1, none⟩ v1).setCell ⟨g, t * 3 + 2, none⟩ v2).ownsRow B E 3 (.slice (some ⟨g, 0, none⟩) m cap) m (rowsN (putL es t [v0, v1, v2]) m) := by
 have k := ((((h.stored (t * 3) v0).1).stored (t * 3 + 1) v1).1).stored (t * 3 + 2) v2 |>.1
 have e : (((rowsN es m).set (t * 3) v0).set (t * 3 + 1) v1).set (t * 3 + 2) v2 = rowsN (putL es t [v0, v1, v2]) m := by
  have hl' : ∀ i, i < m → (putL es t [v0, v1, v2] i).length = 3 := fun i hi => by
   unfold putL; split
   ·rfl
   ·exact hl i hi
  have n1 := rowsN_length m hl; have n2 := rowsN_length m hl'
  refine List.ext_getElem? fun j => ?_
  by_cases hj : j < m * 3
  ·rw [rowsN_at hl' (by decide) j hj]
   have ho := rowsN_at hl (by decide) j hj
   have hjl : j < (rowsN es m).length := by omega
   by_cases hd : j / 3 = t
   ·have hr : j % 3 = 0 ∨ j % 3 = 1 ∨ j % 3 = 2 := by omega
    rw [hd]
    unfold putL
    rw [if_pos rfl]
    rcases hr with r | r | r
    ·have e : j = t * 3 := by omega
     rw [r]; subst e; simp only [List.getElem?_set, List.length_set]; simp [hjl]
    ·have e : j = t * 3 + 1 := by omega
     rw [r]; subst e; simp only [List.getElem?_set, List.length_set]; simp [hjl]
    ·have e : j = t * 3 + 2 := by omega
     rw [r]; subst e; simp only [List.getElem?_set, List.length_set]; simp [hjl]
   ·have hp : putL es t [v0, v1, v2] (j / 3) = es (j / 3) := by unfold putL; rw [if_neg hd]
    rw [hp, ← ho]
    simp only [List.getElem?_set]
    rw [if_neg (by omega), if_neg (by omega), if_neg (by omega)]
  ·rw [List.getElem?_eq_none (by simp only [List.length_set]; omega), List.getElem?_eq_none (by omega)]
 rw [e] at k
 exact k
theorem far7 {w : World} {g o b : Nat} (h : b ≠ g) (v0 v1 v2 v3 v4 v5 v6 : Value) :
  (((((((w.setCell ⟨g, o, none⟩ v0).setCell ⟨g, o + 1, none⟩ v1).setCell ⟨g, o + 2, none⟩ v2).setCell ⟨g, o + 3, none⟩ v3).setCell ⟨g, o + 4, none⟩ v4).setCell ⟨g, o + 5, none⟩ v5).setCell ⟨g, o + 6, none⟩ v6).heap[b]? = w.heap[b]? := by
 rw [Below.heap_setCell _ _ _ _ h, Below.heap_setCell _ _ _ _ h, Below.heap_setCell _ _ _ _ h, Below.heap_setCell _ _ _ _ h, Below.heap_setCell _ _ _ _ h, Below.heap_setCell _ _ _ _ h, Below.heap_setCell _ _ _ _ h]
theorem far3 {w : World} {g o b : Nat} (h : b ≠ g) (v0 v1 v2 : Value) : (((w.setCell ⟨g, o, none⟩ v0).setCell ⟨g, o + 1, none⟩ v1).setCell ⟨g, o + 2, none⟩ v2).heap[b]? = w.heap[b]? := by
 rw [Below.heap_setCell _ _ _ _ h, Below.heap_setCell _ _ _ _ h, Below.heap_setCell _ _ _ _ h]
theorem below_far7 {w w' : World} {A g o : Nat} (h : Below A w w') (hg : A ≤ g) (v0 v1 v2 v3 v4 v5 v6 : Value) :
  Below A w (((((((w'.setCell ⟨g, o, none⟩ v0).setCell ⟨g, o + 1, none⟩ v1).setCell ⟨g, o + 2, none⟩ v2).setCell ⟨g, o + 3, none⟩ v3).setCell ⟨g, o + 4, none⟩ v4).setCell ⟨g, o + 5, none⟩ v5).setCell ⟨g, o + 6, none⟩ v6) :=
 ((((((h.setCell (p := ⟨g, o, none⟩) hg v0).setCell (p := ⟨g, o + 1, none⟩) hg v1).setCell (p := ⟨g, o + 2, none⟩) hg v2).setCell (p := ⟨g, o + 3, none⟩) hg v3).setCell (p := ⟨g, o + 4, none⟩) hg v4).setCell (p := ⟨g, o + 5, none⟩) hg v5).setCell (p := ⟨g, o + 6, none⟩) hg v6
theorem below_far3 {w w' : World} {A g o : Nat} (h : Below A w w') (hg : A ≤ g) (v0 v1 v2 : Value) : Below A w (((w'.setCell ⟨g, o, none⟩ v0).setCell ⟨g, o + 1, none⟩ v1).setCell ⟨g, o + 2, none⟩ v2) :=
 ((h.setCell (p := ⟨g, o, none⟩) hg v0).setCell (p := ⟨g, o + 1, none⟩) hg v1).setCell (p := ⟨g, o + 2, none⟩) hg v2
theorem CellsP.vals {w : World} {co : Option Addr} {m : Nat} {cs : Nat → CellD} (h : CellsP w co m cs) : ∃ E : Nat → Nat → Value, (∀ i, i < m → CellR w (cs i) (E i)) ∧ LiesL w co (rowsN (fun i => seven (E i)) m) := by
 rcases h with rfl | ⟨b, o, rfl, h⟩
 ·exact ⟨fun _ _ => undef, fun i hi => by omega, .inl rfl⟩
 ·refine ⟨fun i => if hi : i < m then (h i hi).choose else fun _ => undef, fun i hi => ?_, .inr ⟨b, o, rfl, fun j u hu => ?_⟩⟩
  ·simp only [dif_pos hi]; exact (h i hi).choose_spec.2
  ·have hl : ∀ i, i < m → ((fun i => seven ((fun i => if hi : i < m then (h i hi).choose else fun _ => undef) i)) i).length = 7 := fun i hi => rfl
   have hj : j < m * 7 := by
    have := (List.getElem?_eq_some_iff.1 hu).1
    rwa [rowsN_length m hl] at this
   rw [rowsN_at hl (by decide) j hj] at hu
   have hd : j / 7 < m := by omega
   have hc := (h (j / 7) hd).choose_spec.1
   have e : o + j = o + j / 7 * 7 + j % 7 := by omega
   rw [e, hc (j % 7) (by omega), ← hu]
   simp only [dif_pos hd]
   have hr : j % 7 = 0 ∨ j % 7 = 1 ∨ j % 7 = 2 ∨ j % 7 = 3 ∨ j % 7 = 4 ∨ j % 7 = 5 ∨ j % 7 = 6 := by omega
   rcases hr with r | r | r | r | r | r | r <;> rw [r] <;> rfl
theorem CellR.ones {w : World} {c : CellD} {e : Nat → Value} (h : CellR w c e) : ∀ u ∈ seven e, u.oneCell' = true := by
 obtain ⟨h0, hL, h1, hK, ⟨h2, ⟨ao, ac, h3, ha⟩, ⟨bo, bc, h4, hb'⟩⟩, h5, hC, io, kc, h6, hk, hrow⟩ := h
 intro u hu
 unfold seven at hu
 rw [h0, h1, h2, h3, h4, h5, h6] at hu
 simp at hu
 rcases hu with rfl | rfl | rfl | rfl | rfl | rfl | rfl <;> rfl
theorem rows_ones {es : Nat → List Value} {m : Nat} (h : ∀ i, i < m → ∀ u ∈ es i, u.oneCell' = true) : ∀ u ∈ rowsN es m, u.oneCell' = true := by
 intro u hu
 obtain ⟨i, hi, hu⟩ := List.mem_flatMap.1 hu
 exact h i (List.mem_range.1 hi) u hu
def cellsF (cs : Nat → CellD) : CellF := fun x w Q e => CellRQ w Q (cs x) e
theorem cellsF_keep (cs : Nat → CellD) : KeepF (cellsF cs) := fun _ _ _ _ _ _ h hk hq => h.keep hk hq
end Go.Proofs.YtaepelipkkmeaaaGreat
namespace Go.Proofs.YtaepelipkkmeaaaGreat
open Go.RowKit Num
theorem Mapped.start {P : CellF} {w w' : World} {E : TypeId} {s g : Nat} {ao : Option Addr} {m cap : Nat} {es : Nat → List Value} (h : Row w' w.heap.size E s ao m cap (rowsN es m)) (hl : ∀ i, i < m → (es i).length = s) (hb : Below w.heap.size w w') : Mapped P w w' E s g ao m cap 0 es es :=
 ⟨h.own, hl, fun _ hx => absurd hx (Nat.not_lt_zero _), fun _ _ _ => rfl, hb⟩
theorem Mapped.cellsQ {w wr : World} {E : TypeId} {g m cap : Nat} {ao : Option Addr} {es es0 : Nat → List Value} {cs : Nat → CellD} (h : Mapped (cellsF cs) w wr E 7 g ao m cap m es es0) : CellsQ wr (w.heap.size ≤ ·) ao m cs := by
 obtain ⟨ao', cap', e, _, _, hf⟩ := own_form h.row
 injection e with e1 e2 e3
 subst e1; subst e3
 rcases hf with h0 | ⟨g', rfl, _, hg, _⟩
 ·exact .inl h0
 ·refine .inr ⟨g', 0, rfl, hg, fun i hi => ?_⟩
  refine ⟨fun q => (es i).getD q undef, fun q hq => ?_, (h.done i hi).keep (fun _ _ _ => rfl) fun _ hq _ => hq.1⟩
  have hlt : i * 7 + q < m * 7 := by omega
  rw [Nat.zero_add, h.row.cellAt (i * 7 + q) hlt, rowsN_get m h.len i q hi hq]
  show (es i)[q]? = some ((es i).getD q undef)
  have := h.len i hi
  rw [List.getD_eq_getElem?_getD, List.getElem?_eq_getElem (by omega)]
  rfl
theorem cellsBy_of (md : Md) (m : Nat) (cs : Nat → CellD) (hcs : ∀ i, i < m → CellBy md (cs i)) : CellsBy md m cs := by
 intro co mc w hm hc hE h50 hp
 obtain ⟨E, hE1, hE2⟩ := hc.vals
 have m1 := hm.1; have m2 := hm.2.1
 have hcs' := Lib.hid hcs; have hE1' := Lib.hid hE1; have hE2' := Lib.hid hE2; have hp' := Lib.hid hp; have hEnv := Lib.hid hE
 have hl : ∀ i, i < m → ((fun i => seven (E i)) i).length = 7 := fun _ _ => rfl
 obtain ⟨F, hF⟩ : ∃ F, F = md.fn := ⟨_, rfl⟩
 have hF' := Lib.hid hF
 rw [← hF]
 clear hcs hc hE hE1 hE2 hp hF hm
 go_enter Tryz.func100, Tryz.ntmps100
 go_wp2_with fail
 refine (cloneC_any co m mc (rowsN (fun i => seven (E i)) m) _ (by omega) (rowsN_length m hl) hE2'.out (rows_ones fun i hi => (hE1'.out i hi).ones)).mono ?_
 rintro e w1 ⟨ao, cap, rfl, hrow, hb1⟩
 obtain ⟨ao', cap', e', hcap1, hcap2, hform⟩ := own_form hrow.own
 injection e' with e1 e2 e3
 subst e1; subst e3
 obtain ⟨g, hg⟩ : ∃ g, m = 0 ∨ (ao = some ⟨g, 0, none⟩ ∧ w.heap.size ≤ g ∧ g < w1.heap.size) := by
  rcases hform with h | ⟨g, h1, _, h2, h3⟩
  ·exact ⟨0, .inl h⟩
  ·exact ⟨g, .inr ⟨h1, h2, h3⟩⟩
 have hP := cellsF_keep (fun i => mapC md.g (cs i))
 have hM0 := Lib.hid (Mapped.start (P := cellsF (fun i => mapC md.g (cs i))) (g := g) hrow hl hb1)
 have hg' := Lib.hid hg
 have hsz1 := Lib.hid (Nat.le_refl w1.heap.size)
 clear hform hrow hb1 hg
 go_wp2_with fail
 go_loopw [12] (fun i wr => ∃ (t : Nat) (es : Nat → List Value), t ≤ m ∧ i = .int .i64 t ∧ Hid (Mapped (cellsF (fun i => mapC md.g (cs i))) w wr 65 7 g ao m cap t es (fun i => seven (E i))) ∧ Hid (w1.heap.size ≤ wr.heap.size)) (fun i _ => m - (intOfZ i).toNat)
 case atStart => exact ⟨0, _, Nat.zero_le _, rfl, hM0, hsz1⟩
 case round =>
  obtain ⟨t, es, ht, rfl, hM, hsz⟩ := hrel
  clear hM0 hsz1
  by_cases hlt : t < m
  ·rcases hg'.out with h0 | ⟨rfl, hg1, hg2⟩
   ·omega
   have hR := hE1'.out t hlt
   have hRb := Lib.hid (hR.later hM.out.bel)
   obtain ⟨q0, qL, q1, qK, ⟨q2, ⟨a1, ac, q3, ha, _, _⟩, ⟨b1, bc, q4, hb', _, _⟩⟩, q5, qC, io, kc, q6, hk, _⟩ := hR
   have y0 := hM.out.cell (q := 0) hlt (by decide) (v := E t 0) rfl
   have y1 := hM.out.cell (q := 1) hlt (by decide) (v := E t 1) rfl
   have y2 := hM.out.cell (q := 2) hlt (by decide) (v := E t 2) rfl
   have y3 := hM.out.cell (q := 3) hlt (by decide) (v := E t 3) rfl
   have y4 := hM.out.cell (q := 4) hlt (by decide) (v := E t 4) rfl
   have y5 := hM.out.cell (q := 5) hlt (by decide) (v := E t 5) rfl
   have y6 := hM.out.cell (q := 6) hlt (by decide) (v := E t 6) rfl
   have hv := Lib.hid (show (Value.agg #[.int .u64 (cs t).L, .int .i64 (cs t).K, .bool (cs t).N.neg, .slice a1 (cs t).N.an ac, .slice b1 (cs t).N.am bc, .int .i64 (cs t).C, .slice io (cs t).k kc]) = .agg #[E t 0, E t 1, E t 2, E t 3, E t 4, E t 5, E t 6] from by rw [q0, q1, q2, q3, q4, q5, q6])
   have hq := Lib.hid (And.intro q0 (And.intro q1 (And.intro q2 (And.intro q3 (And.intro q4 (And.intro q5 q6))))))
   rw [q0, Nat.add_zero] at y0; rw [q1] at y1; rw [q2] at y2; rw [q3] at y3; rw [q4] at y4; rw [q5] at y5; rw [q6] at y6
   have hbz := (Below.refl wr.heap.size wr).alloc (Nat.le_refl _) (.cells #[.int .u64 (cs t).L, .int .i64 (cs t).K, .bool (cs t).N.neg, .slice a1 (cs t).N.an ac, .slice b1 (cs t).N.am bc, .int .i64 (cs t).C, .slice io (cs t).k kc] 65)
   have hM2 := hM.out.later hP hbz
   have hR2 := hRb.out.later hbz
   have hx7 := Box7.new (w := wr) (B := wr.heap.size) (.int .u64 (cs t).L) (.int .i64 (cs t).K) (.bool (cs t).N.neg) (.slice a1 (cs t).N.an ac) (.slice b1 (cs t).N.am bc) (.int .i64 (cs t).C) (.slice io (cs t).k kc) 65 rfl
   have hsz2 : w1.heap.size ≤ (wr.alloc (.cells #[.int .u64 (cs t).L, .int .i64 (cs t).K, .bool (cs t).N.neg, .slice a1 (cs t).N.an ac, .slice b1 (cs t).N.am bc, .int .i64 (cs t).C, .slice io (cs t).k kc] 65)).heap.size := Nat.le_trans hsz.out hbz.size
   obtain ⟨U, hU⟩ : ∃ U, U = wr.heap.size := ⟨_, rfl⟩
   clear q0 qL q1 qK q2 q3 q4 q5 qC q6 ha hb' hk
   go_upto_region 5 with fail
   rw [← hU] at hx7 ⊢
   refine told_wp (fun w' => Mapped (cellsF (fun i => mapC md.g (cs i))) w w' 65 7 g (some ⟨g, 0, none⟩) m cap t es (fun i => seven (E i)) ∧ CellR w' (cs t) (E t) ∧ Box7 w' U (.int .u64 (cs t).L) (.int .i64 (cs t).K) (.bool (cs t).N.neg) (.slice a1 (cs t).N.an ac) (.slice b1 (cs t).N.am bc) (.int .i64 (cs t).C) (.slice io (cs t).k kc) ∧ w1.heap.size ≤ w'.heap.size) ⟨hM2, hR2, hx7, hsz2⟩ ?_
   clear hM hRb hM2 hR2 hx7 hsz2 hbz y0 y1 y2 y3 y4 y5 y6 hU hsz
   rintro wa ⟨hMa, hRa, hxa, hsa⟩
   have g0 := hxa.c0; have g1 := hxa.c1; have g2 := hxa.c2; have g3 := hxa.c3; have g4 := hxa.c4; have g5 := hxa.c5; have g6 := hxa.c6
   have hM := Lib.hid hMa
   have hcall := Lib.hid (hcs'.out t hlt (E t) wa hRa (hEnv.out.later (by have := hMa.bel; exact this)) (hp'.out t hlt))
   have hga := Lib.hid (show g < wa.heap.size by omega)
   replace hcall := hcall.out
   rw [← hv.out, ← hF'.out] at hcall
   replace hcall := Lib.hid hcall
   clear hMa hRa hxa
   go_wp2_with fail
   refine hcall.out.mono ?_
   intro e w2 hnew
   obtain ⟨bo, co', io', bc', cc', kc', rfl, hres, hb2⟩ := hnew.form
   have hMb := hM.out.later hP hb2
   obtain ⟨q0, q1, q2, q3, q4, q5, q6⟩ := hq.out
   have y0 := hMb.cell (q := 0) hlt (by decide) (v := E t 0) rfl
   have y1 := hMb.cell (q := 1) hlt (by decide) (v := E t 1) rfl
   have y2 := hMb.cell (q := 2) hlt (by decide) (v := E t 2) rfl
   have y3 := hMb.cell (q := 3) hlt (by decide) (v := E t 3) rfl
   have y4 := hMb.cell (q := 4) hlt (by decide) (v := E t 4) rfl
   have y5 := hMb.cell (q := 5) hlt (by decide) (v := E t 5) rfl
   have y6 := hMb.cell (q := 6) hlt (by decide) (v := E t 6) rfl
   rw [q0, Nat.add_zero] at y0; rw [q1] at y1; rw [q2] at y2; rw [q3] at y3; rw [q4] at y4; rw [q5] at y5; rw [q6] at y6
   clear q0 q1 q2 q3 q4 q5 q6
   have f0 := hMb.row.frozenAt (t * 7); have f1 := hMb.row.frozenAt (t * 7 + 1); have f2 := hMb.row.frozenAt (t * 7 + 2); have f3 := hMb.row.frozenAt (t * 7 + 3)
   have f4 := hMb.row.frozenAt (t * 7 + 4); have f5 := hMb.row.frozenAt (t * 7 + 5); have f6 := hMb.row.frozenAt (t * 7 + 6)
   obtain ⟨X, hX⟩ : ∃ X : List Value, X = [.int .u64 (mapC md.g (cs t)).L, .int .i64 (mapC md.g (cs t)).K, .bool (mapC md.g (cs t)).N.neg, .slice bo (mapC md.g (cs t)).N.an bc', .slice co' (mapC md.g (cs t)).N.am cc', .int .i64 (mapC md.g (cs t)).C, .slice io' (mapC md.g (cs t)).k kc'] := ⟨_, rfl⟩
   have hfar := fun b (hb : b ≠ g) => far7 (w := w2) (o := t * 7) hb (.int .u64 (mapC md.g (cs t)).L) (.int .i64 (mapC md.g (cs t)).K) (.bool (mapC md.g (cs t)).N.neg) (.slice bo (mapC md.g (cs t)).N.an bc') (.slice co' (mapC md.g (cs t)).N.am cc') (.int .i64 (mapC md.g (cs t)).C) (.slice io' (mapC md.g (cs t)).k kc')
   have hput := own_put7 hMb.row hMb.len (t := t) (.int .u64 (mapC md.g (cs t)).L) (.int .i64 (mapC md.g (cs t)).K) (.bool (mapC md.g (cs t)).N.neg) (.slice bo (mapC md.g (cs t)).N.an bc') (.slice co' (mapC md.g (cs t)).N.am cc') (.int .i64 (mapC md.g (cs t)).C) (.slice io' (mapC md.g (cs t)).k kc')
   have hbel2 := below_far7 (o := t * 7) hMb.bel hg1 (.int .u64 (mapC md.g (cs t)).L) (.int .i64 (mapC md.g (cs t)).K) (.bool (mapC md.g (cs t)).N.neg) (.slice bo (mapC md.g (cs t)).N.an bc') (.slice co' (mapC md.g (cs t)).N.am cc') (.int .i64 (mapC md.g (cs t)).C) (.slice io' (mapC md.g (cs t)).k kc')
   have hM3 := Lib.hid (hMb.put hP _ rfl hfar hput hbel2 (hres.keep (fun _ _ _ => rfl) fun b hq _ => ⟨by have := hM.out.bel.size; omega, by have := hga.out; omega⟩))
   have hs3 := Lib.hid (show w1.heap.size ≤ _ from Nat.le_trans hsa (Nat.le_trans hb2.size (by simp [World.setCell] : w2.heap.size ≤ (((((((w2.setCell ⟨g, t * 7, none⟩ (.int .u64 (mapC md.g (cs t)).L)).setCell ⟨g, t * 7 + 1, none⟩ (.int .i64 (mapC md.g (cs t)).K)).setCell ⟨g, t * 7 + 2, none⟩ (.bool (mapC md.g (cs t)).N.neg)).setCell ⟨g, t * 7 + 3, none⟩ (.slice bo (mapC md.g (cs t)).N.an bc')).setCell ⟨g, t * 7 + 4, none⟩ (.slice co' (mapC md.g (cs t)).N.am cc')).setCell ⟨g, t * 7 + 5, none⟩ (.int .i64 (mapC md.g (cs t)).C)).setCell ⟨g, t * 7 + 6, none⟩ (.slice io' (mapC md.g (cs t)).k kc')).heap.size)))
   clear hX X hfar hput hbel2 hres hb2 hMb hM hcall hnew g0 g1 g2 g3 g4 g5 g6
   go_wp2_with fail
   go_roundw
   case rel => exact ⟨t + 1, _, by omega, by go_num, hM3, hs3⟩
   case measure => simp [intOfZ]; omega
  ·obtain rfl : t = m := by omega
   have hfin := Lib.hid hM.out.cellsQ
   have hbf := Lib.hid hM.out.bel
   go_wp2_with fail
   go_ret
   exact ⟨_, _, rfl, ⟨hcap1, hcap2, by omega⟩, hfin.out, hbf.out⟩
end Go.Proofs.YtaepelipkkmeaaaGreat
