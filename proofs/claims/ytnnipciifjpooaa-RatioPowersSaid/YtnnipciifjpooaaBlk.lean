/-
  Blocks of limbs that a call makes itself: 'Blk' (block b holds these limbs, none of them frozen), and what a store, a new block, a draw do to it; what a number in new memory is ('NumPost').
-/
import Derived.Test.YtnnipciifjpooaaProg
import Derived.Test.YtnnipciifjpooaaSl
import Derived.Laws.CopyOwn
namespace Go.Proofs.Ytnnipciifjpooaa
open Go.RowKit Num

theorem info32 : (Try.prog.info? 47).map (fun i => (i.zero, i.size, i.bytes)) = some (some (.int .u32 0), 1, 4) := by kernel_rfl

structure Blk (w : World) (b N : Nat) (F : Nat → Nat) : Prop where
  cell : ∀ j, j < N → w.cell? ⟨b, j, none⟩ = some (.int .u32 (F j))
  free : ∀ j, w.frozen? ⟨b, j, none⟩ = false

theorem Blk.lt {w : World} {b N : Nat} {F : Nat → Nat} (h : Blk w b N F) (hN : 0 < N) : b < w.heap.size := World.block_lt_of_cell? w _ (h.cell 0 hN)
theorem Blk.mono {w : World} {b N M : Nat} {F : Nat → Nat} (h : Blk w b N F) (hM : M ≤ N) : Blk w b M F := ⟨fun j hj => h.cell j (by omega), h.free⟩
theorem Blk.congr {w : World} {b N : Nat} {F G : Nat → Nat} (h : Blk w b N F) (e : ∀ j, j < N → F j = G j) : Blk w b N G := ⟨fun j hj => by rw [← e j hj]; exact h.cell j hj, h.free⟩

theorem Blk.of_made {w : World} {base g n : Nat} {e : TypeId} (h : w.ownsRow base e 1 (.slice (some ⟨g, 0, none⟩) n n) n (madeCells #[Value.int .u32 0] n).toList) : Blk w g n (fun _ => 0) := by
  refine ⟨fun j hj => ?_, fun j => h.frozenAt j⟩
  rw [h.cellAt j (by omega), toList_madeCells_one]
  simp [hj]

theorem Blk.set {w : World} {b N : Nat} {F : Nat → Nat} (h : Blk w b N F) (i : Nat) (hi : i < N) (v : Int) (x : Nat) (hv : v = (x : Int)) : Blk (w.setCell ⟨b, i, none⟩ (.int .u32 v)) b N (put F i x) := by
  subst hv
  refine ⟨fun j hj => ?_, fun j => by rw [World.frozen?_setCell]; exact h.free j⟩
  by_cases c : j = i
  · subst c
    rw [put_at]
    exact World.cell?_setCell_same _ _ _ (h.cell j hj)
  · rw [put_ne c, World.cell?_setCell_other _ _ _ _ (fun e => c (by injection e with _ e2; exact e2.symm))]
    exact h.cell j hj

/-- Nothing but block b has turned. -/
theorem grown_setCell {w w' : World} {b : Nat} (h : w.grownBy w' (some b)) (i : Nat) (v : Value) : w.grownBy (w'.setCell ⟨b, i, none⟩ v) (some b) :=
  ⟨h.os, h.tape, h.output, by simpa [World.setCell] using h.size, fun k hk hne => by
    rw [Below.heap_setCell _ _ _ _ (fun e => hne (by rw [e]))]; exact h.block k hk hne⟩
theorem grown_refl (w : World) (r : Option Nat) : w.grownBy w r := ⟨rfl, rfl, rfl, Nat.le_refl _, fun _ _ _ => rfl⟩
theorem grown_any {w w' : World} (h : w.grownBy w' none) (r : Option Nat) : w.grownBy w' r := ⟨h.os, h.tape, h.output, h.size, fun k hk _ => h.block k hk (fun e => by cases e)⟩
theorem grown_drewN {w w' : World} {r : Option Nat} (h : w.grownBy w' r) (n : Nat) : w.grownBy (w'.drewN n) r := ⟨h.os, h.tape, h.output, h.size, h.block⟩
theorem grown_drew {w w' : World} {r : Option Nat} (h : w.grownBy w' r) : w.grownBy w'.drew r := ⟨h.os, h.tape, h.output, h.size, h.block⟩
theorem grown_trans {w w' w'' : World} {r : Option Nat} (h : w.grownBy w' r) (k : w'.grownBy w'' r) : w.grownBy w'' r :=
  ⟨k.os.trans h.os, k.tape.trans h.tape, k.output.trans h.output, Nat.le_trans h.size k.size, fun i hi hn => (k.block i (Nat.lt_of_lt_of_le hi h.size) hn).trans (h.block i hi hn)⟩
theorem grown_below {w w' : World} {B b : Nat} (h : w.grownBy w' (some b)) (hB : B ≤ b) (hs : B ≤ w.heap.size) : Below B w w' :=
  ⟨h.os, h.tape, h.output, h.size, fun k hk => h.block k (by omega) (fun e => by cases e; omega)⟩

theorem Blk.drew {w : World} {b N : Nat} {F : Nat → Nat} (h : Blk w b N F) : Blk w.drew b N F := ⟨h.cell, h.free⟩
theorem Blk.drewN {w : World} {b N : Nat} {F : Nat → Nat} (h : Blk w b N F) (n : Nat) : Blk (w.drewN n) b N F := ⟨h.cell, h.free⟩
theorem Blk.kept {w w' : World} {b c N : Nat} {F : Nat → Nat} (h : Blk w b N F) (hN : b < w.heap.size) (hg : w.grownBy w' (some c)) (hne : b ≠ c) : Blk w' b N F := by
  have hb : w'.heap[b]? = w.heap[b]? := hg.block b hN (fun e => hne (by cases e; rfl))
  exact ⟨fun j hj => (World.cell?_of_block (w := w) hb).trans (h.cell j hj), fun j => (World.frozen?_of_block (w := w) hb).trans (h.free j)⟩
theorem Blk.below {w w' : World} {b N B : Nat} {F : Nat → Nat} (h : Blk w b N F) (hb : Below B w w') (hB : b < B) : Blk w' b N F :=
  ⟨fun j hj => (hb.cell (by exact hB)).trans (h.cell j hj), fun j => (hb.frozen (by exact hB)).trans (h.free j)⟩

theorem Sl.of_blk {w : World} {b N : Nat} {F : Nat → Nat} (h : Blk w b N F) (off n : Nat) (hn : off + n ≤ N) : Sl w (some ⟨b, off, none⟩) n (fun j => F (off + j)) := by
  by_cases c : n = 0
  · exact .inl c
  · exact .inr ⟨b, off, rfl, fun j hj => h.cell (off + j) (by omega)⟩
theorem Sl.of_blk0 {w : World} {b N : Nat} {F : Nat → Nat} (h : Blk w b N F) (n : Nat) (hn : n ≤ N) : Sl w (some ⟨b, 0, none⟩) n F := by
  by_cases c : n = 0
  · exact .inl c
  · exact .inr ⟨b, 0, rfl, fun j hj => by rw [Nat.zero_add]; exact h.cell j (by omega)⟩

/-- Where a slice lies: below block B, if it has any cell. -/
def InB (B : Nat) (ao : Option Addr) (n : Nat) : Prop := n = 0 ∨ ∀ a, ao = some a → a.block < B
theorem Sl.inB {w : World} {ao : Option Addr} {n : Nat} {f : Nat → Nat} (h : Sl w ao n f) : InB w.heap.size ao n := by
  rcases h with rfl | ⟨b, off, rfl, hc⟩
  · exact .inl rfl
  · by_cases c : n = 0
    · exact .inl c
    · refine .inr fun a ha => ?_
      cases ha
      exact World.block_lt_of_cell? w _ (hc 0 (by omega))
theorem InB.mono {B C : Nat} {ao : Option Addr} {n : Nat} (h : InB B ao n) (hC : B ≤ C) : InB C ao n := by
  rcases h with rfl | h
  · exact .inl rfl
  · exact .inr fun a ha => Nat.lt_of_lt_of_le (h a ha) hC
theorem Sl.below' {w w' : World} {ao : Option Addr} {n B : Nat} {f : Nat → Nat} (h : Sl w ao n f) (hi : InB B ao n) (hb : Below B w w') : Sl w' ao n f := by
  rcases h with rfl | ⟨b, off, rfl, hc⟩
  · exact .inl rfl
  · rcases hi with rfl | hi
    · exact .inl rfl
    · have hlt : b < B := hi _ rfl
      exact .inr ⟨b, off, rfl, fun j hj => (hb.cell (p := ⟨b, off + j, none⟩) (by exact hlt)).trans (hc j hj)⟩
/-- Where a slice does not lie: in block b, if it has any cell. -/
def Off (b : Nat) (ao : Option Addr) (n : Nat) : Prop := n = 0 ∨ ∀ a, ao = some a → a.block ≠ b
theorem InB.off {b : Nat} {ao : Option Addr} {n : Nat} (h : InB b ao n) : Off b ao n := by
  rcases h with rfl | h
  · exact .inl rfl
  · exact .inr fun a ha e => by have := h a ha; omega
theorem Sl.off {w : World} {ao : Option Addr} {n : Nat} {f : Nat → Nat} (h : Sl w ao n f) : Off w.heap.size ao n := h.inB.off
/-- A store into block b, or more of them, leaves a slice that lies elsewhere. -/
theorem Sl.grown {w w' : World} {ao : Option Addr} {n b : Nat} {f : Nat → Nat} (h : Sl w ao n f) (hi : Off b ao n) (hg : w.grownBy w' (some b)) : Sl w' ao n f := by
  rcases h with rfl | ⟨c, off, rfl, hc⟩
  · exact .inl rfl
  · rcases hi with rfl | hi
    · exact .inl rfl
    · refine .inr ⟨c, off, rfl, fun j hj => ?_⟩
      have hne : c ≠ b := hi _ rfl
      exact (World.cell?_of_block (w := w) (hg.block c (World.block_lt_of_cell? w _ (hc j hj)) (fun e => hne (by cases e; rfl)))).trans (hc j hj)

theorem int_eq {k : IntKind} {a b : Int} (h : a = b) : Value.int k a = Value.int k b := by rw [h]

/-- A slice of limbs without noughts on top, whose value is v; what lay there before lies there still. -/
def NumPost (v : Nat) (w : World) (e : Ending) (w' : World) : Prop :=
  ∃ ao n cap f, e = .returned (.slice ao n cap) ∧ n ≤ cap ∧ cap ≤ 9223372036854775807 ∧ Sl w' ao n f ∧ Canon v n f ∧ Below w.heap.size w w'

end Go.Proofs.Ytnnipciifjpooaa
