/-
  scrimref08.Cell, Right: which cells and arrays are right.
  scrimref08.Right: an array is right.
  scrimref08.Pack, Unpack: an array as a cell, a cell as an array.
  An api.Array that came in, as the walks speak of it.
  Arrays, plain: what is without labels, what has got more; what is packed and unpacked.
  What an observer sees of arrays, plain; scrimref01.Flows as a bool, Meet.
  What an observer sees of arrays, plain, further: hidden arrays; covered ones.
  scrimref09.Cell: what is seen of a cell, where Hide tells what is seen of the arrays in it.
  scrimref09.Hide: what is seen of an array.
  scrimref09.cells: whether an observer sees no difference between two cells, where Alike tells it of the arrays in them.
  scrimref09.Alike: whether an observer sees no difference between two arrays.
-/
import Derived.Test.YtlfilpjiepdejaaMrgF
import Derived.OpenShut
import Derived.SizedLaws
import Derived.Deep.RegionLaw
import Derived.Deep.AppendLies
import Derived.BigQuiet
namespace Go.Proofs.Ytlfilpjiepdejaa
open Go.RowKit Num

/-- A number's fields are right: they are a number in lowest terms. -/
def RightF (N : NumF) : Prop := ∃ (P : Int) (Q : Nat), Low P Q ∧ N.neg = decide (P < 0) ∧ Canon P.natAbs N.an N.fa ∧ Canon Q N.am N.ga

/-- A cell is right, with d boxes left: simple and right tell it of the array in it. -/
def CellT (K : Int) (N : NumF) (C : Int) (k : Nat) (simple : Bool) (d : Nat) (R : Prop) : Prop :=
  (K = 0 ∧ C = 0 ∧ k = 0 ∧ RightF N) ∨ (K = 1 ∧ zeroF N = true ∧ k = 0 ∧ mayZ C = true) ∨ (K = 2 ∧ zeroF N = true ∧ C = 0 ∧ k = 1 ∧ 0 < d ∧ simple = false ∧ R)

/-- An array is right, with d boxes left. -/
def RightT : Tree → Nat → Prop
  | .leaf, _ => False
  | .arr _ n sh m _ K C N k sub, d => Shape sh n (m : Int) ∧ ∀ i, i < m → CellT (K i) (N i) (C i) (k i) (simpleT (sub i 0)) d (RightT (sub i 0) (d - 1))

end Go.Proofs.Ytlfilpjiepdejaa

namespace Go.Proofs.Ytlfilpjiepdejaa
open Go.RowKit Num

end Go.Proofs.Ytlfilpjiepdejaa

namespace Go.Proofs.Ytlfilpjiepdejaa
open Go.RowKit Num

/-- A cell by its fields. -/
structure CellD where
  L : Nat
  K : Int
  N : NumF
  C : Int
  k : Nat
  sub : Nat → Tree

def CellR (w : World) (c : CellD) (e : Nat → Value) : Prop := CellP w c.L c.K c.N c.C c.k (fun j d0 d1 d2 => ArrP w (c.sub j) d0 d1 d2) e

/-- What a call that makes a cell tells. -/
def CellPost (c : CellD) (w : World) (e : Ending) (w' : World) : Prop := ∃ v : Nat → Value, e = .returned (.agg #[v 0, v 1, v 2, v 3, v 4, v 5, v 6]) ∧ CellR w' c v ∧ Below w.heap.size w w'

def zeroN : NumF := ⟨false, 0, fun _ => 0, 0, fun _ => 0⟩

def packT : Tree → CellD
  | .leaf => ⟨0, 0, zeroN, 0, 0, fun _ => .leaf⟩
  | .arr S n sh m L K C N k sub => if n = 0 ∧ m = 1 then ⟨orL S (L 0), K 0, N 0, C 0, k 0, sub 0⟩ else ⟨S, 2, zeroN, 0, 1, fun _ => .arr S n sh m L K C N k sub⟩

def unpackT (c : CellD) : Tree :=
  if c.K = 2 ∧ c.k = 1 then raiseT (c.sub 0) c.L else .arr c.L 0 (fun _ => 0) 1 (fun _ => c.L) (fun _ => c.K) (fun _ => c.C) (fun _ => c.N) (fun _ => c.k) (fun _ => c.sub)

theorem Box7.setAll {w : World} {B : Nat} {z0 z1 z2 z3 z4 z5 z6 : Value} (h : Box7 w B z0 z1 z2 z3 z4 z5 z6) (v0 v1 v2 v3 v4 v5 v6 : Value) :
    Box7 (((((((w.setCell ⟨B, 0, none⟩ v0).setCell ⟨B, 1, none⟩ v1).setCell ⟨B, 2, none⟩ v2).setCell ⟨B, 3, none⟩ v3).setCell ⟨B, 4, none⟩ v4).setCell ⟨B, 5, none⟩ v5).setCell ⟨B, 6, none⟩ v6) B v0 v1 v2 v3 v4 v5 v6 := by
  have ne : ∀ {j k : Nat}, j ≠ k → (⟨B, j, none⟩ : Addr) ≠ ⟨B, k, none⟩ := fun h e => h (by injection e)
  have lt : ∀ {j : Nat} {x v : Value} {w' : World}, w'.cell? ⟨B, j, none⟩ = some x → (w'.setCell ⟨B, j, none⟩ v).cell? ⟨B, j, none⟩ = some v := fun h => World.cell?_setCell_same _ _ _ h
  have sk : ∀ {j k : Nat} {x : Option Value} {v : Value} {w' : World}, j ≠ k → w'.cell? ⟨B, j, none⟩ = x → (w'.setCell ⟨B, k, none⟩ v).cell? ⟨B, j, none⟩ = x := fun hn h => (cell_set_ne (ne hn)).trans h
  refine ⟨?_, ?_, ?_, ?_, ?_, ?_, ?_, fun j => by simp only [World.frozen?_setCell]; exact h.fr j⟩
  · exact sk (by decide) (sk (by decide) (sk (by decide) (sk (by decide) (sk (by decide) (sk (by decide) (lt h.c0))))))
  · exact sk (by decide) (sk (by decide) (sk (by decide) (sk (by decide) (sk (by decide) (lt (sk (by decide) h.c1))))))
  · exact sk (by decide) (sk (by decide) (sk (by decide) (sk (by decide) (lt (sk (by decide) (sk (by decide) h.c2))))))
  · exact sk (by decide) (sk (by decide) (sk (by decide) (lt (sk (by decide) (sk (by decide) (sk (by decide) h.c3))))))
  · exact sk (by decide) (sk (by decide) (lt (sk (by decide) (sk (by decide) (sk (by decide) (sk (by decide) h.c4))))))
  · exact sk (by decide) (lt (sk (by decide) (sk (by decide) (sk (by decide) (sk (by decide) (sk (by decide) h.c5))))))
  · exact lt (sk (by decide) (sk (by decide) (sk (by decide) (sk (by decide) (sk (by decide) (sk (by decide) h.c6))))))

theorem below_setAll {w w' : World} {A B : Nat} (h : Below A w w') (hB : A ≤ B) (v0 v1 v2 v3 v4 v5 v6 : Value) :
    Below A w (((((((w'.setCell ⟨B, 0, none⟩ v0).setCell ⟨B, 1, none⟩ v1).setCell ⟨B, 2, none⟩ v2).setCell ⟨B, 3, none⟩ v3).setCell ⟨B, 4, none⟩ v4).setCell ⟨B, 5, none⟩ v5).setCell ⟨B, 6, none⟩ v6) :=
  ((((((h.setCell (p := ⟨B, 0, none⟩) hB v0).setCell (p := ⟨B, 1, none⟩) hB v1).setCell (p := ⟨B, 2, none⟩) hB v2).setCell (p := ⟨B, 3, none⟩) hB v3).setCell (p := ⟨B, 4, none⟩) hB v4).setCell (p := ⟨B, 5, none⟩) hB v5).setCell (p := ⟨B, 6, none⟩) hB v6

theorem CellP.again {w : World} {L L' : Nat} {K : Int} {N : NumF} {C : Int} {k : Nat} {R : Nat → Value → Value → Value → Prop} {e : Nat → Value} (h : CellP w L K N C k R e) (hl : IsL L') : CellP w L' K N C k R (fun i => if i = 0 then .int .u64 (L' : Nat) else e i) := by
  obtain ⟨_, _, h⟩ := h
  exact ⟨rfl, hl, h⟩

theorem Box7.aside {w : World} {B D : Nat} {v0 v1 v2 v3 v4 v5 v6 : Value} (h : Box7 w B v0 v1 v2 v3 v4 v5 v6) (hne : B ≠ D) (t : Nat) (u : Value) : Box7 (w.setCell ⟨D, t, none⟩ u) B v0 v1 v2 v3 v4 v5 v6 := by
  have ne : ∀ j, (⟨B, j, none⟩ : Addr) ≠ ⟨D, t, none⟩ := fun j e => hne (by injection e)
  exact ⟨(cell_set_ne (ne _)).trans h.c0, (cell_set_ne (ne _)).trans h.c1, (cell_set_ne (ne _)).trans h.c2, (cell_set_ne (ne _)).trans h.c3, (cell_set_ne (ne _)).trans h.c4, (cell_set_ne (ne _)).trans h.c5, (cell_set_ne (ne _)).trans h.c6, fun j => by rw [World.frozen?_setCell]; exact h.fr j⟩

theorem made7 {w w2 : World} {A : Tree} {c0 c1 c2 : Value} {S : Nat} {z0 z1 z2 z3 z4 z5 z6 : Value} (t : TypeId) (h : ArrP w A c0 c1 c2) (hS : IsL S) (b2 : Below w.heap.size w w2) (y2 : Box7 w2 (w.heap.size + 1) z0 z1 z2 z3 z4 z5 z6) (W : World)
    (hW : W = (((((((w2.setCell ⟨w.heap.size + 1, 0, none⟩ (.int .u64 S)).setCell ⟨w.heap.size + 1, 1, none⟩ (.int .i64 2)).setCell ⟨w.heap.size + 1, 2, none⟩ (.bool false)).setCell ⟨w.heap.size + 1, 3, none⟩ (.slice none 0 0)).setCell ⟨w.heap.size + 1, 4, none⟩ (.slice none 0 0)).setCell ⟨w.heap.size + 1, 5, none⟩ (.int .i64 0)).setCell ⟨w.heap.size + 1, 6, none⟩ (.slice (some ⟨w2.heap.size, 0, none⟩) 1 1)).alloc (.cells #[c0, c1, c2] t)) :
    Box7 W (w.heap.size + 1) (.int .u64 S) (.int .i64 2) (.bool false) (.slice none 0 0) (.slice none 0 0) (.int .i64 0) (.slice (some ⟨w2.heap.size, 0, none⟩) 1 1) ∧ Below w.heap.size w W ∧
    CellP W S 2 zeroN 0 1 (fun _ d0 d1 d2 => ArrP W A d0 d1 d2) (fun i => (#[.int .u64 S, .int .i64 2, .bool false, .slice none 0 0, .slice none 0 0, .int .i64 0, .slice (some ⟨w2.heap.size, 0, none⟩) 1 1] : Array Value).getD i (.bool false)) := by
  have z := y2.setAll (.int .u64 S) (.int .i64 2) (.bool false) (.slice none 0 0) (.slice none 0 0) (.int .i64 0) (.slice (some ⟨w2.heap.size, 0, none⟩) 1 1)
  have bz := below_setAll b2 (B := w.heap.size + 1) (by omega) (.int .u64 S) (.int .i64 2) (.bool false) (.slice none 0 0) (.slice none 0 0) (.int .i64 0) (.slice (some ⟨w2.heap.size, 0, none⟩) 1 1)
  have zA := z.alloc (.cells #[c0, c1, c2] t)
  have bA := bz.alloc bz.size (.cells #[c0, c1, c2] t)
  have n3 := Box3.new (w := (((((((w2.setCell ⟨w.heap.size + 1, 0, none⟩ (.int .u64 S)).setCell ⟨w.heap.size + 1, 1, none⟩ (.int .i64 2)).setCell ⟨w.heap.size + 1, 2, none⟩ (.bool false)).setCell ⟨w.heap.size + 1, 3, none⟩ (.slice none 0 0)).setCell ⟨w.heap.size + 1, 4, none⟩ (.slice none 0 0)).setCell ⟨w.heap.size + 1, 5, none⟩ (.int .i64 0)).setCell ⟨w.heap.size + 1, 6, none⟩ (.slice (some ⟨w2.heap.size, 0, none⟩) 1 1))) (B := w2.heap.size) c0 c1 c2 t (by simp)
  rw [← hW] at zA bA n3
  refine ⟨zA, bA, rfl, hS, rfl, ⟨by decide, by decide⟩, ⟨rfl, ⟨none, 0, rfl, ⟨Nat.le_refl _, by decide, by decide⟩, .inl rfl, fun j hj => absurd hj (Nat.not_lt_zero _)⟩, ⟨none, 0, rfl, ⟨Nat.le_refl _, by decide, by decide⟩, .inl rfl, fun j hj => absurd hj (Nat.not_lt_zero _)⟩⟩, rfl, ⟨by decide, by decide⟩, _, _, rfl, ⟨Nat.le_refl _, by decide, by decide⟩, .inr ⟨_, _, rfl, fun j hj => ?_⟩⟩
  obtain rfl : j = 0 := by omega
  exact ⟨c0, c1, c2, n3.c0, n3.c1, n3.c2, ArrP.below _ _ _ _ h bA⟩

theorem madeU {w w2 : World} {L : Nat} {K : Int} {N : NumF} {C : Int} {k : Nat} {sub : Nat → Tree} {e : Nat → Value} {z0 z1 z2 : Value} (t : TypeId) (h : CellR w ⟨L, K, N, C, k, sub⟩ e) (hL : IsL L) (b2 : Below w.heap.size w w2) (y2 : Box3 w2 (w.heap.size + 1) z0 z1 z2)
    (v0 v1 v2 v3 v4 v5 v6 : Value) (hv : (Value.agg #[v0, v1, v2, v3, v4, v5, v6]) = .agg #[e 0, e 1, e 2, e 3, e 4, e 5, e 6]) (W : World)
    (hW : W = (((w2.setCell ⟨w.heap.size + 1, 0, none⟩ (.int .u64 L)).setCell ⟨w.heap.size + 1, 1, none⟩ (.slice none 0 0)).setCell ⟨w.heap.size + 1, 2, none⟩ (.slice (some ⟨w2.heap.size, 0, none⟩) 1 1)).alloc (.cells #[v0, v1, v2, v3, v4, v5, v6] t)) :
    Box3 W (w.heap.size + 1) (.int .u64 L) (.slice none 0 0) (.slice (some ⟨w2.heap.size, 0, none⟩) 1 1) ∧ Below w.heap.size w W ∧
    ArrP W (.arr L 0 (fun _ => 0) 1 (fun _ => L) (fun _ => K) (fun _ => C) (fun _ => N) (fun _ => k) (fun _ => sub)) (.int .u64 L) (.slice none 0 0) (.slice (some ⟨w2.heap.size, 0, none⟩) 1 1) := by
  have z := y2.set (.int .u64 L) (.slice none 0 0) (.slice (some ⟨w2.heap.size, 0, none⟩) 1 1)
  have bz := below_set3 b2 (B := w.heap.size + 1) (by omega) (.int .u64 L) (.slice none 0 0) (.slice (some ⟨w2.heap.size, 0, none⟩) 1 1)
  have zA := z.alloc (.cells #[v0, v1, v2, v3, v4, v5, v6] t)
  have bA := bz.alloc bz.size (.cells #[v0, v1, v2, v3, v4, v5, v6] t)
  have n7 := Box7.new (w := (((w2.setCell ⟨w.heap.size + 1, 0, none⟩ (.int .u64 L)).setCell ⟨w.heap.size + 1, 1, none⟩ (.slice none 0 0)).setCell ⟨w.heap.size + 1, 2, none⟩ (.slice (some ⟨w2.heap.size, 0, none⟩) 1 1))) (B := w2.heap.size) v0 v1 v2 v3 v4 v5 v6 t (by simp)
  rw [← hW] at zA bA n7
  simp only [Value.agg.injEq, Array.mk.injEq, List.cons.injEq, and_true] at hv
  obtain ⟨rfl, rfl, rfl, rfl, rfl, rfl, rfl⟩ := hv
  refine ⟨zA, bA, rfl, hL, ⟨none, 0, rfl, ⟨Nat.le_refl _, by decide, by decide⟩, .inl rfl, fun j hj => absurd hj (Nat.not_lt_zero _)⟩, _, _, rfl, ⟨Nat.le_refl _, by decide, by decide⟩, .inr ⟨_, _, rfl, fun i hi => ?_⟩⟩
  obtain rfl : i = 0 := by omega
  refine ⟨e, fun t ht => ?_, h.below bA fun j d0 d1 d2 _ hd => ArrP.below _ _ _ _ hd bA⟩
  rcases t with _ | _ | _ | _ | _ | _ | _ | t
  · exact n7.c0
  · exact n7.c1
  · exact n7.c2
  · exact n7.c3
  · exact n7.c4
  · exact n7.c5
  · exact n7.c6
  · omega

end Go.Proofs.Ytlfilpjiepdejaa

namespace Go.Proofs.Ytlfilpjiepdejaa
open Go.RowKit Num Go.ChangeShapes

section
variable {H : Type} {enc : TypeId × Value → H} {P : Program} {W : World}

theorem weights_all {e : TypeId} {y : DataW H} : ∀ {ds : List (DataW H)}, y ∈ ds → ∀ k ∈ y.weights P e, k ∈ DataW.weightsAll P e ds
  | d :: r, h, k, hk => by
    simp only [DataW.weightsAll, List.mem_append]
    rcases List.mem_cons.1 h with rfl | h
    · exact .inl hk
    · exact .inr (weights_all h k hk)

/-- What a slice that came in is: its elements, each read in its turn. -/
theorem row_open {t e : TypeId} {sz fuel : Nat} {c : Value} {x : DataW H × List MemPlace} (ht : P.underlying t = some (.slice e)) (hc : P.cellsOf e = sz) (hs : 0 < sz) (hb : 0 < P.bytesOf e)
    (h : DataW.trod enc P W 0 (fun _ => true) true fuel t [c] = some x) (hw : ∀ k ∈ x.1.weights P t, k ≤ reachBytes) :
    ∃ ao n nc, c = .slice ao n nc ∧ IsN n nc ∧ (n = 0 ∨ ∃ b o, ao = some ⟨b, o, none⟩ ∧ ∀ i, i < n → ∃ m cs y, m < fuel ∧ cs.length = sz ∧ (∀ j, j < sz → W.cell? ⟨b, o + i * sz + j, none⟩ = cs[j]?) ∧
      DataW.trod enc P W 0 (fun _ => true) true m e cs = some y ∧ ∀ k ∈ y.1.weights P e, k ≤ reachBytes) := by
  rcases DataW.trod_slice ht h with ⟨h0, _⟩ | ⟨a, len, cap, elems, rest, n, hf, h1, rfl, _, hl, hm, hlen, hel, hsp, _⟩
  · obtain rfl : c = .slice none 0 0 := by simpa using h0
    exact ⟨none, 0, 0, rfl, ⟨Nat.le_refl _, by decide, by decide⟩, .inl rfl⟩
  · obtain rfl : c = .slice (some a) len cap := by simpa using h1
    obtain ⟨hrl, _⟩ := hsp rfl
    have hwt : (elems.length + rest.length) * P.bytesOf e ≤ reachBytes := hw _ (by simp [DataW.weights, ht])
    have hcap : cap ≤ reachBytes := by
      rw [hlen, hrl, show len + (cap - len) = cap by omega] at hwt
      exact Nat.le_trans (Nat.le_mul_of_pos_right _ hb) hwt
    have hr : reachBytes < 140737488355328 := reachBytes_lt
    refine ⟨some a, len, cap, rfl, ⟨hl, by unfold maxLen at hm; omega, by omega⟩, ?_⟩
    by_cases h0 : len = 0
    · exact .inl h0
    have each : ∀ i, i < len → ∃ cs y, y ∈ elems ∧ cs.length = sz ∧ (∀ j, j < sz → W.cell? ((a.add (i * sz)).add j) = cs[j]?) ∧ DataW.trod enc P W 0 (fun _ => true) true n e cs = some y := by
      intro i hi
      have h2 := hel i hi
      have hi' : i < elems.length := by omega
      rw [List.getElem?_eq_getElem hi', hc, Option.bind_eq_some_iff] at h2
      obtain ⟨cs, hcs, hy⟩ := h2
      obtain ⟨_, q1, q2⟩ := World.cells?_some hcs
      exact ⟨cs, _, List.getElem_mem hi', q1, q2, hy⟩
    obtain ⟨b, o, spot⟩ := a
    have hspot : spot = none := by
      obtain ⟨cs, y, _, q1, q2, _⟩ := each 0 (by omega)
      have q3 := q2 0 hs
      rw [List.getElem?_eq_getElem (by omega)] at q3
      simpa [Addr.add] using World.cell?_spot q3
    subst hspot
    refine .inr ⟨b, o, rfl, fun i hi => ?_⟩
    obtain ⟨cs, y, hm, q1, q2, q3⟩ := each i hi
    refine ⟨n, cs, y, by omega, q1, fun j hj => by rw [← q2 j hj, Go.WideShapes.add_plain, Go.WideShapes.add_plain], q3, fun k hk => hw k ?_⟩
    simp only [DataW.weights, ht, List.mem_cons, List.mem_append]
    exact .inr (.inl (weights_all (List.mem_map_of_mem hm) k hk))

/-- Of each below n there is one: all at once. -/
theorem pick {α : Type} (d : α) {n : Nat} {p : Nat → α → Prop} (h : ∀ i, i < n → ∃ a, p i a) : ∃ f : Nat → α, ∀ i, i < n → p i (f i) := by
  refine ⟨fun i => if hi : i < n then Classical.choose (h i hi) else d, fun i hi => ?_⟩
  show p i (if hi : i < n then Classical.choose (h i hi) else d)
  rw [dif_pos hi]
  exact Classical.choose_spec (h i hi)

theorem weights_agg {t : TypeId} {fs : Array Field} {parts : List (DataW H)} (ht : P.underlying t = some (.struct fs)) (hw : ∀ k ∈ (DataW.agg parts).weights P t, k ≤ reachBytes) {j : Nat} {f : Field} {d : DataW H} (hf : fs[j]? = some f) (hd : parts[j]? = some d) : ∀ k ∈ d.weights P f.type, k ≤ reachBytes := by
  intro k hk
  refine hw k ?_
  simp only [DataW.weights, ht]
  exact DataW.weights_mem_each (j := j) (by simp [hf]) hd k hk

theorem struct_open {t : TypeId} {fs : Array Field} {fuel : Nat} {cs : List Value} {x : DataW H × List MemPlace} (ht : P.underlying t = some (.struct fs)) (h : DataW.trod enc P W 0 (fun _ => true) true fuel t cs = some x) (hw : ∀ k ∈ x.1.weights P t, k ≤ reachBytes) :
    ∃ n, n < fuel ∧ cs.length = P.cellsOf t ∧ ∀ (i : Nat) (f : Field), fs[i]? = some f → ∃ y, DataW.trod enc P W 0 (fun _ => true) true n f.type ((cs.drop f.offset).take (P.cellsOf f.type)) = some y ∧ ∀ k ∈ y.1.weights P f.type, k ≤ reachBytes := by
  obtain ⟨xs, n, hf, rfl, hl, hlen, hx⟩ := DataW.trod_struct ht h
  refine ⟨n, by omega, hl, fun i f hi => ?_⟩
  have hi' : i < xs.length := by rw [hlen]; exact (Array.getElem?_eq_some_iff.1 hi).1
  have h1 := hx i f hi
  rw [List.getElem?_eq_getElem hi'] at h1
  exact ⟨_, h1, weights_agg ht hw hi (by rw [List.getElem?_map, List.getElem?_eq_getElem hi']; rfl)⟩
end

variable {H : Type} {enc : TypeId × Value → H} {W : World}

theorem ints_in {fuel : Nat} {c : Value} {x : DataW H × List MemPlace} (h : DataW.trod enc Try.prog W 0 (fun _ => true) true fuel 23 [c] = some x) (hw : ∀ k ∈ x.1.weights Try.prog 23, k ≤ reachBytes) :
    ∃ ao n nc, c = .slice ao n nc ∧ IsN n nc ∧ ∃ f : Nat → Int, SlZ W ao n f ∧ ∀ j, j < n → IsZ (f j) := by
  obtain ⟨ao, n, nc, rfl, hn, hr⟩ := row_open Try.underlying23 (show Try.prog.cellsOf 3 = 1 by kernel_rfl) (by decide) (show 0 < Try.prog.bytesOf 3 from of_decide_eq_true (by kernel_rfl)) h hw
  refine ⟨ao, n, nc, rfl, hn, ?_⟩
  rcases hr with h0 | ⟨b, o, rfl, hr⟩
  · exact ⟨fun _ => 0, .inl h0, fun j hj => by omega⟩
  · obtain ⟨f, hf⟩ := pick (0 : Int) (p := fun i v => W.cell? ⟨b, o + i, none⟩ = some (.int .i64 v) ∧ IsZ v) fun i hi => by
      obtain ⟨m, cs, y, _, _, q2, q3, _⟩ := hr i hi
      obtain ⟨v, rfl, rfl, hv⟩ := DataW.trod_int Try.underlying3 q3
      have q4 := q2 0 (by decide)
      exact ⟨v, by simpa using q4, bounds_i64 hv⟩
    exact ⟨f, .inr ⟨b, o, rfl, fun j hj => (hf j hj).1⟩, fun j hj => (hf j hj).2⟩

theorem limbs_in {fuel : Nat} {c : Value} {x : DataW H × List MemPlace} (h : DataW.trod enc Try.prog W 0 (fun _ => true) true fuel 27 [c] = some x) (hw : ∀ k ∈ x.1.weights Try.prog 27, k ≤ reachBytes) :
    ∃ n f ao ac, c = .slice ao n ac ∧ IsN n ac ∧ Sl W ao n f ∧ Lim f n := by
  obtain ⟨ao, n, nc, rfl, hn, hr⟩ := row_open Try.underlying27 (show Try.prog.cellsOf 68 = 1 by kernel_rfl) (by decide) (show 0 < Try.prog.bytesOf 68 from of_decide_eq_true (by kernel_rfl)) h hw
  rcases hr with h0 | ⟨b, o, rfl, hr⟩
  · exact ⟨n, fun _ => 0, ao, nc, rfl, hn, .inl h0, fun j hj => by omega⟩
  · obtain ⟨f, hf⟩ := pick (0 : Nat) (p := fun i v => W.cell? ⟨b, o + i, none⟩ = some (.int .u32 (v : Nat)) ∧ v < 4294967296) fun i hi => by
      obtain ⟨m, cs, y, _, _, q2, q3, _⟩ := hr i hi
      obtain ⟨v, rfl, rfl, hv⟩ := DataW.trod_int Try.underlying68 q3
      have q4 := q2 0 (by decide)
      have q5 := bounds_u32 hv
      exact ⟨v.toNat, by rw [Int.toNat_of_nonneg q5.1]; simpa using q4, by omega⟩
    exact ⟨n, f, _, nc, rfl, hn, .inr ⟨b, o, rfl, fun j hj => (hf j hj).1⟩, fun j hj => (hf j hj).2⟩

theorem three_of {cs : List Value} (h : cs.length = 3) : ∃ c0 c1 c2, cs = [c0, c1, c2] := by
  match cs, h with
  | [c0, c1, c2], _ => exact ⟨c0, c1, c2, rfl⟩

theorem seven_of {cs : List Value} (h : cs.length = 7) : ∃ e : Nat → Value, cs = [e 0, e 1, e 2, e 3, e 4, e 5, e 6] := by
  match cs, h with
  | [c0, c1, c2, c3, c4, c5, c6], _ => exact ⟨fun i => [c0, c1, c2, c3, c4, c5, c6].getD i c0, rfl⟩

theorem num_in {fuel : Nat} {c0 c1 c2 : Value} {x : DataW H × List MemPlace} (h : DataW.trod enc Try.prog W 0 (fun _ => true) true fuel 29 [c0, c1, c2] = some x) (hw : ∀ k ∈ x.1.weights Try.prog 29, k ≤ reachBytes) : ∃ N, NumP W N c0 c1 c2 := by
  obtain ⟨n, _, _, hf⟩ := struct_open Try.underlying29 h hw
  obtain ⟨y0, h0, _⟩ := hf 0 _ rfl
  obtain ⟨y1, h1, w1⟩ := hf 1 _ rfl
  obtain ⟨y2, h2, w2⟩ := hf 2 _ rfl
  have kb : Try.prog.cellsOf 4 = 1 := by kernel_rfl
  have ks : Try.prog.cellsOf 27 = 1 := by kernel_rfl
  have h0' : DataW.trod enc Try.prog W 0 (fun _ => true) true n 4 [c0] = some y0 := by simpa [kb] using h0
  have h1' : DataW.trod enc Try.prog W 0 (fun _ => true) true n 27 [c1] = some y1 := by simpa [ks] using h1
  have h2' : DataW.trod enc Try.prog W 0 (fun _ => true) true n 27 [c2] = some y2 := by simpa [ks] using h2
  obtain ⟨b, e0, _⟩ := DataW.trod_bool Try.underlying4 h0'
  obtain rfl : c0 = .bool b := by simpa using e0
  obtain ⟨an, fa, ao, ac, rfl, q1⟩ := limbs_in h1' w1
  obtain ⟨am, ga, bo, bc, rfl, q2⟩ := limbs_in h2' w2
  exact ⟨⟨b, an, fa, am, ga⟩, rfl, ⟨ao, ac, rfl, q1⟩, ⟨bo, bc, rfl, q2⟩⟩

/-- An array that came in, of a reading of this much fuel. -/
def ArrIn (enc : TypeId × Value → H) (W : World) (fuel : Nat) : Prop := ∀ (cs : List Value) (x : DataW H × List MemPlace), DataW.trod enc Try.prog W 0 (fun _ => true) true fuel 26 cs = some x → (∀ k ∈ x.1.weights Try.prog 26, k ≤ reachBytes) → ∃ (A : Tree) (c0 c1 c2 : Value), cs = [c0, c1, c2] ∧ ArrP W A c0 c1 c2

theorem cell_in {fuel : Nat} (ih : ∀ m, m < fuel → ArrIn enc W m) {cs : List Value} {x : DataW H × List MemPlace} (h : DataW.trod enc Try.prog W 0 (fun _ => true) true fuel 32 cs = some x) (hw : ∀ k ∈ x.1.weights Try.prog 32, k ≤ reachBytes) :
    ∃ (c : CellD) (e : Nat → Value), cs = [e 0, e 1, e 2, e 3, e 4, e 5, e 6] ∧ CellR W c e := by
  obtain ⟨n, hn, hl, hf⟩ := struct_open Try.underlying32 h hw
  have kC : Try.prog.cellsOf 32 = 7 := by kernel_rfl
  obtain ⟨e, rfl⟩ := seven_of (hl.trans kC)
  obtain ⟨y0, h0, _⟩ := hf 0 _ rfl
  obtain ⟨y1, h1, _⟩ := hf 1 _ rfl
  obtain ⟨y2, h2, w2⟩ := hf 2 _ rfl
  obtain ⟨y3, h3, _⟩ := hf 3 _ rfl
  obtain ⟨y4, h4, w4⟩ := hf 4 _ rfl
  have ku : Try.prog.cellsOf 22 = 1 := by kernel_rfl
  have ki : Try.prog.cellsOf 3 = 1 := by kernel_rfl
  have kN : Try.prog.cellsOf 29 = 3 := by kernel_rfl
  have kS : Try.prog.cellsOf 30 = 1 := by kernel_rfl
  have h0' : DataW.trod enc Try.prog W 0 (fun _ => true) true n 22 [e 0] = some y0 := by simpa [ku] using h0
  have h1' : DataW.trod enc Try.prog W 0 (fun _ => true) true n 3 [e 1] = some y1 := by simpa [ki] using h1
  have h2' : DataW.trod enc Try.prog W 0 (fun _ => true) true n 29 [e 2, e 3, e 4] = some y2 := by simpa [kN] using h2
  have h3' : DataW.trod enc Try.prog W 0 (fun _ => true) true n 3 [e 5] = some y3 := by simpa [ki] using h3
  have h4' : DataW.trod enc Try.prog W 0 (fun _ => true) true n 30 [e 6] = some y4 := by simpa [kS] using h4
  obtain ⟨v0, q0, _, r0⟩ := DataW.trod_int Try.underlying22 h0'
  obtain ⟨v1, q1, _, r1⟩ := DataW.trod_int Try.underlying3 h1'
  obtain ⟨v3, q3, _, r3⟩ := DataW.trod_int Try.underlying3 h3'
  obtain ⟨N, hN⟩ := num_in h2' w2
  obtain ⟨ao, k, kc, q6, hk, hr⟩ := row_open Try.underlying30 (show Try.prog.cellsOf 26 = 3 by kernel_rfl) (by decide) (show 0 < Try.prog.bytesOf 26 from of_decide_eq_true (by kernel_rfl)) h4' w4
  have b0 := bounds_u64 r0
  have e0 : e 0 = .int .u64 (v0.toNat : Nat) := by rw [Int.toNat_of_nonneg b0.1]; simpa using q0
  have e1 : e 1 = .int .i64 v1 := by simpa using q1
  have e5 : e 5 = .int .i64 v3 := by simpa using q3
  have hL : IsL v0.toNat := by show v0.toNat < 18446744073709551616; omega
  rcases hr with hk0 | ⟨b, o, rfl, hr⟩
  · exact ⟨⟨v0.toNat, v1, N, v3, k, fun _ => .leaf⟩, e, rfl, e0, hL, e1, bounds_i64 r1, hN, e5, bounds_i64 r3, ao, kc, q6, hk, .inl hk0⟩
  · obtain ⟨sub, hsub⟩ := pick Tree.leaf (p := fun j A => ∃ d0 d1 d2, W.cell? ⟨b, o + j * 3, none⟩ = some d0 ∧ W.cell? ⟨b, o + j * 3 + 1, none⟩ = some d1 ∧ W.cell? ⟨b, o + j * 3 + 2, none⟩ = some d2 ∧ ArrP W A d0 d1 d2) fun j hj => by
      obtain ⟨m, cs, y, hm, _, p2, p3, p4⟩ := hr j hj
      obtain ⟨A, d0, d1, d2, rfl, hA⟩ := ih m (by omega) cs y p3 p4
      exact ⟨A, d0, d1, d2, by simpa using p2 0 (by decide), by simpa using p2 1 (by decide), by simpa using p2 2 (by decide), hA⟩
    exact ⟨⟨v0.toNat, v1, N, v3, k, sub⟩, e, rfl, e0, hL, e1, bounds_i64 r1, hN, e5, bounds_i64 r3, _, kc, q6, hk, .inr ⟨b, o, rfl, hsub⟩⟩

theorem arr_in : ∀ fuel, ArrIn enc W fuel := by
  intro fuel
  induction fuel using Nat.strongRecOn with
  | ind fuel ih =>
    intro cs x h hw
    obtain ⟨n, hn, hl, hf⟩ := struct_open Try.underlying26 h hw
    have kA : Try.prog.cellsOf 26 = 3 := by kernel_rfl
    obtain ⟨c0, c1, c2, rfl⟩ := three_of (hl.trans kA)
    obtain ⟨y0, h0, _⟩ := hf 0 _ rfl
    obtain ⟨y1, h1, w1⟩ := hf 1 _ rfl
    obtain ⟨y2, h2, w2⟩ := hf 2 _ rfl
    have ku : Try.prog.cellsOf 22 = 1 := by kernel_rfl
    have ks : Try.prog.cellsOf 23 = 1 := by kernel_rfl
    have kS : Try.prog.cellsOf 24 = 1 := by kernel_rfl
    have h0' : DataW.trod enc Try.prog W 0 (fun _ => true) true n 22 [c0] = some y0 := by simpa [ku] using h0
    have h1' : DataW.trod enc Try.prog W 0 (fun _ => true) true n 23 [c1] = some y1 := by simpa [ks] using h1
    have h2' : DataW.trod enc Try.prog W 0 (fun _ => true) true n 24 [c2] = some y2 := by simpa [kS] using h2
    obtain ⟨v0, q0, _, r0⟩ := DataW.trod_int Try.underlying22 h0'
    obtain ⟨ao, p, nc, rfl, hp, sh, hsh, hz⟩ := ints_in h1' w1
    obtain ⟨co, m, mc, rfl, hm, hr⟩ := row_open Try.underlying24 (show Try.prog.cellsOf 32 = 7 by kernel_rfl) (by decide) (show 0 < Try.prog.bytesOf 32 from of_decide_eq_true (by kernel_rfl)) h2' w2
    have b0 := bounds_u64 r0
    have e0 : c0 = .int .u64 (v0.toNat : Nat) := by rw [Int.toNat_of_nonneg b0.1]; simpa using q0
    have hL : IsL v0.toNat := by show v0.toNat < 18446744073709551616; omega
    rcases hr with hm0 | ⟨b, o, rfl, hr⟩
    · exact ⟨.arr v0.toNat p sh m (fun _ => 0) (fun _ => 0) (fun _ => 0) (fun _ => zeroN) (fun _ => 0) (fun _ _ => .leaf), _, _, _, rfl, e0, hL, ⟨ao, nc, rfl, hp, hsh, hz⟩, co, mc, rfl, hm, .inl hm0⟩
    · obtain ⟨cd, hcd⟩ := pick (⟨0, 0, zeroN, 0, 0, fun _ => .leaf⟩ : CellD) (p := fun i c => ∃ e : Nat → Value, (∀ t, t < 7 → W.cell? ⟨b, o + i * 7 + t, none⟩ = some (e t)) ∧ CellR W c e) fun i hi => by
        obtain ⟨m', cs, y, hm', _, p2, p3, p4⟩ := hr i hi
        obtain ⟨c, e, rfl, hc⟩ := cell_in (fun q hq => ih q (by omega)) p3 p4
        refine ⟨c, e, fun t ht => ?_, hc⟩
        rw [p2 t ht]
        rcases t with _ | _ | _ | _ | _ | _ | _ | t
        all_goals first | rfl | omega
      exact ⟨.arr v0.toNat p sh m (fun i => (cd i).L) (fun i => (cd i).K) (fun i => (cd i).C) (fun i => (cd i).N) (fun i => (cd i).k) (fun i => (cd i).sub), _, _, _, rfl, e0, hL, ⟨ao, nc, rfl, hp, hsh, hz⟩, _, mc, rfl, hm, .inr ⟨b, o, rfl, hcd⟩⟩

end Go.Proofs.Ytlfilpjiepdejaa

namespace Go.Proofs.Ytlfilpjiepdejaa
open Go.RowKit Num

theorem flows_refl (a : Nat) : FlowsL a a := fun _ _ h => h

theorem FlowsL.trans {a b c : Nat} (h : FlowsL a b) (k : FlowsL b c) : FlowsL a c := fun i hi ha => k i hi (h i hi ha)

theorem flows_left (a b : Nat) : FlowsL a (orL a b) := fun i _ h => by rw [hasL_or, h]; rfl

theorem flows_right (a b : Nat) : FlowsL b (orL a b) := fun i _ h => by rw [hasL_or, h, Bool.or_true]

theorem flows_or {a b c : Nat} (h : FlowsL a c) (k : FlowsL b c) : FlowsL (orL a b) c := fun i hi ha => by
  rw [hasL_or, Bool.or_eq_true] at ha
  exact ha.elim (h i hi) (k i hi)

theorem orL_of_flows {a b : Nat} (ha : IsL a) (hb : IsL b) (h : FlowsL b a) : orL a b = a := by
  refine Nat.eq_of_testBit_eq fun i => ?_
  rw [← hasL_bit, ← hasL_bit, hasL_or]
  by_cases hi : i < 64
  · cases hbi : hasL b i with
    | false => rw [Bool.or_false]
    | true => rw [h i hi hbi]; rfl
  · have big : ∀ x, IsL x → hasL x i = false := fun x hx => by
      rw [hasL_bit]
      exact Nat.testBit_lt_two_pow (Nat.lt_of_lt_of_le hx (Nat.pow_le_pow_right (n := 2) (by decide) (show 64 ≤ i by omega)))
    rw [big a ha, big b hb]; rfl

theorem foldN_up {g : Nat → Nat → Nat} {s : Nat} : ∀ n, (∀ i x, i < n → FlowsL x (g i x)) → FlowsL s (foldN g s n)
  | 0, _ => flows_refl s
  | n + 1, h => (foldN_up n fun i x hi => h i x (by omega)).trans (h n _ (by omega))

theorem foldN_least {g : Nat → Nat → Nat} {s c : Nat} (hs : FlowsL s c) : ∀ n, (∀ i x, i < n → FlowsL x c → FlowsL (g i x) c) → FlowsL (foldN g s n) c
  | 0, _ => hs
  | n + 1, h => h n _ (by omega) (foldN_least hs n fun i x hi => h i x (by omega))

theorem foldN_at {g : Nat → Nat → Nat} {s : Nat} : ∀ n, (∀ i x, i < n → FlowsL x (g i x)) → ∀ i, i < n → ∃ x, FlowsL (g i x) (foldN g s n)
  | 0, _, i, hi => by omega
  | n + 1, h, i, hi => by
    by_cases e : i = n
    · subst e; exact ⟨_, flows_refl _⟩
    · obtain ⟨x, hx⟩ := foldN_at (s := s) n (fun i x hi => h i x (by omega)) i (by omega)
      exact ⟨x, hx.trans (h n _ (by omega))⟩

/-- The join of all labels is the least that all flow to. -/
theorem total_flows {S n m : Nat} {sh : Nat → Int} {L : Nat → Nat} {K C : Nat → Int} {N : Nat → NumF} {k : Nat → Nat} {sub : Nat → Nat → Tree} (c : Nat) :
    FlowsL (totalT (.arr S n sh m L K C N k sub)) c ↔ FlowsL S c ∧ ∀ i, i < m → FlowsL (L i) c ∧ ∀ j, j < k i → FlowsL (totalT (sub i j)) c := by
  have inner : ∀ i x, FlowsL (orL x (L i)) (foldN (fun j s => orL s (totalT (sub i j))) (orL x (L i)) (k i)) := fun i x => foldN_up _ fun j y _ => flows_left _ _
  have step : ∀ i x, FlowsL x (foldN (fun j s => orL s (totalT (sub i j))) (orL x (L i)) (k i)) := fun i x => (flows_left _ _).trans (inner i x)
  constructor
  · intro h
    refine ⟨(foldN_up m fun i x _ => step i x).trans h, fun i hi => ?_⟩
    obtain ⟨x, hx⟩ := foldN_at (s := S) m (fun i x _ => step i x) i hi
    refine ⟨(flows_right x (L i)).trans ((inner i x).trans (hx.trans h)), fun j hj => ?_⟩
    obtain ⟨y, hy⟩ := foldN_at (g := fun j s => orL s (totalT (sub i j))) (s := orL x (L i)) (k i) (fun j y _ => flows_left _ _) j hj
    exact (flows_right y (totalT (sub i j))).trans (hy.trans (hx.trans h))
  · rintro ⟨h1, h2⟩
    refine foldN_least h1 m fun i x hi hx => foldN_least (flows_or hx (h2 i hi).1) (k i) fun j y hj hy => flows_or hy ((h2 i hi).2 j hj)

theorem foldN_zero {g : Nat → Nat → Nat} : ∀ n, (∀ i, i < n → g i 0 = 0) → foldN g 0 n = 0
  | 0, _ => rfl
  | n + 1, h => by
    show g n (foldN g 0 n) = 0
    rw [foldN_zero n fun i hi => h i (by omega), h n (by omega)]

theorem orL_zero : orL 0 0 = 0 := rfl

theorem total_erased : ∀ A, totalT (coverT A 0 true) = 0 := by
  intro A
  induction A with
  | leaf => rfl
  | arr S n sh m L K C N k sub ih =>
    show foldN (fun i s => foldN (fun j s => orL s (totalT (coverT (sub i j) 0 true))) (orL s 0) (k i)) 0 m = 0
    refine foldN_zero m fun i _ => ?_
    rw [orL_zero]
    refine foldN_zero (k i) fun j _ => ?_
    rw [ih i j]; rfl

theorem total_covered {w : World} {A : Tree} {l : Nat} {c0 c1 c2 : Value} (h : ArrP w (coverT A l false) c0 c1 c2) (hl : IsL l) : orL (totalT (coverT A l false)) l = totalT (coverT A l false) := by
  refine orL_of_flows (total_is _ _ _ _ h) hl ?_
  obtain _ | ⟨S, n, sh, m, L, K, C, N, k, sub⟩ := A
  · exact (ArrP.leaf h).elim
  · exact (flows_right S l).trans ((total_flows (S := orL S l) (n := n) (sh := sh) (m := m) (L := fun i => labB false (L i) l) (K := K) (C := C) (N := N) (k := k) (sub := fun i j => coverT (sub i j) l false) _).1 (flows_refl _)).1

/-- No leaf in it. -/
def FullT : Tree → Prop
  | .leaf => False
  | .arr _ _ _ m _ _ _ _ k sub => ∀ i, i < m → ∀ j, j < k i → FullT (sub i j)

theorem ArrP.full {w : World} : ∀ (A : Tree) (c0 c1 c2 : Value), ArrP w A c0 c1 c2 → FullT A := by
  intro A
  induction A with
  | leaf => intro c0 c1 c2 h; exact (ArrP.leaf h).elim
  | arr S n sh m L K C N k sub ih =>
    intro c0 c1 c2 h i hi j hj
    obtain ⟨_, _, h3⟩ := arr_labels h
    obtain ⟨d0, d1, d2, r⟩ := h3 i hi j hj
    exact ih i j d0 d1 d2 r

theorem same_refl : ∀ A, FullT A → SameT A A := by
  intro A
  induction A with
  | leaf => intro h; exact h.elim
  | arr S n sh m L K C N k sub ih =>
    intro h
    exact ⟨rfl, ⟨rfl, fun _ _ => rfl⟩, rfl, fun i hi => ⟨rfl, rfl, rfl, ⟨rfl, ⟨rfl, fun _ _ => rfl⟩, rfl, fun _ _ => rfl⟩, rfl, fun j hj => ih i j (h i hi j hj)⟩⟩

theorem cover_full (l : Nat) (er : Bool) : ∀ A, FullT A → FullT (coverT A l er) := by
  intro A
  induction A with
  | leaf => intro h; exact h.elim
  | arr S n sh m L K C N k sub ih => intro h i hi j hj; exact ih i j (h i hi j hj)

/-- Unpacked, what was packed matches the array (unless it is a box alone). -/
theorem packed_match {A : Tree} (h : FullT A) (hb : ∀ S n sh m L K C N k sub, A = .arr S n sh m L K C N k sub → n = 0 → m = 1 → K 0 ≠ 2) : MatchT (unpackT (packT A)) A := by
  obtain _ | ⟨S, n, sh, m, L, K, C, N, k, sub⟩ := A
  · exact h.elim
  · by_cases hnm : n = 0 ∧ m = 1
    · obtain ⟨rfl, rfl⟩ := hnm
      have hK := hb S 0 sh 1 L K C N k sub rfl rfl rfl
      have e1 : packT (.arr S 0 sh 1 L K C N k sub) = ⟨orL S (L 0), K 0, N 0, C 0, k 0, sub 0⟩ := by simp [packT]
      have e2 : unpackT ⟨orL S (L 0), K 0, N 0, C 0, k 0, sub 0⟩ = .arr (orL S (L 0)) 0 (fun _ => 0) 1 (fun _ => orL S (L 0)) (fun _ => K 0) (fun _ => C 0) (fun _ => N 0) (fun _ => k 0) (fun _ => sub 0) := if_neg fun e => hK e.1
      rw [e1, e2]
      refine ⟨rfl, ⟨rfl, fun j hj => absurd hj (Nat.not_lt_zero j)⟩, rfl, fun i hi => ?_⟩
      obtain rfl : i = 0 := by omega
      exact ⟨rfl, rfl, rfl, ⟨rfl, ⟨rfl, fun _ _ => rfl⟩, rfl, fun _ _ => rfl⟩, rfl, fun j hj => same_refl _ (cover_full 0 true _ (h 0 hi j hj))⟩
    · have e1 : packT (.arr S n sh m L K C N k sub) = ⟨S, 2, zeroN, 0, 1, fun _ => .arr S n sh m L K C N k sub⟩ := if_neg hnm
      have e2 : unpackT ⟨S, 2, zeroN, 0, 1, fun _ => .arr S n sh m L K C N k sub⟩ = raiseT (.arr S n sh m L K C N k sub) S := if_pos ⟨rfl, rfl⟩
      rw [e1, e2]
      exact same_refl _ (cover_full 0 true (.arr S n sh m L K C N k sub) h)

/-- No label has got lower. -/
theorem packed_flows {A : Tree} (h : FullT A) (hb : ∀ S n sh m L K C N k sub, A = .arr S n sh m L K C N k sub → n = 0 → m = 1 → K 0 ≠ 2) : FlowsL (totalT A) (totalT (unpackT (packT A))) ∧ ∀ S n sh m L K C N k sub S' n' sh' m' L' K' C' N' k' sub', A = .arr S n sh m L K C N k sub → unpackT (packT A) = .arr S' n' sh' m' L' K' C' N' k' sub' → FlowsL S S' := by
  obtain _ | ⟨S, n, sh, m, L, K, C, N, k, sub⟩ := A
  · exact h.elim
  · by_cases hnm : n = 0 ∧ m = 1
    · obtain ⟨rfl, rfl⟩ := hnm
      have hK := hb S 0 sh 1 L K C N k sub rfl rfl rfl
      have e1 : packT (.arr S 0 sh 1 L K C N k sub) = ⟨orL S (L 0), K 0, N 0, C 0, k 0, sub 0⟩ := by simp [packT]
      have e2 : unpackT ⟨orL S (L 0), K 0, N 0, C 0, k 0, sub 0⟩ = .arr (orL S (L 0)) 0 (fun _ => 0) 1 (fun _ => orL S (L 0)) (fun _ => K 0) (fun _ => C 0) (fun _ => N 0) (fun _ => k 0) (fun _ => sub 0) := if_neg fun e => hK e.1
      rw [e1, e2]
      have g := (total_flows (S := orL S (L 0)) (n := 0) (sh := fun _ => 0) (m := 1) (L := fun _ => orL S (L 0)) (K := fun _ => K 0) (C := fun _ => C 0) (N := fun _ => N 0) (k := fun _ => k 0) (sub := fun _ => sub 0) _).1 (flows_refl _)
      refine ⟨(total_flows _).2 ⟨(flows_left S (L 0)).trans g.1, fun i hi => ?_⟩, ?_⟩
      · obtain rfl : i = 0 := by omega
        exact ⟨(flows_right S (L 0)).trans g.1, fun j hj => (g.2 0 hi).2 j hj⟩
      · rintro _ _ _ _ _ _ _ _ _ _ _ _ _ _ _ _ _ _ _ _ e f
        cases e; cases f
        exact flows_left S (L 0)
    · have e1 : packT (.arr S n sh m L K C N k sub) = ⟨S, 2, zeroN, 0, 1, fun _ => .arr S n sh m L K C N k sub⟩ := if_neg hnm
      have e2 : unpackT ⟨S, 2, zeroN, 0, 1, fun _ => .arr S n sh m L K C N k sub⟩ = raiseT (.arr S n sh m L K C N k sub) S := if_pos ⟨rfl, rfl⟩
      rw [e1, e2]
      have g := (total_flows (S := orL S S) (n := n) (sh := sh) (m := m) (L := L) (K := K) (C := C) (N := N) (k := k) (sub := sub) _).1 (flows_refl _)
      refine ⟨(total_flows _).2 ⟨(flows_left S S).trans g.1, g.2⟩, ?_⟩
      rintro _ _ _ _ _ _ _ _ _ _ _ _ _ _ _ _ _ _ _ _ e f
      cases e; cases f
      exact flows_left S S

/-- A cell alone, as an array. -/
def scalarT (c : CellD) : Tree := .arr 0 0 (fun _ => 0) 1 (fun _ => c.L) (fun _ => c.K) (fun _ => c.C) (fun _ => c.N) (fun _ => c.k) (fun _ => c.sub)

theorem scalar_flows {S n m : Nat} {sh : Nat → Int} {L : Nat → Nat} {K C : Nat → Int} {N : Nat → NumF} {k : Nat → Nat} {sub : Nat → Nat → Tree} (hn : n = 0) (hm : m = 1) : FlowsL (totalT (.arr S n sh m L K C N k sub)) (totalT (scalarT (packT (.arr S n sh m L K C N k sub)))) := by
  subst hn; subst hm
  have e1 : packT (.arr S 0 sh 1 L K C N k sub) = ⟨orL S (L 0), K 0, N 0, C 0, k 0, sub 0⟩ := by simp [packT]
  rw [e1]
  have g := (total_flows (S := 0) (n := 0) (sh := fun _ => 0) (m := 1) (L := fun _ => orL S (L 0)) (K := fun _ => K 0) (C := fun _ => C 0) (N := fun _ => N 0) (k := fun _ => k 0) (sub := fun _ => sub 0) _).1 (flows_refl _)
  refine (total_flows _).2 ⟨(flows_left S (L 0)).trans (g.2 0 (by decide)).1, fun i hi => ?_⟩
  obtain rfl : i = 0 := by omega
  exact ⟨(flows_right S (L 0)).trans (g.2 0 hi).1, fun j hj => (g.2 0 hi).2 j hj⟩

end Go.Proofs.Ytlfilpjiepdejaa

namespace Go.Proofs.Ytlfilpjiepdejaa
open Go.RowKit Num

/-- Each tag of a is one of o. -/
def seesL (a o : Nat) : Bool := (List.range 64).all fun i => !hasL a i || hasL o i

theorem sees_iff (a o : Nat) : seesL a o = true ↔ FlowsL a o := by
  unfold seesL FlowsL
  rw [List.all_eq_true]
  constructor
  · intro h i hi ha
    have := h i (List.mem_range.2 hi)
    rw [ha] at this
    simpa using this
  · intro h i hi
    cases e : hasL a i with
    | false => rfl
    | true => rw [h i (List.mem_range.1 hi) e]; rfl

theorem sees_false {a o : Nat} (h : ¬ FlowsL a o) : seesL a o = false := by
  cases e : seesL a o with
  | false => rfl
  | true => exact absurd ((sees_iff a o).1 e) h

theorem sees_true {a o : Nat} (h : FlowsL a o) : seesL a o = true := (sees_iff a o).2 h

theorem tell_of_same {v : Value} {w w' : World} {e : Ending} (h : e = .returned v ∧ w = w') : Tell v w e w' := ⟨h.1, h.2 ▸ Below.refl _ _⟩

theorem seesF_any (a b : Nat) (w : World) (ha : IsL a) (hb : IsL b) : Calls Try.prog 21 #[.int .u64 a, .int .u64 b] w fun e w' => e = .returned (.bool (seesL a b)) ∧ w = w' := by
  refine (flows01_any a b ha hb w).mono ?_
  rintro e w' ⟨⟨rfl, h⟩ | ⟨rfl, h⟩, rfl⟩
  · exact ⟨by rw [sees_true h], rfl⟩
  · exact ⟨by rw [sees_false h], rfl⟩

/-- All tags. -/
def secL : Nat := 18446744073709551615

theorem secL_is : IsL secL := by unfold secL IsL; decide

theorem secL_has (i : Nat) (hi : i < 64) : hasL secL i = true := by
  rw [hasL_bit]
  have e : secL = 2 ^ 64 - 1 := rfl
  rw [e, Nat.testBit_two_pow_sub_one, decide_eq_true_eq]
  exact hi

/-- Who does not see one label does not see all tags. -/
theorem sec_hidden {a o : Nat} (h : seesL a o = false) : seesL secL o = false := by
  cases e : seesL secL o with
  | false => rfl
  | true =>
    have h2 : FlowsL a o := fun i hi _ => (sees_iff secL o).1 e i hi (secL_has i hi)
    rw [sees_true h2] at h
    exact h

/-- What is seen of a cell: s are the arrays in it, hidden. -/
def hideD (o : Nat) (c : CellD) (s : Nat → Tree) : CellD := if seesL c.L o = true then ⟨c.L, c.K, c.N, c.C, c.k, s⟩ else ⟨secL, 0, zeroN, 0, 0, fun _ => .leaf⟩

/-- What is seen of an array. -/
def hideT : Tree → Nat → Tree
  | .leaf, _ => .leaf
  | .arr S n sh m L K C N k sub, o => if seesL S o = true then
      .arr S n sh m (fun i => (hideD o ⟨L i, K i, N i, C i, k i, sub i⟩ (fun j => hideT (sub i j) o)).L) (fun i => (hideD o ⟨L i, K i, N i, C i, k i, sub i⟩ (fun j => hideT (sub i j) o)).K)
        (fun i => (hideD o ⟨L i, K i, N i, C i, k i, sub i⟩ (fun j => hideT (sub i j) o)).C) (fun i => (hideD o ⟨L i, K i, N i, C i, k i, sub i⟩ (fun j => hideT (sub i j) o)).N)
        (fun i => (hideD o ⟨L i, K i, N i, C i, k i, sub i⟩ (fun j => hideT (sub i j) o)).k) (fun i => (hideD o ⟨L i, K i, N i, C i, k i, sub i⟩ (fun j => hideT (sub i j) o)).sub)
    else .arr secL 0 (fun _ => 0) 0 (fun _ => 0) (fun _ => 0) (fun _ => 0) (fun _ => zeroN) (fun _ => 0) (fun _ _ => .leaf)

/-- What is seen of a cell. -/
def hideC (c : CellD) (o : Nat) : CellD := hideD o c fun j => hideT (c.sub j) o

/-- Two cells that an observer sees no difference between: P tells it of the arrays in them. -/
def AlikeC (L : Nat) (K : Int) (N : NumF) (C : Int) (k : Nat) (L' : Nat) (K' : Int) (N' : NumF) (C' : Int) (k' : Nat) (o : Nat) (P : Nat → Prop) : Prop :=
  (seesL L o = false ∧ seesL L' o = false) ∨ (seesL L o = true ∧ seesL L' o = true ∧ SameC L K N C k L' K' N' C' k' P)

/-- Two arrays that an observer sees no difference between, label by label. -/
def AlikeT : Tree → Tree → Nat → Prop
  | .leaf, _, _ => False
  | .arr S n sh m L K C N k sub, B, o => match B with
    | .leaf => False
    | .arr S' n' sh' m' L' K' C' N' k' sub' => (seesL S o = false ∧ seesL S' o = false) ∨ (seesL S o = true ∧ seesL S' o = true ∧
        S = S' ∧ SameZ n n' sh sh' ∧ m = m' ∧ ∀ i, i < m → AlikeC (L i) (K i) (N i) (C i) (k i) (L' i) (K' i) (N' i) (C' i) (k' i) o (fun j => AlikeT (sub i j) (sub' i j) o))

theorem SameF.refl (N : NumF) : SameF N N := ⟨rfl, ⟨rfl, fun _ _ => rfl⟩, ⟨rfl, fun _ _ => rfl⟩⟩

theorem SameF.symm {N M : NumF} (h : SameF N M) : SameF M N := ⟨h.1.symm, ⟨h.2.1.1.symm, fun j hj => (h.2.1.2 j (by have := h.2.1.1; omega)).symm⟩, ⟨h.2.2.1.symm, fun j hj => (h.2.2.2 j (by have := h.2.2.1; omega)).symm⟩⟩

theorem SameF.trans {N M O : NumF} (h : SameF N M) (k : SameF M O) : SameF N O :=
  ⟨h.1.trans k.1, ⟨h.2.1.1.trans k.2.1.1, fun j hj => (h.2.1.2 j hj).trans (k.2.1.2 j (by have := h.2.1.1; omega))⟩, ⟨h.2.2.1.trans k.2.2.1, fun j hj => (h.2.2.2 j hj).trans (k.2.2.2 j (by have := h.2.2.1; omega))⟩⟩

theorem SameZ.symm' {n m : Nat} {f g : Nat → Int} (h : SameZ n m f g) : SameZ m n g f := ⟨h.1.symm, fun j hj => (h.2 j (by have := h.1; omega)).symm⟩

theorem SameZ.trans' {n m l : Nat} {f g e : Nat → Int} (h : SameZ n m f g) (k : SameZ m l g e) : SameZ n l f e := ⟨h.1.trans k.1, fun j hj => (h.2 j hj).trans (k.2 j (by have := h.1; omega))⟩

theorem alike_refl (o : Nat) : ∀ A, FullT A → AlikeT A A o := by
  intro A
  induction A with
  | leaf => intro h; exact h.elim
  | arr S n sh m L K C N k sub ih =>
    intro h
    cases e : seesL S o with
    | false => exact .inl ⟨e, e⟩
    | true =>
      refine .inr ⟨e, e, rfl, ⟨rfl, fun _ _ => rfl⟩, rfl, fun i hi => ?_⟩
      cases e2 : seesL (L i) o with
      | false => exact .inl ⟨e2, e2⟩
      | true => exact .inr ⟨e2, e2, rfl, rfl, rfl, SameF.refl _, rfl, fun j hj => ih i j (h i hi j hj)⟩

theorem alike_symm (o : Nat) : ∀ A B, AlikeT A B o → AlikeT B A o := by
  intro A
  induction A with
  | leaf => intro B h; exact h.elim
  | arr S n sh m L K C N k sub ih =>
    intro B h
    obtain _ | ⟨S', n', sh', m', L', K', C', N', k', sub'⟩ := B
    · exact h.elim
    rcases h with ⟨a, b⟩ | ⟨a, b, h1, h2, h3, h4⟩
    · exact .inl ⟨b, a⟩
    · refine .inr ⟨b, a, h1.symm, h2.symm', h3.symm, fun i hi => ?_⟩
      rcases h4 i (by omega) with ⟨p, q⟩ | ⟨p, q, r1, r2, r3, r4, r5, r6⟩
      · exact .inl ⟨q, p⟩
      · exact .inr ⟨q, p, r1.symm, r2.symm, r3.symm, r4.symm, r5.symm, fun j hj => ih i j _ (r6 j (by omega))⟩

theorem alike_trans (o : Nat) : ∀ A B D, AlikeT A B o → AlikeT B D o → AlikeT A D o := by
  intro A
  induction A with
  | leaf => intro B D h; exact h.elim
  | arr S n sh m L K C N k sub ih =>
    intro B D h g
    obtain _ | ⟨S', n', sh', m', L', K', C', N', k', sub'⟩ := B
    · exact h.elim
    obtain _ | ⟨T, p, th, q, M, J, E, O, l, tub⟩ := D
    · exact g.elim
    rcases h with ⟨a, b⟩ | ⟨a, b, h1, h2, h3, h4⟩ <;> rcases g with ⟨c, d⟩ | ⟨c, d, g1, g2, g3, g4⟩
    · exact .inl ⟨a, d⟩
    · rw [b] at c; cases c
    · rw [b] at c; cases c
    · refine .inr ⟨a, d, h1.trans g1, h2.trans' g2, h3.trans g3, fun i hi => ?_⟩
      rcases h4 i hi with ⟨a', b'⟩ | ⟨a', b', r1, r2, r3, r4, r5, r6⟩ <;> rcases g4 i (by omega) with ⟨c', d'⟩ | ⟨c', d', s1, s2, s3, s4, s5, s6⟩
      · exact .inl ⟨a', d'⟩
      · rw [b'] at c'; cases c'
      · rw [b'] at c'; cases c'
      · exact .inr ⟨a', d', r1.trans s1, r2.trans s2, r3.trans s3, r4.trans s4, r5.trans s5, fun j hj => ih i j _ _ (r6 j hj) (s6 j (by omega))⟩

/-- Who sees less sees no more differences. -/
theorem alike_less {o p : Nat} (hp : ∀ a, seesL a p = true → seesL a o = true) : ∀ A B, AlikeT A B o → AlikeT A B p := by
  intro A
  induction A with
  | leaf => intro B h; exact h.elim
  | arr S n sh m L K C N k sub ih =>
    intro B h
    obtain _ | ⟨S', n', sh', m', L', K', C', N', k', sub'⟩ := B
    · exact h.elim
    have no : ∀ a, seesL a o = false → seesL a p = false := fun a h => by
      cases e : seesL a p with
      | false => rfl
      | true => rw [hp a e] at h; exact h
    rcases h with ⟨a, b⟩ | ⟨a, b, h1, h2, h3, h4⟩
    · exact .inl ⟨no _ a, no _ b⟩
    · cases e : seesL S p with
      | false => exact .inl ⟨e, by rw [← h1]; exact e⟩
      | true =>
        refine .inr ⟨e, by rw [← h1]; exact e, h1, h2, h3, fun i hi => ?_⟩
        rcases h4 i hi with ⟨a', b'⟩ | ⟨a', b', r1, r2, r3, r4, r5, r6⟩
        · exact .inl ⟨no _ a', no _ b'⟩
        · cases e2 : seesL (L i) p with
          | false => exact .inl ⟨e2, by rw [← r1]; exact e2⟩
          | true => exact .inr ⟨e2, by rw [← r1]; exact e2, r1, r2, r3, r4, r5, fun j hj => ih i j _ (r6 j hj)⟩

/-- Who sees all sees each difference. -/
theorem alike_all {o : Nat} (ho : ∀ a, seesL a o = true) : ∀ A B, AlikeT A B o ↔ SameT A B := by
  intro A
  induction A with
  | leaf => intro B; exact ⟨fun h => h.elim, fun h => h.elim⟩
  | arr S n sh m L K C N k sub ih =>
    intro B
    obtain _ | ⟨S', n', sh', m', L', K', C', N', k', sub'⟩ := B
    · exact ⟨fun h => h.elim, fun h => h.elim⟩
    constructor
    · rintro (⟨a, b⟩ | ⟨a, b, h1, h2, h3, h4⟩)
      · rw [ho] at a; cases a
      · refine ⟨h1, h2, h3, fun i hi => ?_⟩
        rcases h4 i hi with ⟨a', b'⟩ | ⟨a', b', r1, r2, r3, r4, r5, r6⟩
        · rw [ho] at a'; cases a'
        · exact ⟨r1, r2, r3, r4, r5, fun j hj => (ih i j _).1 (r6 j hj)⟩
    · rintro ⟨h1, h2, h3, h4⟩
      refine .inr ⟨ho _, ho _, h1, h2, h3, fun i hi => ?_⟩
      obtain ⟨r1, r2, r3, r4, r5, r6⟩ := h4 i hi
      exact .inr ⟨ho _, ho _, r1, r2, r3, r4, r5, fun j hj => (ih i j _).2 (r6 j hj)⟩

end Go.Proofs.Ytlfilpjiepdejaa

namespace Go.Proofs.Ytlfilpjiepdejaa
open Go.RowKit Num

theorem sees_or {a l o : Nat} : seesL (orL a l) o = true ↔ seesL a o = true ∧ seesL l o = true := by
  rw [sees_iff, sees_iff, sees_iff]
  exact ⟨fun h => ⟨(flows_left a l).trans h, (flows_right a l).trans h⟩, fun ⟨h, k⟩ => flows_or h k⟩

theorem sees_or_false {a l o : Nat} (h : seesL l o = false) : seesL (orL a l) o = false := by
  cases e : seesL (orL a l) o with
  | false => rfl
  | true => rw [(sees_or.1 e).2] at h; exact h

/-- Covered with a label that is not seen, arrays are alike. -/
theorem cover_hidden {A B : Tree} {l o : Nat} (h : seesL l o = false) (hA : A ≠ .leaf) (hB : B ≠ .leaf) : AlikeT (coverT A l false) (coverT B l false) o := by
  obtain _ | ⟨S, n, sh, m, L, K, C, N, k, sub⟩ := A
  · exact absurd rfl hA
  obtain _ | ⟨S', n', sh', m', L', K', C', N', k', sub'⟩ := B
  · exact absurd rfl hB
  exact .inl ⟨sees_or_false h, sees_or_false h⟩

/-- With one that is seen they are as they were. -/
theorem cover_seen {l o : Nat} (h : seesL l o = true) : ∀ A B, AlikeT A B o → AlikeT (coverT A l false) (coverT B l false) o := by
  have yes : ∀ {a}, seesL a o = true → seesL (labB false a l) o = true := fun h2 => sees_or.2 ⟨h2, h⟩
  have no : ∀ {a}, seesL a o = false → seesL (labB false a l) o = false := fun {a} h2 => by
    cases e : seesL (labB false a l) o with
    | false => rfl
    | true => rw [(sees_or.1 e).1] at h2; exact h2
  intro A
  induction A with
  | leaf => intro B k; exact k.elim
  | arr S n sh m L K C N k sub ih =>
    intro B g
    obtain _ | ⟨S', n', sh', m', L', K', C', N', k', sub'⟩ := B
    · exact g.elim
    rcases g with ⟨a, b⟩ | ⟨a, b, h1, h2, h3, h4⟩
    · exact .inl ⟨no a, no b⟩
    · refine .inr ⟨yes a, yes b, by rw [h1], h2, h3, fun i hi => ?_⟩
      rcases h4 i hi with ⟨a', b'⟩ | ⟨a', b', r1, r2, r3, r4, r5, r6⟩
      · exact .inl ⟨no a', no b'⟩
      · exact .inr ⟨yes a', yes b', (show labB false (L i) l = labB false (L' i) l by rw [r1]), r2, r3, r4, r5, fun j hj => ih i j _ (r6 j hj)⟩

theorem hideD_seen {o : Nat} {c : CellD} {s : Nat → Tree} (h : seesL c.L o = true) : hideD o c s = ⟨c.L, c.K, c.N, c.C, c.k, s⟩ := if_pos h

theorem hideD_hidden {o : Nat} {c : CellD} {s : Nat → Tree} (h : seesL c.L o = false) : hideD o c s = ⟨secL, 0, zeroN, 0, 0, fun _ => .leaf⟩ := if_neg (by rw [h]; decide)

theorem hideT_seen {S n m : Nat} {sh : Nat → Int} {L : Nat → Nat} {K C : Nat → Int} {N : Nat → NumF} {k : Nat → Nat} {sub : Nat → Nat → Tree} {o : Nat} (h : seesL S o = true) :
    hideT (.arr S n sh m L K C N k sub) o = .arr S n sh m (fun i => (hideD o ⟨L i, K i, N i, C i, k i, sub i⟩ (fun j => hideT (sub i j) o)).L) (fun i => (hideD o ⟨L i, K i, N i, C i, k i, sub i⟩ (fun j => hideT (sub i j) o)).K)
        (fun i => (hideD o ⟨L i, K i, N i, C i, k i, sub i⟩ (fun j => hideT (sub i j) o)).C) (fun i => (hideD o ⟨L i, K i, N i, C i, k i, sub i⟩ (fun j => hideT (sub i j) o)).N)
        (fun i => (hideD o ⟨L i, K i, N i, C i, k i, sub i⟩ (fun j => hideT (sub i j) o)).k) (fun i => (hideD o ⟨L i, K i, N i, C i, k i, sub i⟩ (fun j => hideT (sub i j) o)).sub) := if_pos h

theorem hideT_hidden {S n m : Nat} {sh : Nat → Int} {L : Nat → Nat} {K C : Nat → Int} {N : Nat → NumF} {k : Nat → Nat} {sub : Nat → Nat → Tree} {o : Nat} (h : seesL S o = false) :
    hideT (.arr S n sh m L K C N k sub) o = .arr secL 0 (fun _ => 0) 0 (fun _ => 0) (fun _ => 0) (fun _ => 0) (fun _ => zeroN) (fun _ => 0) (fun _ _ => .leaf) := if_neg (by rw [h]; decide)

/-- Hidden, an array has no more parts, and no more are within one another. -/
theorem hide_parts (o : Nat) : ∀ A, partsT (hideT A o) ≤ partsT A := by
  intro A
  induction A with
  | leaf => exact Nat.le_refl _
  | arr S n sh m L K C N k sub ih =>
    cases e : seesL S o with
    | false =>
      rw [hideT_hidden e]
      show 1 + 0 + 0 ≤ 1 + n + sumN (fun i => 1 + (N i).an + (N i).am + sumN (fun j => partsT (sub i j)) (k i)) m
      omega
    | true =>
      rw [hideT_seen e]
      have h := sumN_le (f := fun i => 1 + ((hideD o ⟨L i, K i, N i, C i, k i, sub i⟩ (fun j => hideT (sub i j) o)).N).an + ((hideD o ⟨L i, K i, N i, C i, k i, sub i⟩ (fun j => hideT (sub i j) o)).N).am + sumN (fun j => partsT ((hideD o ⟨L i, K i, N i, C i, k i, sub i⟩ (fun j => hideT (sub i j) o)).sub j)) (hideD o ⟨L i, K i, N i, C i, k i, sub i⟩ (fun j => hideT (sub i j) o)).k)
        (g := fun i => 1 + (N i).an + (N i).am + sumN (fun j => partsT (sub i j)) (k i)) m fun i _ => by
          cases e2 : seesL (L i) o with
          | false =>
            rw [hideD_hidden (c := ⟨L i, K i, N i, C i, k i, sub i⟩) e2]
            show 1 + 0 + 0 + 0 ≤ _
            omega
          | true =>
            rw [hideD_seen (c := ⟨L i, K i, N i, C i, k i, sub i⟩) e2]
            have h2 := sumN_le (f := fun j => partsT (hideT (sub i j) o)) (g := fun j => partsT (sub i j)) (k i) fun j _ => ih i j
            show 1 + (N i).an + (N i).am + sumN (fun j => partsT (hideT (sub i j) o)) (k i) ≤ _
            omega
      show 1 + n + sumN _ m ≤ 1 + n + sumN _ m
      exact Nat.add_le_add_left h _

theorem hide_nest (o : Nat) : ∀ A d, NestT A d → NestT (hideT A o) d := by
  intro A
  induction A with
  | leaf => intro d h; exact h
  | arr S n sh m L K C N k sub ih =>
    intro d h
    cases d with
    | zero => exact h.elim
    | succ d =>
      cases e : seesL S o with
      | false => rw [hideT_hidden e]; exact fun i hi j hj => absurd hj (Nat.not_lt_zero _)
      | true =>
        rw [hideT_seen e]
        intro i hi j hj
        cases e2 : seesL (L i) o with
        | false =>
          simp only [hideD_hidden (c := ⟨L i, K i, N i, C i, k i, sub i⟩) e2] at hj
          exact absurd hj (Nat.not_lt_zero _)
        | true =>
          simp only [hideD_seen (c := ⟨L i, K i, N i, C i, k i, sub i⟩) e2] at hj ⊢
          exact ih i j d (h i hi j hj)

theorem few_hide {A : Tree} (o : Nat) (h : FewT A) : FewT (hideT A o) := ⟨Nat.le_trans (hide_parts o A) h.1, hide_nest o A 12 h.2⟩

/-- Alike, label by label, is the same, hidden. -/
theorem alike_hide (o : Nat) : ∀ A B, A ≠ .leaf → FullT A → FullT B → (AlikeT A B o ↔ SameT (hideT A o) (hideT B o)) := by
  intro A
  induction A with
  | leaf => intro B h; exact absurd rfl h
  | arr S n sh m L K C N k sub ih =>
    intro B _ hA hB
    obtain _ | ⟨S', n', sh', m', L', K', C', N', k', sub'⟩ := B
    · exact hB.elim
    cases e : seesL S o <;> cases e' : seesL S' o
    · rw [hideT_hidden e, hideT_hidden e']
      exact ⟨fun _ => ⟨rfl, ⟨rfl, fun _ _ => rfl⟩, rfl, fun i hi => absurd hi (Nat.not_lt_zero _)⟩, fun _ => .inl ⟨e, e'⟩⟩
    · rw [hideT_hidden e, hideT_seen e']
      constructor
      · rintro (⟨_, b⟩ | ⟨a, _⟩)
        · rw [e'] at b; cases b
        · rw [e] at a; cases a
      · rintro ⟨h, _⟩
        have := sec_hidden e
        rw [h, e'] at this; cases this
    · rw [hideT_seen e, hideT_hidden e']
      constructor
      · rintro (⟨b, _⟩ | ⟨_, a, _⟩)
        · rw [e] at b; cases b
        · rw [e'] at a; cases a
      · rintro ⟨h, _⟩
        have := sec_hidden e'
        rw [← h, e] at this; cases this
    · rw [hideT_seen e, hideT_seen e']
      have cell : ∀ i, i < m → m = m' → (AlikeC (L i) (K i) (N i) (C i) (k i) (L' i) (K' i) (N' i) (C' i) (k' i) o (fun j => AlikeT (sub i j) (sub' i j) o) ↔
          SameC (hideD o ⟨L i, K i, N i, C i, k i, sub i⟩ (fun j => hideT (sub i j) o)).L (hideD o ⟨L i, K i, N i, C i, k i, sub i⟩ (fun j => hideT (sub i j) o)).K (hideD o ⟨L i, K i, N i, C i, k i, sub i⟩ (fun j => hideT (sub i j) o)).N (hideD o ⟨L i, K i, N i, C i, k i, sub i⟩ (fun j => hideT (sub i j) o)).C (hideD o ⟨L i, K i, N i, C i, k i, sub i⟩ (fun j => hideT (sub i j) o)).k
            (hideD o ⟨L' i, K' i, N' i, C' i, k' i, sub' i⟩ (fun j => hideT (sub' i j) o)).L (hideD o ⟨L' i, K' i, N' i, C' i, k' i, sub' i⟩ (fun j => hideT (sub' i j) o)).K (hideD o ⟨L' i, K' i, N' i, C' i, k' i, sub' i⟩ (fun j => hideT (sub' i j) o)).N (hideD o ⟨L' i, K' i, N' i, C' i, k' i, sub' i⟩ (fun j => hideT (sub' i j) o)).C (hideD o ⟨L' i, K' i, N' i, C' i, k' i, sub' i⟩ (fun j => hideT (sub' i j) o)).k
            (fun j => SameT ((hideD o ⟨L i, K i, N i, C i, k i, sub i⟩ (fun j => hideT (sub i j) o)).sub j) ((hideD o ⟨L' i, K' i, N' i, C' i, k' i, sub' i⟩ (fun j => hideT (sub' i j) o)).sub j))) := by
        intro i hi hm
        cases f : seesL (L i) o <;> cases f' : seesL (L' i) o
        · rw [hideD_hidden (c := ⟨L i, K i, N i, C i, k i, sub i⟩) f, hideD_hidden (c := ⟨L' i, K' i, N' i, C' i, k' i, sub' i⟩) f']
          exact ⟨fun _ => ⟨rfl, rfl, rfl, SameF.refl _, rfl, fun j hj => absurd hj (Nat.not_lt_zero _)⟩, fun _ => .inl ⟨f, f'⟩⟩
        · rw [hideD_hidden (c := ⟨L i, K i, N i, C i, k i, sub i⟩) f, hideD_seen (c := ⟨L' i, K' i, N' i, C' i, k' i, sub' i⟩) f']
          constructor
          · rintro (⟨_, b⟩ | ⟨a, _⟩)
            · rw [f'] at b; cases b
            · rw [f] at a; cases a
          · rintro ⟨h, _⟩
            have h' : secL = L' i := h
            have := sec_hidden f
            rw [h', f'] at this; cases this
        · rw [hideD_seen (c := ⟨L i, K i, N i, C i, k i, sub i⟩) f, hideD_hidden (c := ⟨L' i, K' i, N' i, C' i, k' i, sub' i⟩) f']
          constructor
          · rintro (⟨b, _⟩ | ⟨_, a, _⟩)
            · rw [f] at b; cases b
            · rw [f'] at a; cases a
          · rintro ⟨h, _⟩
            have h' : L i = secL := h
            have := sec_hidden f'
            rw [← h', f] at this; cases this
        · rw [hideD_seen (c := ⟨L i, K i, N i, C i, k i, sub i⟩) f, hideD_seen (c := ⟨L' i, K' i, N' i, C' i, k' i, sub' i⟩) f']
          have full : ∀ j, j < k i → k i = k' i → sub i j ≠ .leaf ∧ FullT (sub i j) ∧ FullT (sub' i j) := fun j hj hk => ⟨fun e => by have := hA i hi j hj; rw [e] at this; exact this, hA i hi j hj, hB i (by omega) j (by omega)⟩
          constructor
          · rintro (⟨b, _⟩ | ⟨_, _, r1, r2, r3, r4, r5, r6⟩)
            · rw [f] at b; cases b
            · exact ⟨r1, r2, r3, r4, r5, fun j hj => (ih i j _ (full j hj r5).1 (full j hj r5).2.1 (full j hj r5).2.2).1 (r6 j hj)⟩
          · rintro ⟨r1, r2, r3, r4, r5, r6⟩
            exact .inr ⟨f, f', r1, r2, r3, r4, r5, fun j hj => (ih i j _ (full j hj r5).1 (full j hj r5).2.1 (full j hj r5).2.2).2 (r6 j hj)⟩
      constructor
      · rintro (⟨b, _⟩ | ⟨_, _, h1, h2, h3, h4⟩)
        · rw [e] at b; cases b
        · exact ⟨h1, h2, h3, fun i hi => (cell i hi h3).1 (h4 i hi)⟩
      · rintro ⟨h1, h2, h3, h4⟩
        exact .inr ⟨e, e', h1, h2, h3, fun i hi => (cell i hi h3).2 (h4 i hi)⟩

/-- Hidden twice is hidden once. -/
theorem hide_twice (o : Nat) : ∀ A, FullT A → SameT (hideT (hideT A o) o) (hideT A o) := by
  intro A
  induction A with
  | leaf => intro h; exact h.elim
  | arr S n sh m L K C N k sub ih =>
    intro hA
    cases e : seesL S o with
    | false =>
      rw [hideT_hidden e, hideT_hidden (sec_hidden e)]
      exact ⟨rfl, ⟨rfl, fun _ _ => rfl⟩, rfl, fun i hi => absurd hi (Nat.not_lt_zero _)⟩
    | true =>
      rw [hideT_seen e, hideT_seen e]
      refine ⟨rfl, ⟨rfl, fun _ _ => rfl⟩, rfl, fun i hi => ?_⟩
      cases f : seesL (L i) o with
      | false =>
        simp only [hideD_hidden (c := ⟨L i, K i, N i, C i, k i, sub i⟩) f]
        rw [hideD_hidden (c := ⟨secL, 0, zeroN, 0, 0, fun _ => .leaf⟩) (sec_hidden f)]
        exact ⟨rfl, rfl, rfl, SameF.refl _, rfl, fun j hj => absurd hj (Nat.not_lt_zero _)⟩
      | true =>
        simp only [hideD_seen (c := ⟨L i, K i, N i, C i, k i, sub i⟩) f]
        rw [hideD_seen (c := ⟨L i, K i, N i, C i, k i, fun j => hideT (sub i j) o⟩) f]
        exact ⟨rfl, rfl, rfl, SameF.refl _, rfl, fun j hj => ih i j (hA i hi j hj)⟩

theorem hide_full (o : Nat) : ∀ A, FullT A → FullT (hideT A o) := by
  intro A
  induction A with
  | leaf => intro h; exact h.elim
  | arr S n sh m L K C N k sub ih =>
    intro hA
    cases e : seesL S o with
    | false => rw [hideT_hidden e]; exact fun i hi => absurd hi (Nat.not_lt_zero _)
    | true =>
      rw [hideT_seen e]
      intro i hi j hj
      cases f : seesL (L i) o with
      | false =>
        simp only [hideD_hidden (c := ⟨L i, K i, N i, C i, k i, sub i⟩) f] at hj
        exact absurd hj (Nat.not_lt_zero _)
      | true =>
        simp only [hideD_seen (c := ⟨L i, K i, N i, C i, k i, sub i⟩) f] at hj ⊢
        exact ih i j (hA i hi j hj)

end Go.Proofs.Ytlfilpjiepdejaa

namespace Go.Proofs.Ytlfilpjiepdejaa
open Go.RowKit Num

/-- An array, of blocks below D and of new ones. -/
def TreeQ (A : Tree) (D : Nat) (w : World) (e : Ending) (w' : World) : Prop := (∃ f0 f1 f2, e = .returned (.agg #[f0, f1, f2]) ∧ ArrQ w' (fun b => b < D ∨ w.heap.size ≤ b) A f0 f1 f2) ∧ Below w.heap.size w w'

def CellDQ (w : World) (Q : Nat → Prop) (c : CellD) (e : Nat → Value) : Prop := CellQ w Q c.L c.K c.N c.C c.k (fun j d0 d1 d2 => ArrQ w Q (c.sub j) d0 d1 d2) e

def CellDPost (c : CellD) (D : Nat) (w : World) (r : Ending) (w' : World) : Prop := (∃ v : Nat → Value, r = .returned (.agg #[v 0, v 1, v 2, v 3, v 4, v 5, v 6]) ∧ CellDQ w' (fun b => b < D ∨ w.heap.size ≤ b) c v) ∧ Below w.heap.size w w'

/-- What Hide tells of an array whose blocks are below D. -/
def HideOf (A : Tree) (o D : Nat) : Prop := ∀ (d0 d1 d2 : Value) (w : World), ArrQ w (· < D) A d0 d1 d2 → D ≤ w.heap.size →
  Calls Try.prog 12 #[.agg #[d0, d1, d2], .int .u64 o] w (TreeQ (hideT A o) D w)

/-- What Cell tells of a cell whose blocks are below D. -/
def HideCellOf (c : CellD) (o D : Nat) : Prop := ∀ (e : Nat → Value) (w : World), CellDQ w (· < D) c e → D ≤ w.heap.size →
  Calls Try.prog 15 #[.agg #[e 0, e 1, e 2, e 3, e 4, e 5, e 6], .int .u64 o] w (CellDPost (hideC c o) D w)

theorem hideC_seen {c : CellD} {o : Nat} (h : seesL c.L o = true) : hideC c o = ⟨c.L, c.K, c.N, c.C, c.k, fun j => hideT (c.sub j) o⟩ := hideD_seen h

theorem hideC_hidden {c : CellD} {o : Nat} (h : seesL c.L o = false) : hideC c o = ⟨secL, 0, zeroN, 0, 0, fun _ => .leaf⟩ := hideD_hidden h

theorem num_zero (w : World) (Q : Nat → Prop) : NumQ w Q zeroN (.bool false) (.slice none 0 0) (.slice none 0 0) :=
  ⟨rfl, ⟨none, 0, rfl, ⟨Nat.le_refl _, by decide, by decide⟩, .inl rfl, fun j hj => absurd hj (Nat.not_lt_zero _)⟩, ⟨none, 0, rfl, ⟨Nat.le_refl _, by decide, by decide⟩, .inl rfl, fun j hj => absurd hj (Nat.not_lt_zero _)⟩⟩

theorem CovIn.beside {w : World} {D U u B : Nat} {W : Value} {ds : Nat → List Value} {T : Nat → Tree} (h : CovIn w D U u W ds T) (hD : D ≤ B) (hB : B ≤ U) (t : Nat) (v : Value) : CovIn (w.setCell ⟨B, t, none⟩ v) D U u W ds T := by
  have hk : ∀ b, b ≠ B → (w.setCell ⟨B, t, none⟩ v).heap[b]? = w.heap[b]? := fun _ hb => Below.heap_setCell _ _ _ _ hb
  refine ⟨own_but h.row hk fun g hg => ?_, fun y hy => ?_⟩
  · have := (h.row.lt g hg).1; omega
  · obtain ⟨d0, d1, d2, e, k⟩ := h.arrs y hy
    exact ⟨d0, d1, d2, e, ArrQ.keep (fun b hq _ => hk b (by rcases hq.1 with h | h <;> omega)) (fun _ hq _ => hq) _ _ _ _ k⟩

set_option maxRecDepth 20000 in
set_option maxHeartbeats 8000000 in
theorem hideCell_of (c : CellD) (o D : Nat) (ho : IsL o) (hk40 : c.k ≤ 4000) (ih : ∀ j, j < c.k → HideOf (c.sub j) o D) : HideCellOf c o D := by
  obtain ⟨iA, hA0, hA1, hA2, hA3⟩ := info_parts infoArr
  obtain ⟨L, K, N, C, k, sub⟩ := c
  intro e w h hD
  obtain ⟨q0, qL, q1, qK, ⟨q2, ⟨a1, ac, q3, ha, hsa, hla⟩, ⟨b1, bc, q4, hb', hsb, hlb⟩⟩, q5, qC, io, kc, q6, hk, hrow⟩ := h
  rw [q0, q1, q2, q3, q4, q5, q6]
  have kk1 := hk.1; have kk2 := hk.2.1
  have hnum := Lib.hid (show NumQ w (· < D) N (.bool N.neg) (.slice a1 N.an ac) (.slice b1 N.am bc) from ⟨rfl, ⟨a1, ac, rfl, ha, hsa, hla⟩, ⟨b1, bc, rfl, hb', hsb, hlb⟩⟩)
  have hrow' := Lib.hid hrow; have hk' := Lib.hid hk; have hqL := Lib.hid qL; have hqK := Lib.hid qK; have hqC := Lib.hid qC
  have ho' := Lib.hid ho
  have hk40' : k ≤ 4000 := hk40
  clear q0 qL q1 qK q2 q3 q4 q5 qC q6 ha hsa hla hb' hsb hlb hk hrow hk40 ho
  go_enter Try.func15, Try.ntmps15
  go_upto_region 1 with fail
  refine told_wp (fun w' => Below w.heap.size w w' ∧ Box7 w' w.heap.size (.int .u64 L) (.int .i64 K) (.bool N.neg) (.slice a1 N.an ac) (.slice b1 N.am bc) (.int .i64 C) (.slice io k kc) ∧ Box7 w' (w.heap.size + 1) (.int .u64 0) (.int .i64 0) (.bool false) (.slice none 0 0) (.slice none 0 0) (.int .i64 0) (.slice none 0 0) ∧ w.heap.size + 2 ≤ w'.heap.size)
    ⟨((Below.refl _ _).alloc (Nat.le_refl _) _).alloc (by first | (simp; done) | (simp; omega)) _, (Box7.new _ _ _ _ _ _ _ _ rfl).alloc _, Box7.new _ _ _ _ _ _ _ _ (by first | (simp; done) | (simp; omega)), by simp⟩ ?_
  rintro w0 ⟨bb, x, z, hs⟩
  have x0 := x.c0
  replace bb := Lib.hid bb; replace x := Lib.hid x; replace z := Lib.hid z
  go_wp2_with fail
  refine (seesF_any L o w0 hqL.out ho'.out).mono ?_
  rintro e w1 ⟨rfl, rfl⟩
  cases hsee : seesL L o with
  | false =>
    have hs' := Lib.hid hsee
    have f0 := z.out.fr 0; have f1 := z.out.fr 1; have f2 := z.out.fr 2; have f3 := z.out.fr 3; have f4 := z.out.fr 4; have f5 := z.out.fr 5; have f6 := z.out.fr 6
    have z0 := z.out.c0; have z1 := z.out.c1; have z2 := z.out.c2; have z3 := z.out.c3; have z4 := z.out.c4; have z5 := z.out.c5; have z6 := z.out.c6
    have y := z.out.setAll (.int .u64 18446744073709551615) (.int .i64 0) (.bool false) (.slice none 0 0) (.slice none 0 0) (.int .i64 0) (.slice none 0 0)
    have y0 := y.c0; have y1 := y.c1; have y2 := y.c2; have y3 := y.c3; have y4 := y.c4; have y5 := y.c5; have y6 := y.c6
    have by' := Lib.hid (below_setAll bb.out (B := w.heap.size + 1) (by omega) (.int .u64 18446744073709551615) (.int .i64 0) (.bool false) (.slice none 0 0) (.slice none 0 0) (.int .i64 0) (.slice none 0 0))
    clear y x z bb hsee
    go_wp2_with fail
    refine bodyPost_ret (v := .agg #[.int .u64 18446744073709551615, .int .i64 0, .bool false, .slice none 0 0, .slice none 0 0, .int .i64 0, .slice none 0 0]) (by simp [results, Try.results15, go_sem, y0, y1, y2, y3, y4, y5, y6]) rfl ?_
    refine ⟨⟨(fun i => (#[.int .u64 18446744073709551615, .int .i64 0, .bool false, .slice none 0 0, .slice none 0 0, .int .i64 0, .slice none 0 0] : Array Value).getD i (.bool false)), rfl, ?_⟩, by'.out⟩
    rw [hideC_hidden (c := ⟨L, K, N, C, k, sub⟩) hs'.out]
    exact ⟨rfl, secL_is, rfl, ⟨by decide, by decide⟩, num_zero _ _, rfl, ⟨by decide, by decide⟩, none, 0, rfl, ⟨Nat.le_refl _, by decide, by decide⟩, .inl rfl⟩
  | true =>
    have hs' := Lib.hid hsee
    clear hsee x0
    go_wp2_with fail
    go_loopw [5, 6] (fun W j wi => ∃ (u : Nat) (ds : Nat → List Value), u ≤ k ∧ j = .int .i64 u ∧ Hid (Below w.heap.size w wi) ∧ Hid (Box7 wi w.heap.size (.int .u64 L) (.int .i64 K) (.bool N.neg) (.slice a1 N.an ac) (.slice b1 N.am bc) (.int .i64 C) (.slice io k kc)) ∧ Hid (Box7 wi (w.heap.size + 1) (.int .u64 0) (.int .i64 0) (.bool false) (.slice none 0 0) (.slice none 0 0) (.int .i64 0) (.slice none 0 0)) ∧ Hid (CovIn wi D (w.heap.size + 1) u W ds (fun y => hideT (sub y) o)) ∧ w.heap.size + 2 ≤ wi.heap.size) (fun _ j _ => k - (intOfZ j).toNat)
    case atStart => exact ⟨0, fun _ => [], Nat.zero_le _, rfl, bb, x, z, Lib.hid ⟨World.ownsRow_nil _ _ _ _, fun y hy => by omega⟩, hs⟩
    case round =>
      obtain ⟨u, ds, hu, rfl, bi, xi, zi, hin, hUi⟩ := hrel
      clear bb x z hs
      have p6 := xi.out.c6
      by_cases hul : u < k
      · rcases hrow'.out with h0 | ⟨b', o', rfl, hbD', hrows⟩
        · omega
        obtain ⟨d0, d1, d2, r0, r1, r2, r3⟩ := hrows u hul
        have s0 := cell_below r0 bi.out; have s1 := cell_below r1 bi.out; have s2 := cell_below r2 bi.out
        have hA := Lib.hid (ArrQ.keep (Q' := (· < D)) (fun b _ hb => bi.out.block b hb) (fun b hq _ => hq) _ _ _ _ r3)
        clear hrows r0 r1 r2 r3
        go_wp2_with fail
        refine (ih u hul d0 d1 d2 _ hA.out (by omega)).mono ?_
        rintro e2 w2 ⟨⟨f0, f1, f2, rfl, hf⟩, hb2⟩
        obtain ⟨S2, n2', nc2, m2', mc2, ao2, co2, rfl, rfl, rfl⟩ := hf.form
        have b2 := Lib.hid (below_then bi.out (Nat.le_refl _) hb2)
        have x2 := Lib.hid (xi.out.below hb2 (by omega))
        have z2 := Lib.hid (zi.out.below hb2 (by omega))
        have hin2 := Lib.hid (hin.out.later hb2)
        have hWs := Lib.hid (fun g hg => (hin.out.row.lt g hg).2)
        have hf' := Lib.hid hf
        have hU2 : w.heap.size + 2 ≤ w2.heap.size := Nat.le_trans hUi hb2.size
        clear bi xi zi hin hf s0 s1 s2 hA p6 hb2
        go_wp2_with (at_builtin; refine wpList_append_lies _ rfl (.tmp 20) (.tmp 28) 30 rfl (w.heap.size + 2) 26 iA _ 3 56 Try.underlying30 hA0 hA1 hA2 hA3 rfl (by decide) _ u (rowsN ds u) rfl (hin2.out.row.alloc _) ⟨w2.heap.size, 0, none⟩ 1 1 [.int .u64 S2, .slice ao2 n2' nc2, .slice co2 m2' mc2] rfl rfl (three_at w2 _ _ _ _) (by intro u hu; simp at hu; rcases hu with rfl | rfl | rfl <;> rfl) (by decide) (by unfold maxLen; omega) (by omega) (by simp; omega) (w2.heap.size + 1) (by simp) ?_)
        intro g cap w4 hown hgr hat hgl
        have hin4 := Lib.hid (hin2.out.step (by omega) hWs.out (by omega) hf'.out _ hown hgr hat)
        have hb5 := ((Below.refl (w.heap.size + 2) w2).alloc (by omega) (.cells #[.int .u64 S2, .slice ao2 n2' nc2, .slice co2 m2' mc2] 26)).grown hgr (by simp; omega) (fun q hq => (hin2.out.row.lt q hq).1)
        have b4 := Lib.hid (b2.out.trans (hb5.mono (by omega)))
        have x4 := Lib.hid (x2.out.below hb5 (by omega))
        have z4 := Lib.hid (z2.out.below hb5 (by omega))
        have hU4 : w.heap.size + 2 ≤ w4.heap.size := Nat.le_trans hU2 hb5.size
        clear hown hgr hat hgl hb5 hin2 b2 x2 z2 hf' hWs
        go_wp2_with fail
        go_roundw
        case rel => exact ⟨u + 1, _, by omega, by go_num, b4, x4, z4, hin4, hU4⟩
        case measure => simp [intOfZ]; omega
      · obtain rfl : u = k := by omega
        obtain ⟨wo, wc, rfl, hw1, hw2, _⟩ := own_form hin.out.row
        have f6 := xi.out.fr 6
        go_upto_region 9 with fail
        refine told_wp (fun w' => Below w.heap.size w w' ∧ Box7 w' w.heap.size (.int .u64 L) (.int .i64 K) (.bool N.neg) (.slice a1 N.an ac) (.slice b1 N.am bc) (.int .i64 C) (.slice wo u wc) ∧ Box7 w' (w.heap.size + 1) (.int .u64 0) (.int .i64 0) (.bool false) (.slice none 0 0) (.slice none 0 0) (.int .i64 0) (.slice none 0 0) ∧ CovIn w' D (w.heap.size + 1) u (.slice wo u wc) ds (fun y => hideT (sub y) o)) ⟨bi.out.setCell (p := ⟨w.heap.size, 6, none⟩) (Nat.le_refl _) _, xi.out.set6 _, zi.out.aside (by omega) _ _, hin.out.beside hD (by omega) _ _⟩ ?_
        clear bi xi zi hin hUi p6 f6
        rintro wk ⟨bk, xk, zk, hink⟩
        have p0 := xk.c0; have p1 := xk.c1; have p2 := xk.c2; have p3 := xk.c3; have p4 := xk.c4; have p5 := xk.c5; have p6 := xk.c6
        have f0 := zk.fr 0; have f1 := zk.fr 1; have f2 := zk.fr 2; have f3 := zk.fr 3; have f4 := zk.fr 4; have f5 := zk.fr 5; have f6 := zk.fr 6
        have z0 := zk.c0; have z1 := zk.c1; have z2 := zk.c2; have z3 := zk.c3; have z4 := zk.c4; have z5 := zk.c5; have z6 := zk.c6
        have y := zk.setAll (.int .u64 L) (.int .i64 K) (.bool N.neg) (.slice a1 N.an ac) (.slice b1 N.am bc) (.int .i64 C) (.slice wo u wc)
        have y0 := y.c0; have y1 := y.c1; have y2 := y.c2; have y3 := y.c3; have y4 := y.c4; have y5 := y.c5; have y6 := y.c6
        have by' := Lib.hid (below_setAll bk (B := w.heap.size + 1) (by omega) (.int .u64 L) (.int .i64 K) (.bool N.neg) (.slice a1 N.an ac) (.slice b1 N.am bc) (.int .i64 C) (.slice wo u wc))
        replace bk := Lib.hid bk; replace hink := Lib.hid hink
        clear y xk zk
        go_wp2_with fail
        refine bodyPost_ret (v := .agg #[.int .u64 L, .int .i64 K, .bool N.neg, .slice a1 N.an ac, .slice b1 N.am bc, .int .i64 C, .slice wo u wc]) (by simp [results, Try.results15, go_sem, y0, y1, y2, y3, y4, y5, y6]) rfl ?_
        refine ⟨⟨(fun i => (#[.int .u64 L, .int .i64 K, .bool N.neg, .slice a1 N.an ac, .slice b1 N.am bc, .int .i64 C, .slice wo u wc] : Array Value).getD i (.bool false)), rfl, ?_⟩, by'.out⟩
        rw [hideC_seen (c := ⟨L, K, N, C, u, sub⟩) hs'.out]
        clear p0 p1 p2 p3 p4 p5 p6 f0 f1 f2 f3 f4 f5 f6 z0 z1 z2 z3 z4 z5 z6 y0 y1 y2 y3 y4 y5 y6
        have hset : ∀ b, (b < D ∨ w.heap.size + 2 ≤ b) → (((((((wk.setCell ⟨w.heap.size + 1, 0, none⟩ (.int .u64 L)).setCell ⟨w.heap.size + 1, 1, none⟩ (.int .i64 K)).setCell ⟨w.heap.size + 1, 2, none⟩ (.bool N.neg)).setCell ⟨w.heap.size + 1, 3, none⟩ (.slice a1 N.an ac)).setCell ⟨w.heap.size + 1, 4, none⟩ (.slice b1 N.am bc)).setCell ⟨w.heap.size + 1, 5, none⟩ (.int .i64 C)).setCell ⟨w.heap.size + 1, 6, none⟩ (.slice wo u wc)).heap[b]? = wk.heap[b]? := fun b hb => by
          have hne : b ≠ w.heap.size + 1 := by rcases hb with h | h <;> omega
          rw [Below.heap_setCell _ _ _ _ hne, Below.heap_setCell _ _ _ _ hne, Below.heap_setCell _ _ _ _ hne, Below.heap_setCell _ _ _ _ hne, Below.heap_setCell _ _ _ _ hne, Below.heap_setCell _ _ _ _ hne, Below.heap_setCell _ _ _ _ hne]
        have hc : CellQ wk (fun b => b < D ∨ w.heap.size + 2 ≤ b) L K N C u (fun j d0 d1 d2 => ArrQ wk (fun b => b < D ∨ w.heap.size + 2 ≤ b) (hideT (sub j) o) d0 d1 d2) (fun i => (#[.int .u64 L, .int .i64 K, .bool N.neg, .slice a1 N.an ac, .slice b1 N.am bc, .int .i64 C, .slice wo u wc] : Array Value).getD i (.bool false)) :=
          ⟨rfl, hqL.out, rfl, hqK.out, hnum.out.keep (fun b _ hb => bk.out.block b hb) (fun _ hq _ => .inl hq), rfl, hqC.out, wo, wc, rfl, ⟨hw1, hw2, by omega⟩, hink.out.rowQ⟩
        exact CellQ.keep hc (fun b hq _ => hset b hq) (fun b hq _ => by rcases hq with h | h; exact .inl h; exact .inr (by omega)) fun j d0 d1 d2 hd => ArrQ.keep (fun b hq _ => hset b hq) (fun b hq _ => by rcases hq with h | h; exact .inl h; exact .inr (by omega)) _ _ _ _ hd

end Go.Proofs.Ytlfilpjiepdejaa

namespace Go.Proofs.Ytlfilpjiepdejaa
open Go.RowKit Num

def mk7 (v0 v1 v2 v3 v4 v5 v6 : Value) (i : Nat) : Value := ([v0, v1, v2, v3, v4, v5, v6] : List Value).getD i undef

theorem CellDPost.form {c : CellD} {D : Nat} {w w' : World} {r : Ending} (h : CellDPost c D w r w') : ∃ (bo co io : Option Addr) (bc cc kc : Nat),
    r = .returned (.agg #[.int .u64 c.L, .int .i64 c.K, .bool c.N.neg, .slice bo c.N.an bc, .slice co c.N.am cc, .int .i64 c.C, .slice io c.k kc]) ∧
    CellDQ w' (fun b => b < D ∨ w.heap.size ≤ b) c (mk7 (.int .u64 c.L) (.int .i64 c.K) (.bool c.N.neg) (.slice bo c.N.an bc) (.slice co c.N.am cc) (.int .i64 c.C) (.slice io c.k kc)) ∧ Below w.heap.size w w' := by
  obtain ⟨⟨v, rfl, h0, hL, h1, hK, ⟨h2, ⟨ao, ac, h3, ha⟩, ⟨bo, bc, h4, hb'⟩⟩, h5, hC, io, kc, h6, hk, hrow⟩, hb⟩ := h
  rw [h0, h1, h2, h3, h4, h5, h6]
  exact ⟨ao, bo, io, ac, bc, kc, rfl, ⟨rfl, hL, rfl, hK, ⟨rfl, ⟨ao, ac, rfl, ha⟩, ⟨bo, bc, rfl, hb'⟩⟩, rfl, hC, io, kc, rfl, hk, hrow⟩, hb⟩

theorem CellDQ.keep' {w w' : World} {Q Q' : Nat → Prop} {c : CellD} {e : Nat → Value} (h : CellDQ w Q c e) (hk : ∀ b, Q b → b < w.heap.size → w'.heap[b]? = w.heap[b]?) (hq : ∀ b, Q b → b < w.heap.size → Q' b) : CellDQ w' Q' c e :=
  CellQ.keep h hk hq fun _ d0 d1 d2 hd => ArrQ.keep hk hq _ d0 d1 d2 hd

/-- One cell more. -/
theorem Cov.step0 {F : CellF} (hF : KeepF F) {D U : Nat} {w wk w5 : World} {a0 a1 a2 o0 : Value} {t : Nat} {V : Value} {es : Nat → List Value} (h : Cov F D U w wk a0 a1 a2 o0 t V es) (o : Obj) {g cap : Nat} {x : List Value} (hx : x.length = 7)
    (hown : w5.ownsRow (w.heap.size + 3) 32 7 (.slice (some ⟨g, 0, none⟩) (t + 1) cap) (t + 1) (rowsN es t ++ x)) (hgr : (wk.alloc o).grownBy w5 V.ownBlock) (hat : V.ownBlock = some g ∨ g = wk.heap.size + 1)
    (hnew : F t wk (fun b => b < D ∨ U ≤ b) (fun q => x.getD q undef)) :
    Cov F D w5.heap.size w (w5.setCell ⟨w.heap.size + 2, 2, none⟩ (.slice (some ⟨g, 0, none⟩) (t + 1) cap)) a0 a1 a2 o0 (t + 1) (.slice (some ⟨g, 0, none⟩) (t + 1) cap) (putL es t x) := by
  have hsU := h.sU; have hUw := h.Uw; have hdS := h.dS
  have hg3 : w.heap.size + 3 ≤ g ∧ g < w5.heap.size := hown.lt g rfl
  have hV : ∀ b, some b = V.ownBlock → w.heap.size + 3 ≤ b ∧ b < U := fun b e => ⟨(h.row.lt b e.symm).1, h.vU b e.symm⟩
  have hk1 : ∀ b, some b ≠ V.ownBlock → b < wk.heap.size → w5.heap[b]? = wk.heap[b]? := fun b h1 h2 => (hgr.block b (by simp; omega) h1).trans (Lib.alloc_old wk o b h2)
  have hk2 : ∀ b, b ≠ w.heap.size + 2 → (w5.setCell ⟨w.heap.size + 2, 2, none⟩ (.slice (some ⟨g, 0, none⟩) (t + 1) cap)).heap[b]? = w5.heap[b]? := fun b hb => Below.heap_setCell _ _ _ _ hb
  have hb3 : Below (w.heap.size + 3) wk w5 := ((Below.refl _ wk).alloc (by omega) o).grown hgr (by simp; omega) (fun q hq => (h.row.lt q hq).1)
  have hk : ∀ b, (b < D ∨ w.heap.size + 3 ≤ b) → some b ≠ V.ownBlock → b < wk.heap.size → (w5.setCell ⟨w.heap.size + 2, 2, none⟩ (.slice (some ⟨g, 0, none⟩) (t + 1) cap)).heap[b]? = wk.heap[b]? := fun b h1 h2 h3 => (hk2 b (by rcases h1 with h1 | h1 <;> omega)).trans (hk1 b h2 h3)
  have hng : ∀ b, some b ≠ V.ownBlock → b < wk.heap.size → some b ≠ (Value.slice (some ⟨g, 0, none⟩) (t + 1) cap).ownBlock := fun b h1 h2 e => by
    simp only [Value.ownBlock, Option.some.injEq] at e
    rcases hat with k | k
    · exact h1 (by rw [k, e])
    · omega
  have hsz : wk.heap.size ≤ w5.heap.size := hb3.size
  refine ⟨(h.box.below hb3 (by omega)).aside (by omega) _ _, (h.zer.below hb3 (by omega)).aside (by omega) _ _, ?_, own_but (by rw [rowsN_snoc] at hown; exact hown) hk2 (fun q hq => by have e : g = q := Option.some.inj hq; omega), fun y hy => ?_, (h.bel.trans (hb3.mono (by omega))).setCell (p := ⟨w.heap.size + 2, 2, none⟩) (by show w.heap.size ≤ w.heap.size + 2; omega) _, hdS, by omega, by simp [World.setCell], fun q hq => by cases hq; exact hg3.2⟩
  · have x3 := h.out.below hb3 (by omega)
    have ne : ∀ {j k : Nat}, j ≠ k → (⟨w.heap.size + 2, j, none⟩ : Addr) ≠ ⟨w.heap.size + 2, k, none⟩ := fun h e => h (by injection e)
    exact ⟨(cell_set_ne (ne (by decide))).trans x3.c0, (cell_set_ne (ne (by decide))).trans x3.c1, World.cell?_setCell_same _ _ _ x3.c2, fun j => by rw [World.frozen?_setCell]; exact x3.fr j⟩
  · by_cases e : y = t
    · subst e
      have hne : ∀ b, (b < D ∨ U ≤ b) → some b ≠ V.ownBlock := fun b hb k => by have := hV b k; omega
      unfold putL
      rw [if_pos rfl]
      exact ⟨hx, hF y _ _ _ _ _ hnew (fun b hq hb => hk b (by omega) (hne b hq) hb) fun b hq hb => ⟨by omega, hng b (hne b hq) hb, by omega⟩⟩
    · unfold putL
      rw [if_neg e]
      obtain ⟨k1, k2⟩ := h.cells y (by omega)
      exact ⟨k1, hF y _ _ _ _ _ k2 (fun b hq hb => hk b hq.1 hq.2.1 hb) fun b hq hb => ⟨hq.1, hng b hq.2.1 hb, by omega⟩⟩

/-- Cells told by their fields. -/
def dataF (D : Nat → CellD) : CellF := fun x w Q e => CellDQ w Q (D x) e

theorem dataF_keep (D : Nat → CellD) : KeepF (dataF D) := fun _ _ _ _ _ _ h hk hq => CellDQ.keep' h hk hq

/-- What has been made, as it lies. -/
theorem Cov.tree {S n m nc : Nat} {sh : Nat → Int} {E : Nat → CellD} {D U : Nat} {w wr : World} {a0 a2 : Value} {ao : Option Addr} {V : Value} {es : Nat → List Value}
    (h : Cov (dataF E) D U w wr a0 (.slice ao n nc) a2 (.int .u64 S) m V es) (hS : IsL S) (hn : IsN n nc) (hm : m ≤ 4000) (hsh : SlZQ w (· < D) ao n sh) (hz : ∀ j, j < n → IsZ (sh j)) :
    ArrQ wr (fun b => b < D ∨ w.heap.size + 3 ≤ b) (.arr S n sh m (fun i => (E i).L) (fun i => (E i).K) (fun i => (E i).C) (fun i => (E i).N) (fun i => (E i).k) (fun i => (E i).sub)) (.int .u64 S) (.slice ao n nc) V := by
  have hdS := h.dS
  obtain ⟨co, cap, rfl, h1, h2, hf⟩ := own_form h.row
  refine ⟨rfl, hS, ⟨ao, nc, rfl, hn, hsh.keep (fun b _ hb => h.bel.block b hb) (fun b hq _ => .inl hq), hz⟩, co, cap, rfl, ⟨h1, h2, by omega⟩, ?_⟩
  rcases hf with h0 | ⟨g, rfl, hg0, hg, _⟩
  · exact .inl h0
  · refine .inr ⟨g, 0, rfl, .inr hg, fun i hi => ?_⟩
    obtain ⟨k1, k2⟩ := h.cells i hi
    refine ⟨fun q => (es i).getD q undef, fun q hq => ?_, dataF_keep E i _ _ _ _ _ k2 (fun _ _ _ => rfl) fun b hq _ => hq.1⟩
    have hlt : i * 7 + q < m * 7 := by omega
    rw [Nat.zero_add, h.row.cellAt (i * 7 + q) hlt, rowsN_get m (fun i hi => (h.cells i hi).1) i q hi hq]
    show (es i)[q]? = some ((es i).getD q undef)
    rw [List.getD_eq_getElem?_getD, List.getElem?_eq_getElem (by omega)]
    rfl

theorem hideT_data {S n m : Nat} {sh : Nat → Int} {L : Nat → Nat} {K C : Nat → Int} {N : Nat → NumF} {k : Nat → Nat} {sub : Nat → Nat → Tree} {o : Nat} (h : seesL S o = true) :
    hideT (.arr S n sh m L K C N k sub) o = .arr S n sh m (fun i => (hideC ⟨L i, K i, N i, C i, k i, sub i⟩ o).L) (fun i => (hideC ⟨L i, K i, N i, C i, k i, sub i⟩ o).K) (fun i => (hideC ⟨L i, K i, N i, C i, k i, sub i⟩ o).C) (fun i => (hideC ⟨L i, K i, N i, C i, k i, sub i⟩ o).N) (fun i => (hideC ⟨L i, K i, N i, C i, k i, sub i⟩ o).k) (fun i => (hideC ⟨L i, K i, N i, C i, k i, sub i⟩ o).sub) := hideT_seen h

set_option maxRecDepth 20000 in
set_option maxHeartbeats 8000000 in
theorem hide8_t (o D : Nat) (ho : IsL o) : ∀ (A : Tree), partsT A ≤ 4000 → HideOf A o D := by
  obtain ⟨iC, hC0, hC1, hC2, hC3⟩ := info_parts infoCell
  intro A
  induction A with
  | leaf => intro _ d0 d1 d2 w h; exact (ArrQ.leaf h).elim
  | arr S n sh m L K C N k sub ih =>
    intro hfew c0 c1 c2 w h hD
    obtain ⟨rfl, hS, ⟨ao, nc, rfl, hn, hsh, hshz⟩, co, mc, rfl, hm, hc⟩ := h
    have n1 := hn.1; have n2 := hn.2.1; have n3 := hn.2.2; have m1 := hm.1; have m2 := hm.2.1; have m3 := hm.2.2
    have hcell := Lib.hid (show ∀ t, t < m → HideCellOf ⟨L t, K t, N t, C t, k t, sub t⟩ o D from fun t ht => by
      refine hideCell_of _ o D ho ?_ fun j hj => ih t j ?_
      · have h2 := sumN_one (fun i => 1 + (N i).an + (N i).am + sumN (fun j => partsT (sub i j)) (k i)) ht
        have h3 : partsT (.arr S n sh m L K C N k sub) = 1 + n + sumN (fun i => 1 + (N i).an + (N i).am + sumN (fun j => partsT (sub i j)) (k i)) m := rfl
        have h4 := sumN_le (f := fun _ => 1) (g := fun j => partsT (sub t j)) (k t) fun j _ => parts_pos _
        rw [sumN_const] at h4
        have h2' : 1 + (N t).an + (N t).am + sumN (fun j => partsT (sub t j)) (k t) ≤ sumN (fun i => 1 + (N i).an + (N i).am + sumN (fun j => partsT (sub i j)) (k i)) m := h2
        show k t ≤ 4000
        omega
      · have hj' : j < k t := hj
        have := parts_sub (S := S) (n := n) (sh := sh) (L := L) (K := K) (C := C) (N := N) (sub := sub) ht hj'
        show partsT (sub t j) ≤ 4000
        omega)
    have hm40 : m ≤ 4000 := by have := parts_here (S := S) (n := n) (m := m) (sh := sh) (L := L) (K := K) (C := C) (N := N) (k := k) (sub := sub); omega
    have hc' := Lib.hid hc; have hsh' := Lib.hid hsh; have hshz' := Lib.hid hshz; have hS' := Lib.hid hS; have ho' := Lib.hid ho
    clear hc hsh hshz hn hm hfew ih hS
    go_enter Try.func12, Try.ntmps12
    go_upto_region 1 with fail
    refine told_wp (fun w' => Below w.heap.size w w' ∧ Box3 w' w.heap.size (.int .u64 S) (.slice ao n nc) (.slice co m mc) ∧ Box3 w' (w.heap.size + 1) (.int .u64 0) (.slice none 0 0) (.slice none 0 0) ∧ w'.heap.size = w.heap.size + 2)
      ⟨((Below.refl _ _).alloc (Nat.le_refl _) _).alloc (by first | (simp; done) | (simp; omega)) _, (Box3.new _ _ _ _ rfl).alloc _, Box3.new _ _ _ _ (by first | (simp; done) | (simp; omega)), by simp⟩ ?_
    rintro w0 ⟨bb, x, z, hs⟩
    have x0 := x.c0
    replace bb := Lib.hid bb; replace x := Lib.hid x; replace z := Lib.hid z
    go_wp2_with fail
    refine (seesF_any S o w0 hS'.out ho'.out).mono ?_
    rintro e w1 ⟨rfl, rfl⟩
    cases hsee : seesL S o with
    | false =>
      have hs' := Lib.hid hsee
      have f0 := z.out.fr 0; have f1 := z.out.fr 1; have f2 := z.out.fr 2
      have z0 := z.out.c0; have z1 := z.out.c1; have z2 := z.out.c2
      have y := z.out.set (.int .u64 18446744073709551615) (.slice none 0 0) (.slice none 0 0)
      have y0 := y.c0; have y1 := y.c1; have y2 := y.c2
      have by' := Lib.hid (below_set3 bb.out (B := w.heap.size + 1) (by omega) (.int .u64 18446744073709551615) (.slice none 0 0) (.slice none 0 0))
      clear y x z bb hsee
      go_wp2_with fail
      refine bodyPost_ret (v := .agg #[.int .u64 18446744073709551615, .slice none 0 0, .slice none 0 0]) (by simp [results, Try.results12, go_sem, y0, y1, y2]) rfl ?_
      refine ⟨⟨_, _, _, rfl, ?_⟩, by'.out⟩
      rw [hideT_hidden hs'.out]
      exact ⟨rfl, secL_is, ⟨none, 0, rfl, ⟨Nat.le_refl _, by decide, by decide⟩, .inl rfl, fun j hj => absurd hj (Nat.not_lt_zero _)⟩, none, 0, rfl, ⟨Nat.le_refl _, by decide, by decide⟩, .inl rfl⟩
    | true =>
      have hs' := Lib.hid hsee
      have x1 := x.out.c1
      clear hsee
      go_upto_region 4 with fail
      have hF := dataF_keep (fun t => hideC ⟨L t, K t, N t, C t, k t, sub t⟩ o)
      refine told_wp (fun w' => Cov (dataF fun t => hideC ⟨L t, K t, N t, C t, k t, sub t⟩ o) D (w.heap.size + 3) w w' (.int .u64 S) (.slice ao n nc) (.slice co m mc) (.int .u64 S) 0 (.slice none 0 0) (fun _ => [])) ⟨x.out.alloc _, z.out.alloc _, Box3.new _ _ _ _ hs.symm, World.ownsRow_nil _ _ _ _, fun x hx => by omega, bb.out.alloc bb.out.size _, hD, Nat.le_refl _, by simp; omega, fun g hg => by cases hg⟩ ?_
      clear x z bb x0 x1 hs
      rintro w1 h1
      have hv0 := Lib.hid h1
      clear h1
      go_wp2_with fail
      go_loopw [6] (fun i wr => ∃ (t : Nat) (V : Value) (es : Nat → List Value) (U : Nat), t ≤ m ∧ i = .int .i64 t ∧ Hid (Cov (dataF fun t => hideC ⟨L t, K t, N t, C t, k t, sub t⟩ o) D U w wr (.int .u64 S) (.slice ao n nc) (.slice co m mc) (.int .u64 S) t V es)) (fun i _ => m - (intOfZ i).toNat)
      case atStart => exact ⟨0, _, _, _, Nat.zero_le _, rfl, hv0⟩
      case round =>
        obtain ⟨t, V, es, U0, ht, rfl, hv1⟩ := hrel
        have hv := Lib.hid (hv1.out.lift hF)
        clear hv0 hv1
        have z2 := hv.out.box.c2
        by_cases hlt : t < m
        · rcases hc'.out with h0 | ⟨b, o', rfl, hbD, hcells⟩
          · omega
          obtain ⟨e, he, q⟩ := hcells t hlt
          have hq := Lib.hid q
          obtain ⟨q0, qL, q1, qK, ⟨q2, ⟨a1, ac, q3, _⟩, ⟨b1, bc, q4, _⟩⟩, q5, qC, io, kc, q6, _⟩ := q
          have y0 := cell_below (he 0 (by decide)) hv.out.bel; have y1 := cell_below (he 1 (by decide)) hv.out.bel; have y2 := cell_below (he 2 (by decide)) hv.out.bel; have y3 := cell_below (he 3 (by decide)) hv.out.bel
          have y4 := cell_below (he 4 (by decide)) hv.out.bel; have y5 := cell_below (he 5 (by decide)) hv.out.bel; have y6 := cell_below (he 6 (by decide)) hv.out.bel
          rw [q0, Nat.add_zero] at y0; rw [q1] at y1; rw [q2] at y2; rw [q3] at y3; rw [q4] at y4; rw [q5] at y5; rw [q6] at y6
          have hcd := Lib.hid (show CellDQ wr.drew (· < D) ⟨L t, K t, N t, C t, k t, sub t⟩ (mk7 (.int .u64 (L t)) (.int .i64 (K t)) (.bool (N t).neg) (.slice a1 (N t).an ac) (.slice b1 (N t).am bc) (.int .i64 (C t)) (.slice io (k t) kc)) from by
            have h1 : CellDQ w (· < D) ⟨L t, K t, N t, C t, k t, sub t⟩ (mk7 (.int .u64 (L t)) (.int .i64 (K t)) (.bool (N t).neg) (.slice a1 (N t).an ac) (.slice b1 (N t).am bc) (.int .i64 (C t)) (.slice io (k t) kc)) := by
              obtain ⟨_, p1, _, p2, ⟨_, ⟨a', c', p3, p4⟩, ⟨b', d', p5, p6⟩⟩, _, p7, i', j', p8, p9⟩ := hq.out
              have e3 := q3.symm.trans p3; have e4 := q4.symm.trans p5; have e6 := q6.symm.trans p8
              injection e3 with e3 _ e3'; injection e4 with e4 _ e4'; injection e6 with e6 _ e6'
              subst e3; subst e3'; subst e4; subst e4'; subst e6; subst e6'
              exact ⟨rfl, p1, rfl, p2, ⟨rfl, ⟨_, _, rfl, p4⟩, ⟨_, _, rfl, p6⟩⟩, rfl, p7, _, _, rfl, p9⟩
            exact h1.keep' (fun b _ hb => (hv.out.bel.drew).block b hb) fun b hq _ => hq)
          have hDr : D ≤ wr.drew.heap.size := by have := hv.out.dS; have := hv.out.sU; have e : wr.drew.heap.size = wr.heap.size := rfl; omega
          replace hv := Lib.hid (show Cov (dataF fun t => hideC ⟨L t, K t, N t, C t, k t, sub t⟩ o) D wr.drew.heap.size w wr.drew (.int .u64 S) (.slice ao n nc) (.slice (some ⟨b, o', none⟩) m mc) (.int .u64 S) t V es from hv.out.upto hF (Below.refl _ _).drew)
          clear hcells he hq q0 qL q1 qK q2 q3 q4 q5 qC q6
          have g2 := hv.out.out.c2
          have hsU := hv.out.sU
          go_upto_region 7 with fail
          go_region_law (first
            | (refine step_append_lies _ rfl (.tmp 26) (.tmp 34) 24 rfl (w.heap.size + 3) 32 iC _ 7 104 Try.underlying24 hC0 hC1 hC2 hC3 rfl (by decide) _ t (rowsN es t) rfl (hv2.out.row.alloc _) ⟨w2.heap.size, 0, none⟩ 1 1 [.int .u64 (hideC ⟨L t, K t, N t, C t, k t, sub t⟩ o).L, .int .i64 (hideC ⟨L t, K t, N t, C t, k t, sub t⟩ o).K, .bool (hideC ⟨L t, K t, N t, C t, k t, sub t⟩ o).N.neg, .slice bo2 (hideC ⟨L t, K t, N t, C t, k t, sub t⟩ o).N.an bc2, .slice co2 (hideC ⟨L t, K t, N t, C t, k t, sub t⟩ o).N.am cc2, .int .i64 (hideC ⟨L t, K t, N t, C t, k t, sub t⟩ o).C, .slice io2 (hideC ⟨L t, K t, N t, C t, k t, sub t⟩ o).k kc2] rfl rfl (seven_at w2 _ _ _ _ _ _ _ _) (by intro u hu; simp at hu; rcases hu with rfl | rfl | rfl | rfl | rfl | rfl | rfl <;> rfl) (by decide) (by unfold maxLen; omega) (by omega) (by simp; omega) (w2.heap.size + 1) (by simp) ?_; intro g cap w5 hown hgr hat hgl; have hv5 := Lib.hid (hv2.out.step0 hF _ rfl hown hgr hat hnew.out); have hb5 := ((Below.refl (w.heap.size + 3) w2).alloc (by omega) (.cells #[.int .u64 (hideC ⟨L t, K t, N t, C t, k t, sub t⟩ o).L, .int .i64 (hideC ⟨L t, K t, N t, C t, k t, sub t⟩ o).K, .bool (hideC ⟨L t, K t, N t, C t, k t, sub t⟩ o).N.neg, .slice bo2 (hideC ⟨L t, K t, N t, C t, k t, sub t⟩ o).N.an bc2, .slice co2 (hideC ⟨L t, K t, N t, C t, k t, sub t⟩ o).N.am cc2, .int .i64 (hideC ⟨L t, K t, N t, C t, k t, sub t⟩ o).C, .slice io2 (hideC ⟨L t, K t, N t, C t, k t, sub t⟩ o).k kc2] 32)).grown hgr (by simp; omega) (fun q hq => (hv2.out.row.lt q hq).1); have x5 := hv2.out.out.below hb5 (by omega); have g5 := x5.c2; have f5 := x5.fr 2; clear hown hgr hat hgl hb5 x5 hv2 hnew)
            | (go_simp; go_at_call 15; refine (hcell.out t hlt _ _ hcd.out hDr).mono ?_; rintro e2 w2 hp; obtain ⟨bo2, co2, io2, bc2, cc2, kc2, rfl, hnew, hb2⟩ := hp.form; have hv2 := Lib.hid (hv.out.upto hF hb2); have h2s := hb2.size; have h2U : w.heap.size + 3 ≤ w2.heap.size := Nat.le_trans hsU h2s; have g3 := hv2.out.out.c2; have g4 := fun o => (hv2.out.out.alloc o).c2; replace hnew := Lib.hid (show dataF (fun t => hideC ⟨L t, K t, N t, C t, k t, sub t⟩ o) t w2 (fun b => b < D ∨ wr.drew.heap.size ≤ b) (fun q => ([.int .u64 (hideC ⟨L t, K t, N t, C t, k t, sub t⟩ o).L, .int .i64 (hideC ⟨L t, K t, N t, C t, k t, sub t⟩ o).K, .bool (hideC ⟨L t, K t, N t, C t, k t, sub t⟩ o).N.neg, .slice bo2 (hideC ⟨L t, K t, N t, C t, k t, sub t⟩ o).N.an bc2, .slice co2 (hideC ⟨L t, K t, N t, C t, k t, sub t⟩ o).N.am cc2, .int .i64 (hideC ⟨L t, K t, N t, C t, k t, sub t⟩ o).C, .slice io2 (hideC ⟨L t, K t, N t, C t, k t, sub t⟩ o).k kc2] : List Value).getD q undef) from hnew); clear hp hb2))
          all_goals
            go_wp2_with fail
            go_roundw
            case rel => exact ⟨t + 1, _, _, _, by omega, by go_num, hv5⟩
            case measure => simp [intOfZ]; omega
        · obtain rfl : t = m := by omega
          have hres := Lib.hid (hv.out.tree (sh := sh) hS'.out ⟨n1, n2, n3⟩ hm40 hsh'.out hshz'.out)
          obtain ⟨vo, vc, rfl, _, _, _⟩ := own_form hv.out.row
          have p0 := hv.out.out.c0; have p1 := hv.out.out.c1; have p2 := hv.out.out.c2
          have g0 := hv.out.zer.c0; have g1 := hv.out.zer.c1; have g2 := hv.out.zer.c2
          have f0 := hv.out.zer.fr 0; have f1 := hv.out.zer.fr 1; have f2 := hv.out.zer.fr 2
          have z := hv.out.zer.set (.int .u64 S) (.slice ao n nc) (.slice vo t vc)
          have e0 := z.c0; have e1 := z.c1; have e2 := z.c2
          have hbw := Lib.hid (below_set3 hv.out.bel (B := w.heap.size + 1) (by omega) (.int .u64 S) (.slice ao n nc) (.slice vo t vc))
          have hdS := hv.out.dS
          clear z hv
          go_wp2_with fail
          refine bodyPost_ret (v := .agg #[.int .u64 S, .slice ao n nc, .slice vo t vc]) (by simp [results, Try.results12, go_sem, e0, e1, e2]) rfl ?_
          rw [hideT_data hs'.out]
          refine ⟨⟨_, _, _, rfl, ArrQ.keep (fun b hq _ => ?_) (fun b hq _ => ?_) _ _ _ _ hres.out⟩, hbw.out⟩
          · have hne : b ≠ w.heap.size + 1 := by rcases hq with h | h <;> omega
            rw [Below.heap_setCell _ _ _ _ hne, Below.heap_setCell _ _ _ _ hne, Below.heap_setCell _ _ _ _ hne]
          · rcases hq with h | h
            · exact .inl h
            · exact .inr (by omega)

theorem ArrQ.plainly {w : World} {Q : Nat → Prop} {A : Tree} {c0 c1 c2 : Value} (h : ArrQ w Q A c0 c1 c2) : ArrP w A c0 c1 c2 := ArrQ.plain _ _ _ _ h

theorem TreeQ.post {A : Tree} {D : Nat} {w w' : World} {e : Ending} (h : TreeQ A D w e w') : TreePost A w e w' := by
  obtain ⟨⟨d0, d1, d2, rfl, hA⟩, hb⟩ := h
  exact ⟨d0, d1, d2, rfl, hA.plainly, hb⟩

theorem hide8_any (A : Tree) (o : Nat) (c0 c1 c2 : Value) (w : World) (h : ArrP w A c0 c1 c2) (ho : IsL o) (hf : partsT A ≤ 4000) :
    Calls Try.prog 12 #[.agg #[c0, c1, c2], .int .u64 o] w (TreePost (hideT A o) w) :=
  (hide8_t o w.heap.size ho A hf c0 c1 c2 w (ArrP.within _ _ _ _ h) (Nat.le_refl _)).mono fun _ _ => TreeQ.post

end Go.Proofs.Ytlfilpjiepdejaa

namespace Go.Proofs.Ytlfilpjiepdejaa
open Go.RowKit Num

theorem seesR_any (a b : Nat) (w : World) (ha : IsL a) (hb : IsL b) : Calls Try.prog 21 #[.int .u64 a, .int .u64 b] w fun e w' => e = .returned (.bool (seesL a b)) ∧ w' = w :=
  (seesF_any a b w ha hb).mono fun _ _ h => ⟨h.1, h.2.symm⟩

theorem alikeC_same {L : Nat} {K : Int} {N : NumF} {C : Int} {k : Nat} {L' : Nat} {K' : Int} {N' : NumF} {C' : Int} {k' : Nat} {o : Nat} {P : Nat → Prop} (h : AlikeC L K N C k L' K' N' C' k' o P) (h1 : seesL L o = true) : SameC L K N C k L' K' N' C' k' P := by
  rcases h with ⟨a, _⟩ | ⟨_, _, h⟩
  · rw [h1] at a; cases a
  · exact h

set_option maxRecDepth 20000 in
set_option maxHeartbeats 16000000 in
theorem cells9_of (L : Nat) (K : Int) (N : NumF) (C : Int) (k : Nat) (R : Nat → Value → Value → Value → Prop) (e : Nat → Value) (L' : Nat) (K' : Int) (N' : NumF) (C' : Int) (k' : Nat) (R' : Nat → Value → Value → Value → Prop) (f : Nat → Value) (P : Nat → Prop) (o : Nat) (ho : IsL o) (w : World)
    (h : CellP w L K N C k R e) (h' : CellP w L' K' N' C' k' R' f)
    (hS : ∀ j d0 d1 d2 e0 e1 e2 w', R j d0 d1 d2 → R' j e0 e1 e2 → Below w.heap.size w w' → Calls Try.prog 17 #[.agg #[d0, d1, d2], .agg #[e0, e1, e2], .int .u64 o] w' (BoolPost (P j) w')) :
    Calls Try.prog 31 #[.agg #[e 0, e 1, e 2, e 3, e 4, e 5, e 6], .agg #[f 0, f 1, f 2, f 3, f 4, f 5, f 6], .int .u64 o] w (BoolPost (AlikeC L K N C k L' K' N' C' k' o P) w) := by
  obtain ⟨p0, pL, p1, pK, ⟨p2, ⟨ao, ac, p3, ha, hsa, _⟩, ⟨bo, bc, p4, hb, hsb, _⟩⟩, p5, pC, io, kc, p6, hk, hrow⟩ := h
  obtain ⟨q0, qL, q1, qK, ⟨q2, ⟨ao', ac', q3, ha', hsa', _⟩, ⟨bo', bc', q4, hb', hsb', _⟩⟩, q5, qC, io', kc', q6, hk', hrow'⟩ := h'
  rw [p0, p1, p2, p3, p4, p5, p6, q0, q1, q2, q3, q4, q5, q6]
  have an1 := ha.1; have an2 := ha.2.1; have am1 := hb.1; have am2 := hb.2.1; have kk1 := hk.1; have kk2 := hk.2.1
  have bn1 := ha'.1; have bn2 := ha'.2.1; have bm1 := hb'.1; have bm2 := hb'.2.1; have kl1 := hk'.1; have kl2 := hk'.2.1
  have hbel := (((Below.refl w.heap.size w).alloc (Nat.le_refl _) (.cells #[.int .u64 L, .int .i64 K, .bool N.neg, .slice ao N.an ac, .slice bo N.am bc, .int .i64 C, .slice io k kc] 32)).alloc (by simp) (.cells #[.int .u64 L', .int .i64 K', .bool N'.neg, .slice ao' N'.an ac', .slice bo' N'.am bc', .int .i64 C', .slice io' k' kc'] 32))
  have hx := (Box7.new (w := w) (B := w.heap.size) (.int .u64 L) (.int .i64 K) (.bool N.neg) (.slice ao N.an ac) (.slice bo N.am bc) (.int .i64 C) (.slice io k kc) 32 rfl).alloc (.cells #[.int .u64 L', .int .i64 K', .bool N'.neg, .slice ao' N'.an ac', .slice bo' N'.am bc', .int .i64 C', .slice io' k' kc'] 32)
  have hy := Box7.new (w := w.alloc (.cells #[.int .u64 L, .int .i64 K, .bool N.neg, .slice ao N.an ac, .slice bo N.am bc, .int .i64 C, .slice io k kc] 32)) (B := w.heap.size + 1) (.int .u64 L') (.int .i64 K') (.bool N'.neg) (.slice ao' N'.an ac') (.slice bo' N'.am bc') (.int .i64 C') (.slice io' k' kc') 32 (by simp)
  have hsa1 := Lib.hid hsa; have hsb1 := Lib.hid hsb; have hsa2 := Lib.hid hsa'; have hsb2 := Lib.hid hsb'; have hr1 := Lib.hid hrow; have hr2 := Lib.hid hrow'; have hS' := Lib.hid hS
  have hL := Lib.hid pL; have hL' := Lib.hid qL; have ho' := Lib.hid ho
  clear ho p0 pL p1 pK p2 p3 p4 p5 pC p6 q0 qL q1 qK q2 q3 q4 q5 qC q6 ha hb hk ha' hb' hk' hsa hsb hsa' hsb' hrow hrow' hS
  cases hs1 : seesL L o <;> cases hs2 : seesL L' o
  · have h1 := Lib.hid hs1; have h2 := Lib.hid hs2
    clear hs1 hs2
    go_enter Try.func31, Try.ntmps31
    go_upto_region 1 with fail
    refine told_wp (fun w' => Below w.heap.size w w' ∧ Box7 w' w.heap.size (.int .u64 L) (.int .i64 K) (.bool N.neg) (.slice ao N.an ac) (.slice bo N.am bc) (.int .i64 C) (.slice io k kc) ∧ Box7 w' (w.heap.size + 1) (.int .u64 L') (.int .i64 K') (.bool N'.neg) (.slice ao' N'.an ac') (.slice bo' N'.am bc') (.int .i64 C') (.slice io' k' kc')) ⟨hbel, hx, hy⟩ ?_
    clear hbel hx hy
    rintro w0 ⟨b0, x0, y0⟩
    have xd := x0.drew; have yd := y0.drew
    have u0 := xd.c0; have v0 := yd.c0
    have z0 := x0.c0; have z1 := x0.c1; have z2 := x0.c2; have z3 := x0.c3; have z4 := x0.c4; have z5 := x0.c5; have z6 := x0.c6
    have t0 := y0.c0; have t1 := y0.c1; have t2 := y0.c2; have t3 := y0.c3; have t4 := y0.c4; have t5 := y0.c5; have t6 := y0.c6
    go_wp2_with fail
    refine (seesF_any L o w0 hL.out ho'.out).mono ?_
    rintro e' w1 ⟨rfl, rfl⟩
    rw [h1.out]
    go_wp2_with fail
    have p1 := h1.out; have p2 := h2.out
    go_quiet ((go_at_call 21; refine Calls.quiet_of_same (seesR_any _ _ _ ?_ ho'.out); first | with_reducible exact hL.out | with_reducible exact hL'.out))
    go_wp2_with fail
    go_ret
    exact ⟨true, rfl, ⟨fun _ => .inl ⟨h1.out, h2.out⟩, fun _ => rfl⟩, below_drewN b0 _⟩
  · have h1 := Lib.hid hs1; have h2 := Lib.hid hs2
    clear hs1 hs2
    go_enter Try.func31, Try.ntmps31
    go_upto_region 1 with fail
    refine told_wp (fun w' => Below w.heap.size w w' ∧ Box7 w' w.heap.size (.int .u64 L) (.int .i64 K) (.bool N.neg) (.slice ao N.an ac) (.slice bo N.am bc) (.int .i64 C) (.slice io k kc) ∧ Box7 w' (w.heap.size + 1) (.int .u64 L') (.int .i64 K') (.bool N'.neg) (.slice ao' N'.an ac') (.slice bo' N'.am bc') (.int .i64 C') (.slice io' k' kc')) ⟨hbel, hx, hy⟩ ?_
    clear hbel hx hy
    rintro w0 ⟨b0, x0, y0⟩
    have xd := x0.drew; have yd := y0.drew
    have u0 := xd.c0; have v0 := yd.c0
    have z0 := x0.c0; have z1 := x0.c1; have z2 := x0.c2; have z3 := x0.c3; have z4 := x0.c4; have z5 := x0.c5; have z6 := x0.c6
    have t0 := y0.c0; have t1 := y0.c1; have t2 := y0.c2; have t3 := y0.c3; have t4 := y0.c4; have t5 := y0.c5; have t6 := y0.c6
    go_wp2_with fail
    refine (seesF_any L o w0 hL.out ho'.out).mono ?_
    rintro e' w1 ⟨rfl, rfl⟩
    rw [h1.out]
    go_wp2_with fail
    have p1 := h1.out; have p2 := h2.out
    go_quiet ((go_at_call 21; refine Calls.quiet_of_same (seesR_any _ _ _ ?_ ho'.out); first | with_reducible exact hL.out | with_reducible exact hL'.out))
    go_wp2_with fail
    go_ret
    refine ⟨false, rfl, ⟨fun h => (Bool.false_ne_true h).elim, ?_⟩, below_drewN b0 _⟩
    rintro (⟨p, q⟩ | ⟨p, q, _⟩)
    · have := h2.out.symm.trans q; cases this
    · have := h1.out.symm.trans p; cases this
  · have h1 := Lib.hid hs1; have h2 := Lib.hid hs2
    clear hs1 hs2
    go_enter Try.func31, Try.ntmps31
    go_upto_region 1 with fail
    refine told_wp (fun w' => Below w.heap.size w w' ∧ Box7 w' w.heap.size (.int .u64 L) (.int .i64 K) (.bool N.neg) (.slice ao N.an ac) (.slice bo N.am bc) (.int .i64 C) (.slice io k kc) ∧ Box7 w' (w.heap.size + 1) (.int .u64 L') (.int .i64 K') (.bool N'.neg) (.slice ao' N'.an ac') (.slice bo' N'.am bc') (.int .i64 C') (.slice io' k' kc')) ⟨hbel, hx, hy⟩ ?_
    clear hbel hx hy
    rintro w0 ⟨b0, x0, y0⟩
    have xd := x0.drew; have yd := y0.drew
    have u0 := xd.c0; have v0 := yd.c0
    have z0 := x0.c0; have z1 := x0.c1; have z2 := x0.c2; have z3 := x0.c3; have z4 := x0.c4; have z5 := x0.c5; have z6 := x0.c6
    have t0 := y0.c0; have t1 := y0.c1; have t2 := y0.c2; have t3 := y0.c3; have t4 := y0.c4; have t5 := y0.c5; have t6 := y0.c6
    go_wp2_with fail
    refine (seesF_any L o w0 hL.out ho'.out).mono ?_
    rintro e' w1 ⟨rfl, rfl⟩
    rw [h1.out]
    go_wp2_with fail
    refine (seesF_any L' o w0 hL'.out ho'.out).mono ?_
    rintro e' w1 ⟨rfl, rfl⟩
    rw [h2.out]
    go_wp2_with fail
    have p1 := h1.out; have p2 := h2.out
    go_quiet ((go_at_call 21; refine Calls.quiet_of_same (seesR_any _ _ _ ?_ ho'.out); first | with_reducible exact hL.out | with_reducible exact hL'.out))
    go_wp2_with fail
    go_ret
    refine ⟨false, rfl, ⟨fun h => (Bool.false_ne_true h).elim, ?_⟩, below_drewN b0 _⟩
    rintro (⟨p, q⟩ | ⟨p, q, _⟩)
    · have := h1.out.symm.trans p; cases this
    · have := h2.out.symm.trans q; cases this
  · have h1 := Lib.hid hs1; have h2 := Lib.hid hs2
    clear hs1 hs2
    by_cases e1 : L = L'
    · by_cases e2 : K = K'
      · by_cases e3 : C = C'
        · subst e1; subst e2; subst e3
          go_enter Try.func31, Try.ntmps31
          go_upto_region 1 with fail
          refine told_wp (fun w' => Below w.heap.size w w' ∧ Box7 w' w.heap.size (.int .u64 L) (.int .i64 K) (.bool N.neg) (.slice ao N.an ac) (.slice bo N.am bc) (.int .i64 C) (.slice io k kc) ∧ Box7 w' (w.heap.size + 1) (.int .u64 L) (.int .i64 K) (.bool N'.neg) (.slice ao' N'.an ac') (.slice bo' N'.am bc') (.int .i64 C) (.slice io' k' kc')) ⟨hbel, hx, hy⟩ ?_
          clear hbel hx hy
          rintro w0 ⟨b0, x0, y0⟩
          have z0 := x0.c0; have z1 := x0.c1; have z2 := x0.c2; have z3 := x0.c3; have z4 := x0.c4; have z5 := x0.c5; have z6 := x0.c6
          have t0 := y0.c0; have t1 := y0.c1; have t2 := y0.c2; have t3 := y0.c3; have t4 := y0.c4; have t5 := y0.c5; have t6 := y0.c6
          go_wp2_with fail
          refine (seesF_any L o w0 hL.out ho'.out).mono ?_
          rintro e' w1 ⟨rfl, rfl⟩
          rw [h1.out]
          go_wp2_with fail
          refine (seesF_any L o w0 hL.out ho'.out).mono ?_
          rintro e' w1 ⟨rfl, rfl⟩
          rw [h1.out]
          go_wp2_with fail
          replace b0 := Lib.hid b0; replace x0 := Lib.hid x0; replace y0 := Lib.hid y0
          refine (same4B_any N.neg N'.neg ao bo ao' bo' N.an ac N.am bc N'.an ac' N'.am bc' N.fa N.ga N'.fa N'.ga w0 (by omega) (by omega) (hsa1.out.below b0.out) (hsb1.out.below b0.out) (hsa2.out.below b0.out) (hsb2.out.below b0.out)).mono ?_
          rintro e' w1 ⟨r, rfl, hr, hb1⟩
          have b1 := Lib.hid (b0.out.trans (hb1.mono b0.out.size)); have x1 := x0.out.later hb1; have y1 := y0.out.later hb1; clear z0 z1 z2 z3 z4 z5 z6 t0 t1 t2 t3 t4 t5 t6
          have hr' := Lib.hid hr
          have x1' := Lib.hid x1; have y1' := Lib.hid y1
          have z6 := x1.c6; have t6 := y1.c6
          clear b0 x0 y0 hb1 hr x1 y1
          cases r with
          | false =>
            go_wp2_with fail
            go_ret
            exact ⟨false, rfl, ⟨fun h => (Bool.false_ne_true h).elim, fun h => absurd (hr'.out.2 (alikeC_same h h1.out).2.2.2.1) Bool.false_ne_true⟩, b1.out⟩
          | true =>
            by_cases e4 : k = k'
            · subst e4
              go_wp2_with fail
              go_loopw [7] (fun i wr => ∃ j : Nat, j ≤ k ∧ i = .int .i64 j ∧ Hid (∀ t, t < j → P t) ∧ Hid (Box7 wr w.heap.size (.int .u64 L) (.int .i64 K) (.bool N.neg) (.slice ao N.an ac) (.slice bo N.am bc) (.int .i64 C) (.slice io k kc)) ∧ Hid (Box7 wr (w.heap.size + 1) (.int .u64 L) (.int .i64 K) (.bool N'.neg) (.slice ao' N'.an ac') (.slice bo' N'.am bc') (.int .i64 C) (.slice io' k kc')) ∧ Hid (Below w.heap.size w wr)) (fun i _ => k - (intOfZ i).toNat)
              case atStart => exact ⟨0, Nat.zero_le _, rfl, Lib.hid fun t h => by omega, x1', y1', b1⟩
              case round =>
                obtain ⟨j, hj, rfl, hd, hx, hy, hb⟩ := hrel
                clear x1' y1' b1 z6 t6
                by_cases hlt : j < k
                · rcases hr1.out with h0 | ⟨b, q, rfl, hrows⟩
                  · omega
                  rcases hr2.out with h0 | ⟨b', q', rfl, hrows'⟩
                  · omega
                  obtain ⟨d0, d1, d2, r0, r1, r2, r3⟩ := hrows j hlt
                  obtain ⟨f0, f1, f2, s0, s1, s2, s3⟩ := hrows' j hlt
                  have hbd := hb.out.drew
                  have xd := hx.out.drew; have yd := hy.out.drew
                  have u6 := hx.out.c6
                  go_wp2_with fail
                  have g6 := xd.c6; have l6 := yd.c6
                  have m0 := cell_below r0 hbd; have m1 := cell_below r1 hbd; have m2 := cell_below r2 hbd
                  have n0 := cell_below s0 hbd; have n1 := cell_below s1 hbd; have n2 := cell_below s2 hbd
                  have hcall := Lib.hid (fun w' h => hS'.out j d0 d1 d2 f0 f1 f2 w' r3 s3 h)
                  clear hrows hrows' r0 r1 r2 s0 s1 s2
                  have T1 : wr.drew.cell? ⟨w.heap.size, 6, none⟩ = some (.slice (some ⟨b, q, none⟩) k kc) ∧ wr.drew.cell? ⟨w.heap.size + 1, 6, none⟩ = some (.slice (some ⟨b', q', none⟩) k kc') ∧ wr.drew.cell? ⟨b, q + j * 3, none⟩ = some d0 ∧ wr.drew.cell? ⟨b, q + j * 3 + 1, none⟩ = some d1 ∧ wr.drew.cell? ⟨b, q + j * 3 + 2, none⟩ = some d2 ∧ wr.drew.cell? ⟨b', q' + j * 3, none⟩ = some f0 ∧ wr.drew.cell? ⟨b', q' + j * 3 + 1, none⟩ = some f1 ∧ wr.drew.cell? ⟨b', q' + j * 3 + 2, none⟩ = some f2 := ⟨g6, l6, m0, m1, m2, n0, n1, n2⟩
                  go_region_held3 (fun w' => w'.cell? ⟨w.heap.size, 6, none⟩ = some (.slice (some ⟨b, q, none⟩) k kc) ∧ w'.cell? ⟨w.heap.size + 1, 6, none⟩ = some (.slice (some ⟨b', q', none⟩) k kc') ∧ w'.cell? ⟨b, q + j * 3, none⟩ = some d0 ∧ w'.cell? ⟨b, q + j * 3 + 1, none⟩ = some d1 ∧ w'.cell? ⟨b, q + j * 3 + 2, none⟩ = some d2 ∧ w'.cell? ⟨b', q' + j * 3, none⟩ = some f0 ∧ w'.cell? ⟨b', q' + j * 3 + 1, none⟩ = some f1 ∧ w'.cell? ⟨b', q' + j * 3 + 2, none⟩ = some f2)
                    (first | exact T1 | exact T2)
                    (first
                    | (go_at_call 17; refine (hcall.out _ hbd).mono ?_; rintro e2 w2 ⟨r, rfl, hr2', hb2⟩; have hb3 := hbd.trans (hb2.mono hbd.size); have x2 := xd.later hb2; have y2 := yd.later hb2; have T2 := And.intro x2.c6 (And.intro y2.c6 (And.intro (cell_below m0 hb2) (And.intro (cell_below m1 hb2) (And.intro (cell_below m2 hb2) (And.intro (cell_below n0 hb2) (And.intro (cell_below n1 hb2) (cell_below n2 hb2))))))); clear hb2))
                  have hr3 := Lib.hid hr2'; have x3 := Lib.hid x2; have y3 := Lib.hid y2; have b3 := Lib.hid hb3
                  clear hr2' x2 y2 hb3 hbd xd yd g6 l6 m0 m1 m2 n0 n1 n2 T1 T2
                  cases r with
                  | true =>
                    go_wp2_with fail
                    go_roundw
                    case rel =>
                      refine ⟨j + 1, by omega, by go_num, Lib.hid fun t ht => ?_, x3, y3, b3⟩
                      by_cases e : t = j
                      · rw [e]; exact hr3.out.1 (by first | exact rfl | trivial)
                      · exact hd.out t (by omega)
                    case measure => simp [intOfZ]; omega
                  | false =>
                    go_wp2_with fail
                    go_ret
                    exact ⟨false, rfl, ⟨fun h => (Bool.false_ne_true h).elim, fun h => absurd (hr3.out.2 ((alikeC_same h h1.out).2.2.2.2.2 j hlt)) Bool.false_ne_true⟩, b3.out⟩
                · obtain rfl : j = k := by omega
                  have g6 := hx.out.c6
                  go_wp2_with fail
                  go_ret
                  exact ⟨true, rfl, ⟨fun _ => .inr ⟨h1.out, h1.out, rfl, rfl, rfl, hr'.out.1 (by first | exact rfl | trivial), rfl, hd.out⟩, fun _ => rfl⟩, hb.out⟩
            · have hd : ((k : Int) != (k' : Int)) = true := by rw [bne_iff_ne]; omega
              have hn := Lib.hid e4
              clear e4
              go_wp2_with fail
              go_ret
              exact ⟨false, rfl, ⟨fun h => (Bool.false_ne_true h).elim, fun h => absurd (alikeC_same h h1.out).2.2.2.2.1 hn.out⟩, b1.out⟩
        · subst e1; subst e2
          have hd : (C != C') = true := by rw [bne_iff_ne]; omega
          have hn := Lib.hid e3
          clear e3
          go_enter Try.func31, Try.ntmps31
          go_upto_region 1 with fail
          refine told_wp (fun w' => Below w.heap.size w w' ∧ Box7 w' w.heap.size (.int .u64 L) (.int .i64 K) (.bool N.neg) (.slice ao N.an ac) (.slice bo N.am bc) (.int .i64 C) (.slice io k kc) ∧ Box7 w' (w.heap.size + 1) (.int .u64 L) (.int .i64 K) (.bool N'.neg) (.slice ao' N'.an ac') (.slice bo' N'.am bc') (.int .i64 C') (.slice io' k' kc')) ⟨hbel, hx, hy⟩ ?_
          clear hbel hx hy
          rintro w0 ⟨b0, x0, y0⟩
          have z0 := x0.c0; have z1 := x0.c1; have z2 := x0.c2; have z3 := x0.c3; have z4 := x0.c4; have z5 := x0.c5; have z6 := x0.c6
          have t0 := y0.c0; have t1 := y0.c1; have t2 := y0.c2; have t3 := y0.c3; have t4 := y0.c4; have t5 := y0.c5; have t6 := y0.c6
          go_wp2_with fail
          refine (seesF_any L o w0 hL.out ho'.out).mono ?_
          rintro e' w1 ⟨rfl, rfl⟩
          rw [h1.out]
          go_wp2_with fail
          refine (seesF_any L o w0 hL.out ho'.out).mono ?_
          rintro e' w1 ⟨rfl, rfl⟩
          rw [h1.out]
          go_wp2_with fail
          go_ret
          exact ⟨false, rfl, ⟨fun h => (Bool.false_ne_true h).elim, fun h => absurd (alikeC_same h h1.out).2.2.1 hn.out⟩, b0⟩
      · subst e1
        have hd : (K != K') = true := by rw [bne_iff_ne]; omega
        have hn := Lib.hid e2
        clear e2
        go_enter Try.func31, Try.ntmps31
        go_upto_region 1 with fail
        refine told_wp (fun w' => Below w.heap.size w w' ∧ Box7 w' w.heap.size (.int .u64 L) (.int .i64 K) (.bool N.neg) (.slice ao N.an ac) (.slice bo N.am bc) (.int .i64 C) (.slice io k kc) ∧ Box7 w' (w.heap.size + 1) (.int .u64 L) (.int .i64 K') (.bool N'.neg) (.slice ao' N'.an ac') (.slice bo' N'.am bc') (.int .i64 C') (.slice io' k' kc')) ⟨hbel, hx, hy⟩ ?_
        clear hbel hx hy
        rintro w0 ⟨b0, x0, y0⟩
        have z0 := x0.c0; have z1 := x0.c1; have z2 := x0.c2; have z3 := x0.c3; have z4 := x0.c4; have z5 := x0.c5; have z6 := x0.c6
        have t0 := y0.c0; have t1 := y0.c1; have t2 := y0.c2; have t3 := y0.c3; have t4 := y0.c4; have t5 := y0.c5; have t6 := y0.c6
        go_wp2_with fail
        refine (seesF_any L o w0 hL.out ho'.out).mono ?_
        rintro e' w1 ⟨rfl, rfl⟩
        rw [h1.out]
        go_wp2_with fail
        refine (seesF_any L o w0 hL.out ho'.out).mono ?_
        rintro e' w1 ⟨rfl, rfl⟩
        rw [h1.out]
        go_wp2_with fail
        go_ret
        exact ⟨false, rfl, ⟨fun h => (Bool.false_ne_true h).elim, fun h => absurd (alikeC_same h h1.out).2.1 hn.out⟩, b0⟩
    · have hd : ((L : Int) != (L' : Int)) = true := by rw [bne_iff_ne]; omega
      have hn := Lib.hid e1
      clear e1
      go_enter Try.func31, Try.ntmps31
      go_upto_region 1 with fail
      refine told_wp (fun w' => Below w.heap.size w w' ∧ Box7 w' w.heap.size (.int .u64 L) (.int .i64 K) (.bool N.neg) (.slice ao N.an ac) (.slice bo N.am bc) (.int .i64 C) (.slice io k kc) ∧ Box7 w' (w.heap.size + 1) (.int .u64 L') (.int .i64 K') (.bool N'.neg) (.slice ao' N'.an ac') (.slice bo' N'.am bc') (.int .i64 C') (.slice io' k' kc')) ⟨hbel, hx, hy⟩ ?_
      clear hbel hx hy
      rintro w0 ⟨b0, x0, y0⟩
      have z0 := x0.c0; have z1 := x0.c1; have z2 := x0.c2; have z3 := x0.c3; have z4 := x0.c4; have z5 := x0.c5; have z6 := x0.c6
      have t0 := y0.c0; have t1 := y0.c1; have t2 := y0.c2; have t3 := y0.c3; have t4 := y0.c4; have t5 := y0.c5; have t6 := y0.c6
      go_wp2_with fail
      refine (seesF_any L o w0 hL.out ho'.out).mono ?_
      rintro e' w1 ⟨rfl, rfl⟩
      rw [h1.out]
      go_wp2_with fail
      refine (seesF_any L' o w0 hL'.out ho'.out).mono ?_
      rintro e' w1 ⟨rfl, rfl⟩
      rw [h2.out]
      go_wp2_with fail
      go_ret
      exact ⟨false, rfl, ⟨fun h => (Bool.false_ne_true h).elim, fun h => absurd (alikeC_same h h1.out).1 hn.out⟩, b0⟩

end Go.Proofs.Ytlfilpjiepdejaa

namespace Go.Proofs.Ytlfilpjiepdejaa
open Go.RowKit Num

theorem alike_same {S n m : Nat} {sh : Nat → Int} {L : Nat → Nat} {K C : Nat → Int} {N : Nat → NumF} {k : Nat → Nat} {sub : Nat → Nat → Tree} {S' n' m' : Nat} {sh' : Nat → Int} {L' : Nat → Nat} {K' C' : Nat → Int} {N' : Nat → NumF} {k' : Nat → Nat} {sub' : Nat → Nat → Tree} {o : Nat}
    (h : AlikeT (.arr S n sh m L K C N k sub) (.arr S' n' sh' m' L' K' C' N' k' sub') o) (h1 : seesL S o = true) : S = S' ∧ SameZ n n' sh sh' ∧ m = m' ∧ ∀ i, i < m → AlikeC (L i) (K i) (N i) (C i) (k i) (L' i) (K' i) (N' i) (C' i) (k' i) o (fun j => AlikeT (sub i j) (sub' i j) o) := by
  rcases h with ⟨a, _⟩ | ⟨_, _, h⟩
  · rw [h1] at a; cases a
  · exact h

set_option maxRecDepth 20000 in
set_option maxHeartbeats 16000000 in
theorem alike9_any (o : Nat) (ho : IsL o) : ∀ (A B : Tree) (c0 c1 c2 d0 d1 d2 : Value) (w : World), ArrP w A c0 c1 c2 → ArrP w B d0 d1 d2 →
    Calls Try.prog 17 #[.agg #[c0, c1, c2], .agg #[d0, d1, d2], .int .u64 o] w (BoolPost (AlikeT A B o) w) := by
  have ho' := Lib.hid ho
  intro A
  induction A with
  | leaf => intros; exact (ArrP.leaf ‹ArrP _ Tree.leaf _ _ _›).elim
  | arr S n sh m L K C N k sub ih =>
    intro B c0 c1 c2 d0 d1 d2 w h h'
    obtain _ | ⟨S', n', sh', m', L', K', C', N', k', sub'⟩ := B
    · exact (ArrP.leaf h').elim
    obtain ⟨rfl, pL, ⟨ao, nc, rfl, hn, hsh, _⟩, co, mc, rfl, hm, hc⟩ := h
    obtain ⟨rfl, qL, ⟨ao', nc', rfl, hn', hsh', _⟩, co', mc', rfl, hm', hc'⟩ := h'
    have n1 := hn.1; have n2 := hn.2.1; have m1 := hm.1; have m2 := hm.2.1; have n1' := hn'.1; have n2' := hn'.2.1; have m1' := hm'.1; have m2' := hm'.2.1
    have hbel := (((Below.refl w.heap.size w).alloc (Nat.le_refl _) (.cells #[.int .u64 S, .slice ao n nc, .slice co m mc] 26)).alloc (by simp) (.cells #[.int .u64 S', .slice ao' n' nc', .slice co' m' mc'] 26))
    have hx := (Box3.new (w := w) (B := w.heap.size) (.int .u64 S) (.slice ao n nc) (.slice co m mc) 26 rfl).alloc (.cells #[.int .u64 S', .slice ao' n' nc', .slice co' m' mc'] 26)
    have hy := Box3.new (w := w.alloc (.cells #[.int .u64 S, .slice ao n nc, .slice co m mc] 26)) (B := w.heap.size + 1) (.int .u64 S') (.slice ao' n' nc') (.slice co' m' mc') 26 (by simp)
    have hsh1 := Lib.hid hsh; have hsh2 := Lib.hid hsh'; have hc1 := Lib.hid hc; have hc2 := Lib.hid hc'
    clear hn hm hn' hm' hsh hsh' hc hc'
    have hL := Lib.hid pL; have hL' := Lib.hid qL
    clear pL qL
    cases hs1 : seesL S o <;> cases hs2 : seesL S' o
    · have h1 := Lib.hid hs1; have h2 := Lib.hid hs2
      clear hs1 hs2
      go_enter Try.func17, Try.ntmps17
      go_upto_region 1 with fail
      refine told_wp (fun w' => Below w.heap.size w w' ∧ Box3 w' w.heap.size (.int .u64 S) (.slice ao n nc) (.slice co m mc) ∧ Box3 w' (w.heap.size + 1) (.int .u64 S') (.slice ao' n' nc') (.slice co' m' mc')) ⟨hbel, hx, hy⟩ ?_
      clear hbel hx hy
      rintro w0 ⟨b0, x0, y0⟩
      have xd := x0.drew; have yd := y0.drew
      have u0 := xd.c0; have v0 := yd.c0
      have z0 := x0.c0; have z1 := x0.c1; have z2 := x0.c2
      have t0 := y0.c0; have t1 := y0.c1; have t2 := y0.c2
      go_wp2_with fail
      refine (seesF_any S o w0 hL.out ho'.out).mono ?_
      rintro e' w1 ⟨rfl, rfl⟩
      rw [h1.out]
      go_wp2_with fail
      have p1 := h1.out; have p2 := h2.out
      go_quiet ((go_at_call 21; refine Calls.quiet_of_same (seesR_any _ _ _ ?_ ho'.out); first | with_reducible exact hL.out | with_reducible exact hL'.out))
      go_wp2_with fail
      go_ret
      exact ⟨true, rfl, ⟨fun _ => .inl ⟨h1.out, h2.out⟩, fun _ => rfl⟩, below_drewN b0 _⟩
    · have h1 := Lib.hid hs1; have h2 := Lib.hid hs2
      clear hs1 hs2
      go_enter Try.func17, Try.ntmps17
      go_upto_region 1 with fail
      refine told_wp (fun w' => Below w.heap.size w w' ∧ Box3 w' w.heap.size (.int .u64 S) (.slice ao n nc) (.slice co m mc) ∧ Box3 w' (w.heap.size + 1) (.int .u64 S') (.slice ao' n' nc') (.slice co' m' mc')) ⟨hbel, hx, hy⟩ ?_
      clear hbel hx hy
      rintro w0 ⟨b0, x0, y0⟩
      have xd := x0.drew; have yd := y0.drew
      have u0 := xd.c0; have v0 := yd.c0
      have z0 := x0.c0; have z1 := x0.c1; have z2 := x0.c2
      have t0 := y0.c0; have t1 := y0.c1; have t2 := y0.c2
      go_wp2_with fail
      refine (seesF_any S o w0 hL.out ho'.out).mono ?_
      rintro e' w1 ⟨rfl, rfl⟩
      rw [h1.out]
      go_wp2_with fail
      have p1 := h1.out; have p2 := h2.out
      go_quiet ((go_at_call 21; refine Calls.quiet_of_same (seesR_any _ _ _ ?_ ho'.out); first | with_reducible exact hL.out | with_reducible exact hL'.out))
      go_wp2_with fail
      go_ret
      refine ⟨false, rfl, ⟨fun h => (Bool.false_ne_true h).elim, ?_⟩, below_drewN b0 _⟩
      rintro (⟨p, q⟩ | ⟨p, q, _⟩)
      · have := h2.out.symm.trans q; cases this
      · have := h1.out.symm.trans p; cases this
    · have h1 := Lib.hid hs1; have h2 := Lib.hid hs2
      clear hs1 hs2
      go_enter Try.func17, Try.ntmps17
      go_upto_region 1 with fail
      refine told_wp (fun w' => Below w.heap.size w w' ∧ Box3 w' w.heap.size (.int .u64 S) (.slice ao n nc) (.slice co m mc) ∧ Box3 w' (w.heap.size + 1) (.int .u64 S') (.slice ao' n' nc') (.slice co' m' mc')) ⟨hbel, hx, hy⟩ ?_
      clear hbel hx hy
      rintro w0 ⟨b0, x0, y0⟩
      have xd := x0.drew; have yd := y0.drew
      have u0 := xd.c0; have v0 := yd.c0
      have z0 := x0.c0; have z1 := x0.c1; have z2 := x0.c2
      have t0 := y0.c0; have t1 := y0.c1; have t2 := y0.c2
      go_wp2_with fail
      refine (seesF_any S o w0 hL.out ho'.out).mono ?_
      rintro e' w1 ⟨rfl, rfl⟩
      rw [h1.out]
      go_wp2_with fail
      refine (seesF_any S' o w0 hL'.out ho'.out).mono ?_
      rintro e' w1 ⟨rfl, rfl⟩
      rw [h2.out]
      go_wp2_with fail
      have p1 := h1.out; have p2 := h2.out
      go_quiet ((go_at_call 21; refine Calls.quiet_of_same (seesR_any _ _ _ ?_ ho'.out); first | with_reducible exact hL.out | with_reducible exact hL'.out))
      go_wp2_with fail
      go_ret
      refine ⟨false, rfl, ⟨fun h => (Bool.false_ne_true h).elim, ?_⟩, below_drewN b0 _⟩
      rintro (⟨p, q⟩ | ⟨p, q, _⟩)
      · have := h1.out.symm.trans p; cases this
      · have := h2.out.symm.trans q; cases this
    · have h1 := Lib.hid hs1; have h2 := Lib.hid hs2
      clear hs1 hs2
      by_cases e1 : S = S'
      · subst e1
        go_enter Try.func17, Try.ntmps17
        go_upto_region 1 with fail
        refine told_wp (fun w' => Below w.heap.size w w' ∧ Box3 w' w.heap.size (.int .u64 S) (.slice ao n nc) (.slice co m mc) ∧ Box3 w' (w.heap.size + 1) (.int .u64 S) (.slice ao' n' nc') (.slice co' m' mc')) ⟨hbel, hx, hy⟩ ?_
        clear hbel hx hy
        rintro w0 ⟨b0, x0, y0⟩
        have z0 := x0.c0; have z1 := x0.c1; have z2 := x0.c2
        have t0 := y0.c0; have t1 := y0.c1; have t2 := y0.c2
        go_wp2_with fail
        refine (seesF_any S o w0 hL.out ho'.out).mono ?_
        rintro e' w1 ⟨rfl, rfl⟩
        rw [h1.out]
        go_wp2_with fail
        refine (seesF_any S o w0 hL.out ho'.out).mono ?_
        rintro e' w1 ⟨rfl, rfl⟩
        rw [h1.out]
        go_wp2_with fail
        replace b0 := Lib.hid b0; replace x0 := Lib.hid x0; replace y0 := Lib.hid y0
        refine (ints7_any ao ao' n nc n' nc' sh sh' w0 (by omega) (hsh1.out.below b0.out) (hsh2.out.below b0.out)).mono ?_
        rintro e' w1 ⟨hr, hb1⟩
        have b1 := Lib.hid (b0.out.trans (hb1.mono b0.out.size)); have x1 := x0.out.later hb1; have y1 := y0.out.later hb1; clear z0 z1 z2 t0 t1 t2
        have x1' := Lib.hid x1; have y1' := Lib.hid y1
        have z2 := x1.c2; have t2 := y1.c2
        clear b0 x0 y0 hb1 x1 y1
        rcases hr with ⟨rfl, hs⟩ | ⟨rfl, hs⟩
        · have hs' := Lib.hid hs
          clear hs
          by_cases e4 : m = m'
          · subst e4
            go_wp2_with fail
            go_loopw [7] (fun j wr => ∃ i : Nat, i ≤ m ∧ j = .int .i64 i ∧ Hid (∀ t, t < i → AlikeC (L t) (K t) (N t) (C t) (k t) (L' t) (K' t) (N' t) (C' t) (k' t) o (fun j => AlikeT (sub t j) (sub' t j) o)) ∧ Hid (Box3 wr w.heap.size (.int .u64 S) (.slice ao n nc) (.slice co m mc)) ∧ Hid (Box3 wr (w.heap.size + 1) (.int .u64 S) (.slice ao' n' nc') (.slice co' m mc')) ∧ Hid (Below w.heap.size w wr)) (fun j _ => m - (intOfZ j).toNat)
            case atStart => exact ⟨0, Nat.zero_le _, rfl, Lib.hid fun t h => by omega, x1', y1', b1⟩
            case round =>
              obtain ⟨i, hi, rfl, hd, hx, hy, hb⟩ := hrel
              clear x1' y1' b1 z2 t2
              by_cases hlt : i < m
              · rcases hc1.out with h0 | ⟨b, q, rfl, hcells⟩
                · omega
                rcases hc2.out with h0 | ⟨b', q', rfl, hcells'⟩
                · omega
                obtain ⟨e, he, hcell⟩ := hcells i hlt
                obtain ⟨f, hf, hcell'⟩ := hcells' i hlt
                have hbd := hb.out.drew
                have xd := hx.out.drew; have yd := hy.out.drew
                have u2 := hx.out.c2
                go_wp2_with fail
                have g2 := xd.c2; have l2 := yd.c2
                have m0 := cell_below (he 0 (by decide)) hbd
                rw [Nat.add_zero] at m0
                have n0 := cell_below (hf 0 (by decide)) hbd
                rw [Nat.add_zero] at n0
                have m1 := cell_below (he 1 (by decide)) hbd
                have n1 := cell_below (hf 1 (by decide)) hbd
                have m2 := cell_below (he 2 (by decide)) hbd
                have n2 := cell_below (hf 2 (by decide)) hbd
                have m3 := cell_below (he 3 (by decide)) hbd
                have n3 := cell_below (hf 3 (by decide)) hbd
                have m4 := cell_below (he 4 (by decide)) hbd
                have n4 := cell_below (hf 4 (by decide)) hbd
                have m5 := cell_below (he 5 (by decide)) hbd
                have n5 := cell_below (hf 5 (by decide)) hbd
                have m6 := cell_below (he 6 (by decide)) hbd
                have n6 := cell_below (hf 6 (by decide)) hbd
                have hcall := Lib.hid (fun (w' : World) (hw : Below w.heap.size w w') => cells9_of (L i) (K i) (N i) (C i) (k i) _ e (L' i) (K' i) (N' i) (C' i) (k' i) _ f (fun j => AlikeT (sub i j) (sub' i j) o) o ho'.out w' (hcell.below hw fun j d0 d1 d2 _ hd => ArrP.below _ _ _ _ hd hw) (hcell'.below hw fun j d0 d1 d2 _ hd => ArrP.below _ _ _ _ hd hw)
                  (fun j d0 d1 d2 e0 e1 e2 w'' r r' hw' => ih i j (sub' i j) d0 d1 d2 e0 e1 e2 w'' (ArrP.below _ _ _ _ r hw') (ArrP.below _ _ _ _ r' hw')))
                clear hcells hcells' he hf hcell hcell' u2
                have T1 : wr.drew.cell? ⟨w.heap.size, 2, none⟩ = some (.slice (some ⟨b, q, none⟩) m mc) ∧ wr.drew.cell? ⟨w.heap.size + 1, 2, none⟩ = some (.slice (some ⟨b', q', none⟩) m mc') ∧ wr.drew.cell? ⟨b, q + i * 7, none⟩ = some (e 0) ∧ wr.drew.cell? ⟨b, q + i * 7 + 1, none⟩ = some (e 1) ∧ wr.drew.cell? ⟨b, q + i * 7 + 2, none⟩ = some (e 2) ∧ wr.drew.cell? ⟨b, q + i * 7 + 3, none⟩ = some (e 3) ∧ wr.drew.cell? ⟨b, q + i * 7 + 4, none⟩ = some (e 4) ∧ wr.drew.cell? ⟨b, q + i * 7 + 5, none⟩ = some (e 5) ∧ wr.drew.cell? ⟨b, q + i * 7 + 6, none⟩ = some (e 6) ∧ wr.drew.cell? ⟨b', q' + i * 7, none⟩ = some (f 0) ∧ wr.drew.cell? ⟨b', q' + i * 7 + 1, none⟩ = some (f 1) ∧ wr.drew.cell? ⟨b', q' + i * 7 + 2, none⟩ = some (f 2) ∧ wr.drew.cell? ⟨b', q' + i * 7 + 3, none⟩ = some (f 3) ∧ wr.drew.cell? ⟨b', q' + i * 7 + 4, none⟩ = some (f 4) ∧ wr.drew.cell? ⟨b', q' + i * 7 + 5, none⟩ = some (f 5) ∧ wr.drew.cell? ⟨b', q' + i * 7 + 6, none⟩ = some (f 6) := And.intro (g2) (And.intro (l2) (And.intro (m0) (And.intro (m1) (And.intro (m2) (And.intro (m3) (And.intro (m4) (And.intro (m5) (And.intro (m6) (And.intro (n0) (And.intro (n1) (And.intro (n2) (And.intro (n3) (And.intro (n4) (And.intro (n5) (n6)))))))))))))))
                go_region_held3 (fun w' => w'.cell? ⟨w.heap.size, 2, none⟩ = some (.slice (some ⟨b, q, none⟩) m mc) ∧ w'.cell? ⟨w.heap.size + 1, 2, none⟩ = some (.slice (some ⟨b', q', none⟩) m mc') ∧ w'.cell? ⟨b, q + i * 7, none⟩ = some (e 0) ∧ w'.cell? ⟨b, q + i * 7 + 1, none⟩ = some (e 1) ∧ w'.cell? ⟨b, q + i * 7 + 2, none⟩ = some (e 2) ∧ w'.cell? ⟨b, q + i * 7 + 3, none⟩ = some (e 3) ∧ w'.cell? ⟨b, q + i * 7 + 4, none⟩ = some (e 4) ∧ w'.cell? ⟨b, q + i * 7 + 5, none⟩ = some (e 5) ∧ w'.cell? ⟨b, q + i * 7 + 6, none⟩ = some (e 6) ∧ w'.cell? ⟨b', q' + i * 7, none⟩ = some (f 0) ∧ w'.cell? ⟨b', q' + i * 7 + 1, none⟩ = some (f 1) ∧ w'.cell? ⟨b', q' + i * 7 + 2, none⟩ = some (f 2) ∧ w'.cell? ⟨b', q' + i * 7 + 3, none⟩ = some (f 3) ∧ w'.cell? ⟨b', q' + i * 7 + 4, none⟩ = some (f 4) ∧ w'.cell? ⟨b', q' + i * 7 + 5, none⟩ = some (f 5) ∧ w'.cell? ⟨b', q' + i * 7 + 6, none⟩ = some (f 6))
                  (first | exact T1 | exact T2)
                  (first
                  | (go_at_call 31; refine (hcall.out _ hbd).mono ?_; rintro e2 w2 ⟨r, rfl, hr2', hb2⟩; have hb3 := hbd.trans (hb2.mono hbd.size); have x2 := xd.later hb2; have y2 := yd.later hb2; have T2 := And.intro (x2.c2) (And.intro (y2.c2) (And.intro (cell_below m0 hb2) (And.intro (cell_below m1 hb2) (And.intro (cell_below m2 hb2) (And.intro (cell_below m3 hb2) (And.intro (cell_below m4 hb2) (And.intro (cell_below m5 hb2) (And.intro (cell_below m6 hb2) (And.intro (cell_below n0 hb2) (And.intro (cell_below n1 hb2) (And.intro (cell_below n2 hb2) (And.intro (cell_below n3 hb2) (And.intro (cell_below n4 hb2) (And.intro (cell_below n5 hb2) (cell_below n6 hb2))))))))))))))); clear hb2))
                have hr3 := Lib.hid hr2'; have x3 := Lib.hid x2; have y3 := Lib.hid y2; have b3 := Lib.hid hb3
                clear hr2' x2 y2 hb3 hbd xd yd g2 l2 m0 n0 m1 n1 m2 n2 m3 n3 m4 n4 m5 n5 m6 n6 T1 T2
                cases r with
                | true =>
                  go_wp2_with fail
                  go_roundw
                  case rel =>
                    refine ⟨i + 1, by omega, by go_num, Lib.hid fun t ht => ?_, x3, y3, b3⟩
                    by_cases e : t = i
                    · rw [e]; exact hr3.out.1 (by first | exact rfl | trivial)
                    · exact hd.out t (by omega)
                  case measure => simp [intOfZ]; omega
                | false =>
                  go_wp2_with fail
                  go_ret
                  exact ⟨false, rfl, ⟨fun h => (Bool.false_ne_true h).elim, fun h => absurd (hr3.out.2 ((alike_same h h1.out).2.2.2 i hlt)) Bool.false_ne_true⟩, b3.out⟩
              · obtain rfl : i = m := by omega
                have g2 := hx.out.c2
                go_wp2_with fail
                go_ret
                exact ⟨true, rfl, ⟨fun _ => .inr ⟨h1.out, h1.out, rfl, hs'.out, rfl, hd.out⟩, fun _ => rfl⟩, hb.out⟩
          · have hd : ((m : Int) != (m' : Int)) = true := by rw [bne_iff_ne]; omega
            have hn := Lib.hid e4
            clear e4
            go_wp2_with fail
            go_ret
            exact ⟨false, rfl, ⟨fun h => (Bool.false_ne_true h).elim, fun h => absurd (alike_same h h1.out).2.2.1 hn.out⟩, b1.out⟩
        · have hs' := Lib.hid hs
          clear hs
          go_wp2_with fail
          go_ret
          exact ⟨false, rfl, ⟨fun h => (Bool.false_ne_true h).elim, fun h => absurd (alike_same h h1.out).2.1 hs'.out⟩, b1.out⟩
      · have hd : ((S : Int) != (S' : Int)) = true := by rw [bne_iff_ne]; omega
        have hn := Lib.hid e1
        clear e1
        go_enter Try.func17, Try.ntmps17
        go_upto_region 1 with fail
        refine told_wp (fun w' => Below w.heap.size w w' ∧ Box3 w' w.heap.size (.int .u64 S) (.slice ao n nc) (.slice co m mc) ∧ Box3 w' (w.heap.size + 1) (.int .u64 S') (.slice ao' n' nc') (.slice co' m' mc')) ⟨hbel, hx, hy⟩ ?_
        clear hbel hx hy
        rintro w0 ⟨b0, x0, y0⟩
        have z0 := x0.c0; have z1 := x0.c1; have z2 := x0.c2
        have t0 := y0.c0; have t1 := y0.c1; have t2 := y0.c2
        go_wp2_with fail
        refine (seesF_any S o w0 hL.out ho'.out).mono ?_
        rintro e' w1 ⟨rfl, rfl⟩
        rw [h1.out]
        go_wp2_with fail
        refine (seesF_any S' o w0 hL'.out ho'.out).mono ?_
        rintro e' w1 ⟨rfl, rfl⟩
        rw [h2.out]
        go_wp2_with fail
        go_ret
        exact ⟨false, rfl, ⟨fun h => (Bool.false_ne_true h).elim, fun h => absurd (alike_same h h1.out).1 hn.out⟩, b0⟩

end Go.Proofs.Ytlfilpjiepdejaa
