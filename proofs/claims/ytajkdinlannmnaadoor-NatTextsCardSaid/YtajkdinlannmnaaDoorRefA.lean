/-
  scrimref02.longer, limb, Cmp, Add, Sub, twice and Bit: the document's answers, as they are reckoned.
-/
import Derived.Test.YtajkdinlannmnaaDoorRef
import Derived.Test.YtajkdinlannmnaaDoorNum5
namespace Go.Proofs.YtajkdinlannmnaaDoor
open Go.RowKit Num

theorem cells_snoc (F : Nat → Nat) (j x : Nat) (v : Int) (h : v = (x : Int)) : limbCells F j ++ [Value.int .u32 v] = limbCells (put F j x) (j + 1) := by
  subst h
  unfold limbCells
  rw [List.range_succ, List.map_append]
  congr 1
  · exact List.map_congr_left fun t ht => by rw [put_ne (by have := List.mem_range.1 ht; omega)]
  · simp [put_at]

theorem put_snoc_lim {F : Nat → Nat} {j x : Nat} (h : Lim F j) (hx : x < 4294967296) : Lim (put F j x) (j + 1) := by
  intro t ht
  by_cases c : t = j
  · rw [c, put_at]; exact hx
  · rw [put_ne c]; exact h t (by omega)

theorem one_at (w : World) (v : Value) (t : TypeId) : ∀ j u, [v][j]? = some u → (w.alloc (.cells #[v] t)).cell? ((⟨w.heap.size, 0, none⟩ : Addr).add j) = some u := by
  intro j u h
  match j, h with
  | 0, h =>
    simp at h
    subst h
    simp [Addr.add]

/-- One limb more behind those that the call's own slice holds. -/
theorem wpList_append_limb {P : Program} {w0 : World} {ops : Array Oper} {rest : List Oper} {o : Oper} {a : Act} {Q : Exit → Act → World → Prop} (hgd : o.guard = none) (s x : Operand) (t : TypeId)
    (ho : o.op = .call { callee := .builtin .append, args := #[s, x], argTypes := #[t, t] }) (base : Nat) (e : TypeId) (i : TypeInfo) (ht : P.underlying t = some (.slice e)) (hi : P.info? e = some i)
    (hz : i.zero = some (Value.int .u32 0)) (h1 : i.size = 1) (h4 : i.bytes = 4) (v : Value) (n : Nat) (F : Nat → Nat) (tt : TypeId) (z : Int) (y : Nat) (hs : a.eval s = v) (hx : a.eval x = .slice (some ⟨w0.heap.size, 0, none⟩) 1 1)
    (hown : w0.ownsRow base e 1 v n (limbCells F n)) (hzy : z = (y : Int)) (hn : n ≤ 1000000) (hb : base ≤ w0.heap.size)
    (h : ∀ v' w', w'.ownsRow base e 1 v' (n + 1) (limbCells (put F n y) (n + 1)) → Below base w0 w' → wpList P ops Q rest (a.put o.dst v') w') :
    wpList P ops Q (o :: rest) a (w0.alloc (.cells #[.int .u32 z] tt)) := by
  refine wpList_append_own _ hgd s x t ho base e i (.int .u32 0) 1 4 ht hi hz h1 h4 rfl (by decide) v n (limbCells F n) hs (hown.alloc _) ⟨w0.heap.size, 0, none⟩ 1 1 [.int .u32 z] hx rfl (one_at w0 _ tt) ?_ (by unfold maxLen; omega) (by omega) (by simp; omega) ?_
  · intro u hu
    simp at hu
    subst hu
    rfl
  · intro v' w' hown' hgr _
    rw [cells_snoc F n y z hzy] at hown'
    refine h v' w' hown' ?_
    exact ((Below.refl base w0).alloc hb _).grown hgr (by simp; omega) (fun k hk => (hown.lt k hk).1)

end Go.Proofs.YtajkdinlannmnaaDoor
