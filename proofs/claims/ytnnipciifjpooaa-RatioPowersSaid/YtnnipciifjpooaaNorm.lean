/-
  nat.Norm: the same number, in new memory, without noughts on top.
-/
import Derived.Test.YtnnipciifjpooaaTrim
import Derived.Test.YtnnipciifjpooaaBlk
namespace Go.Proofs.Ytnnipciifjpooaa
open Go.RowKit Num

theorem size32 : (Try.prog.info? 47).map (·.size) = some 1 := by kernel_rfl

theorem heap_of_made {w : World} {base g n : Nat} {e : TypeId} (h : w.ownsRow base e 1 (.slice (some ⟨g, 0, none⟩) n n) n (madeCells #[Value.int .u32 0] n).toList) :
    w.heap[g]? = some (.cells (List.replicate n (Value.int .u32 0)).toArray e (0, 0)) := by
  rcases h.2 with ⟨hn, _⟩ | ⟨g', cap, cur, hv, hb, hg, hnc, hcm, hcs, ht⟩
  · cases hn
  · cases hv
    rw [toList_madeCells_one] at ht
    have hc : cur.toList = List.replicate n (Value.int .u32 0) := by
      rw [← ht, List.take_of_length_le]
      simpa using Nat.le_of_eq hcs
    rw [hg, ← hc]

theorem Blk.of_heap {w : World} {b N : Nat} {F : Nat → Nat} {l : List Value} {t : TypeId} (h : w.heap[b]? = some (.cells l.toArray t (0, 0))) (hl : ∀ j, j < N → l[j]? = some (.int .u32 (F j))) : Blk w b N F := by
  refine ⟨fun j hj => ?_, fun j => ?_⟩
  · simp [World.cell?, h, hl j hj]
  · simp [World.frozen?, h]

/-- n limbs as cells. -/
def limbCells (f : Nat → Nat) (n : Nat) : List Value := (List.range n).map fun j => .int .u32 (f j)
theorem limbCells_length (f : Nat → Nat) (n : Nat) : (limbCells f n).length = n := by simp [limbCells]
theorem limbCells_get (f : Nat → Nat) (n j : Nat) (h : j < n) : (limbCells f n)[j]? = some (.int .u32 (f j)) := by simp [limbCells, h]
theorem limbCells_one (f : Nat → Nat) (n : Nat) : ∀ v ∈ limbCells f n, v.oneCell' = true := by
  intro v hv
  simp only [limbCells, List.mem_map] at hv
  obtain ⟨j, _, rfl⟩ := hv
  rfl
theorem limbCells_at {w : World} {b off n : Nat} {f : Nat → Nat} (h : ∀ j, j < n → w.cell? ⟨b, off + j, none⟩ = some (.int .u32 (f j))) :
    ∀ j v, (limbCells f n)[j]? = some v → w.cell? ((⟨b, off, none⟩ : Addr).add j) = some v := by
  intro j v hv
  have hj : j < n := by
    have := (List.getElem?_eq_some_iff.1 hv).1
    simpa [limbCells_length] using this
  rw [limbCells_get f n j hj] at hv
  cases hv
  have e : (⟨b, off, none⟩ : Addr).add j = ⟨b, off + j, none⟩ := by unfold Addr.add; split <;> simp_all
  rw [e]
  exact h j hj
theorem Sl.cellsAt {w : World} {ao : Option Addr} {n : Nat} {f : Nat → Nat} (h : Sl w ao n f) (hn : 0 < (limbCells f n).length) : ∃ ad, ao = some ad ∧ ∀ j v, (limbCells f n)[j]? = some v → w.cell? (ad.add j) = some v := by
  rw [limbCells_length] at hn
  rcases h with rfl | ⟨b, off, rfl, hc⟩
  · omega
  · exact ⟨_, rfl, limbCells_at hc⟩

set_option maxHeartbeats 400000 in
theorem norm_any (ao : Option Addr) (n nc : Nat) (f : Nat → Nat) (w : World) (A : Arg w ao n nc f) :
    Calls Try.prog 86 #[.slice ao n nc] w (NumPost (val f n) w) := by
  obtain ⟨hn, hnc, hnb, hf, lf⟩ := A
  obtain ⟨i32, hi, hz0, hz1, hz2⟩ := info_parts info32
  go_enter Try.func86, Try.ntmps86
  go_wp2_with fail
  refine (trim_any ao n nc f w hn (by omega) hf).mono ?_
  rintro e w' ⟨k, hk, rfl, htf0, hvf0, rfl⟩
  have htf := Lib.hid htf0; have hvf := Lib.hid hvf0; clear htf0 hvf0
  go_wp2_with (at_make; refine wpList_make_full _ rfl (.tmp 7) (.tmp 7) 22 rfl w.heap.size 47 i32 (.int .u32 0) 1 Try.underlying22 hi hz0 hz1 .i64 .i64 _ _ k rfl rfl rfl rfl (by rw [hz2]; omega) (by unfold maxLen; omega) (Nat.le_refl _) ?_)
  intro w1 hown hgrow
  have hheap := heap_of_made hown
  have hsl1 := (hf.mono hk).grown (b := w.heap.size) (hf.mono hk).off (grown_any hgrow _)
  have hbel : Below w.heap.size w w1 := (Below.refl _ w).grown hgrow (Nat.le_refl _) (fun _ h => by cases h)
  obtain ⟨cs, hcs0⟩ : ∃ cs, cs = limbCells f k := ⟨_, rfl⟩
  have hlen : cs.length = k := by rw [hcs0, limbCells_length]
  have hlen' := Lib.hid hlen
  have hone : ∀ v ∈ cs, v.oneCell' = true := by rw [hcs0]; exact limbCells_one f k
  have hat : 0 < cs.length → (some (⟨w.heap.size, 0, none⟩ : Addr)) = some ⟨w.heap.size, 0, none⟩ ∧ ∃ ad, ao = some ad ∧ ∀ j v, cs[j]? = some v → w1.cell? (ad.add j) = some v := by
    rw [hcs0]; exact fun h => ⟨rfl, hsl1.cellsAt h⟩
  have hheap' := Lib.hid hheap
  have hcs := Lib.hid hcs0
  clear hcs0 hown hheap hlen
  go_wp2_with (with_reducible refine wpList_copy_splice rfl (.tmp 9) (.tmp 10) 22 22 rfl 47 Try.underlying22 size32 (some ⟨w.heap.size, 0, none⟩) ao k k k nc rfl rfl w.heap.size 0 (List.replicate k (Value.int .u32 0)) 47 hheap'.out cs ?c1 hat ?c2 hone w.heap.size w hbel (Nat.le_refl _) ?_)
  case c1 => simp [hlen'.out]
  case c2 => simp [hlen'.out]
  intro w2 hg2 hb2
  go_wp2_with fail
  go_ret
  have hblk : Blk w2 w.heap.size k f := Blk.of_heap hg2.out (fun j hj => by
    have e : splice (List.replicate k (Value.int .u32 0)) 0 cs = cs := by simp [splice, hlen'.out]
    rw [e, hcs.out, limbCells_get f k j hj])
  exact ⟨some ⟨w.heap.size, 0, none⟩, k, k, f, rfl, Nat.le_refl _, by omega, Sl.of_blk0 hblk k (Nat.le_refl _), ⟨lf.mono hk, htf.out, hvf.out⟩, hb2⟩

end Go.Proofs.Ytnnipciifjpooaa
