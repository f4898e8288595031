/-
  array.arrayBy: an array told anew; arrayBy, cellsBy, cellBy of any array and any cells.
  array.Erase, Cover, Raise, Vector, Int, Chr.
  label.Flows, array.Num; what view.Hide and view.Cell are to tell.
  view.Hide, where Cell tells what is seen of the cells.
  slices.Equal of any limbs; ratio.Int, Gcd; scrimref04.IsWhole, Gcd.
  ratio.Same, ratio.Right of any numbers.
  scrimref07.Places: the places of all cells, in order.
  scrimref07.Index: which cell stands at a place.
  scrimref07.Around: the cells ahead of an axis, along it, and behind it.
  scrimref07.With, Without: a shape with another length of an axis; one without an axis.
  What the functions of package shape are to tell (as hypotheses of the walks of the statements); scrimlaw07.awake, ShapeCounts.
-/
import Derived.Test.YtlfilpjiepdejaaMrgH
namespace Go.Proofs.Ytlfilpjiepdejaa
open Go.RowKit Num

theorem CellsQ.keep {w w' : World} {Q Q' : Nat → Prop} {co : Option Addr} {m : Nat} {cs : Nat → CellD} (h : CellsQ w Q co m cs) (hk : ∀ b, Q b → b < w.heap.size → w'.heap[b]? = w.heap[b]?) (hq : ∀ b, Q b → b < w.heap.size → Q' b) : CellsQ w' Q' co m cs := by
  by_cases h0 : m = 0
  · exact .inl h0
  rcases h with h | ⟨b, o, rfl, h1, h2⟩
  · exact .inl h
  · have hb : b < w.heap.size := by
      obtain ⟨e, h3, _⟩ := h2 0 (by omega)
      exact World.block_lt_of_cell? w _ (h3 0 (by decide))
    refine .inr ⟨b, o, rfl, hq b h1 hb, fun i hi => ?_⟩
    obtain ⟨e, h3, h4⟩ := h2 i hi
    exact ⟨e, fun t ht => cell_kept (h3 t ht) (hk b h1 hb), h4.keep hk hq⟩

theorem arr_res {md : Md} {S n m : Nat} {sh : Nat → Int} {L : Nat → Nat} {K C : Nat → Int} {N : Nat → NumF} {k : Nat → Nat} {sub : Nat → Nat → Tree} {w : World} {Q : Nat → Prop} {po qo : Option Addr} {pc qc : Nat} (hS : IsL (md.g S)) (hz : ∀ j, j < n → IsZ (sh j)) (hn : IsN n pc) (hs : SlZQ w Q po n sh) (hm : IsN m qc)
    (hc : CellsQ w Q qo m (fun i => mapC md.g ((fun i => ⟨L i, K i, N i, C i, k i, sub i⟩) i))) : ArrQ w Q (mapT md.g (.arr S n sh m L K C N k sub)) (.int .u64 (md.g S : Nat)) (.slice po n pc) (.slice qo m qc) :=
  ⟨rfl, hS, ⟨po, pc, rfl, hn, hs, hz⟩, qo, qc, rfl, hm, hc⟩

theorem partsC_in {S n m : Nat} {sh : Nat → Int} {L : Nat → Nat} {K C : Nat → Int} {N : Nat → NumF} {k : Nat → Nat} {sub : Nat → Nat → Tree} {i : Nat} (hi : i < m) : partsC ((fun i => ⟨L i, K i, N i, C i, k i, sub i⟩) i) ≤ partsT (.arr S n sh m L K C N k sub) := by
  have b := sumN_one (fun i => 1 + (N i).an + (N i).am + sumN (fun j => partsT (sub i j)) (k i)) hi
  show 1 + (N i).an + (N i).am + sumN (fun j => partsT (sub i j)) (k i) ≤ 1 + n + sumN (fun i => 1 + (N i).an + (N i).am + sumN (fun j => partsT (sub i j)) (k i)) m
  have b' : 1 + (N i).an + (N i).am + sumN (fun j => partsT (sub i j)) (k i) ≤ sumN (fun i => 1 + (N i).an + (N i).am + sumN (fun j => partsT (sub i j)) (k i)) m := b
  omega

set_option maxRecDepth 20000 in
set_option maxHeartbeats 8000000 in
theorem arrayBy_of (md : Md) (S n : Nat) (sh : Nat → Int) (m : Nat) (L : Nat → Nat) (K C : Nat → Int) (N : Nat → NumF) (k : Nat → Nat) (sub : Nat → Nat → Tree) (h : CellsBy md m (fun i => ⟨L i, K i, N i, C i, k i, sub i⟩)) : ArrBy md (.arr S n sh m L K C N k sub) := by
  intro c0 c1 c2 w hA hE hp
  obtain ⟨rfl, hS, ⟨ao, nc, rfl, hn, hsh, hz⟩, co, mc, rfl, hm, hc⟩ := hA
  have n1 := hn.1; have n2 := hn.2.1; have m1 := hm.1; have m2 := hm.2.1
  have hph := parts_here (S := S) (n := n) (m := m) (sh := sh) (L := L) (K := K) (C := C) (N := N) (k := k) (sub := sub)
  have hm50 : m ≤ 5000 := by omega
  have hn6 : n ≤ 6000 := by omega
  have hp' := Lib.hid (show ∀ i, i < m → partsC ((fun i => ⟨L i, K i, N i, C i, k i, sub i⟩) i) ≤ 5000 from fun i hi => Nat.le_trans (partsC_in hi) hp)
  have hgl := Lib.hid (show IsL (md.g S) ∧ ∀ j, j < n → IsZ (sh j) from ⟨Md.g_is hE hS, hz⟩)
  have hL0 := Lib.hid hS; have hmn := Lib.hid hm
  obtain ⟨F, hF⟩ : ∃ F, F = md.fn := ⟨_, rfl⟩
  have hF' := Lib.hid hF
  rw [← hF]
  have hbel := (((Below.refl w.heap.size w).alloc (Nat.le_refl _) (.cells #[.int .u64 S, .slice ao n nc, .slice co m mc] 26)).alloc (by simp) (.cells #[.int .u64 0, .slice none 0 0, .slice none 0 0] 26))
  have hx := (Box3.new (w := w) (B := w.heap.size) (.int .u64 S) (.slice ao n nc) (.slice co m mc) 26 rfl).alloc (.cells #[.int .u64 0, .slice none 0 0, .slice none 0 0] 26)
  have hy := Box3.new (w := w.alloc (.cells #[.int .u64 S, .slice ao n nc, .slice co m mc] 26)) (B := w.heap.size + 1) (.int .u64 0) (.slice none 0 0) (.slice none 0 0) 26 (by simp)
  have hs0 := Lib.hid hsh
  have hc0 : Hid (CellsP w co m (fun i => ⟨L i, K i, N i, C i, k i, sub i⟩)) := Lib.hid hc
  have hE0 := Lib.hid hE
  have h' := h
  clear hph hp hn hm hsh hz hc hE hS hF
  go_enter Try.func36, Try.ntmps36
  go_upto_region 1 with fail
  refine told_wp (fun w' => Below w.heap.size w w' ∧ Box3 w' w.heap.size (.int .u64 S) (.slice ao n nc) (.slice co m mc) ∧ Box3 w' (w.heap.size + 1) (.int .u64 0) (.slice none 0 0) (.slice none 0 0)) ⟨hbel, hx, hy⟩ ?_
  clear hbel hx hy
  rintro w3 ⟨bb, x, y⟩
  have hs := hs0.out.below bb
  have hcl := hc0.out.later bb
  have hEv := hE0.out.later bb
  cases md with
  | same =>
    obtain rfl : F = .func (.func 50) #[] #[] := hF'.out
    have hcells : ∀ w, CellsP w co m (fun i => ⟨L i, K i, N i, C i, k i, sub i⟩) → (Md.same).Env w → Calls Try.prog 47 #[.slice co m mc, .func (.func 50) #[] #[]] w (CellsNew m (fun i => mapC (Md.same).g ((fun i => ⟨L i, K i, N i, C i, k i, sub i⟩) i)) w) := fun w a b => h' co mc w hmn.out a b hm50 hp'.out
    replace hcells := Lib.hid hcells
    have ssame0 := True.intro
    go_region_held3 (fun w' => w'.cell? ⟨w.heap.size, 0, none⟩ = some (.int .u64 S) ∧ w'.cell? ⟨w.heap.size, 1, none⟩ = some (.slice ao n nc) ∧ w'.cell? ⟨w.heap.size, 2, none⟩ = some (.slice co m mc))
      (first | with_reducible exact ⟨x.drew.c0, x.drew.c1, x.drew.c2⟩ | with_reducible exact ⟨x.c0, x.c1, x.c2⟩ | go_keep)
      (first
      | (go_at_call 50; clear ssame0; have hd := (Below.refl w3.heap.size w3).drew; have bb := bb.drew; have x := x.drew; have y := y.drew; have hs := hs.below hd; have hcl := hcl.later hd; have hEv := hEv.later hd; clear hd; refine (asItIs_any S _).mono ?_; rintro e w' ⟨rfl, hb⟩; have bb := below_then bb (Nat.le_refl _) hb; have x := x.later hb; have y := y.later hb; have hs := hs.below hb; have hcl := hcl.later hb; have hEv := hEv.later hb; clear hb; have ssame1 := True.intro)
      | (go_at_call 26; clear ssame1; have hlt1 := y.lt; refine (cloneI_any ao n nc (intCells sh n) _ hn6 (by rw [intCells_length, Nat.mul_one]) hs.lies (intCells_one _ _)).mono ?_; rintro e w' ⟨po, pc, rfl, hr, hb⟩; have bb := below_then bb (Nat.le_refl _) hb; have x := x.later hb; have y := y.later hb; have hcl := hcl.later hb; have hEv := hEv.later hb; clear hb hs; have ssame2 := True.intro)
      | (go_at_call 47; clear ssame2; have hlt2 := y.lt; refine (hcells.out _ hcl hEv).mono ?_; rintro e w' ⟨qo, qc, rfl, hqn, hQ, hb⟩; have bb := below_then bb (Nat.le_refl _) hb; have x := x.later hb; have y := y.later hb; have hr := hr.later hb; clear hb hcl hEv; have d0 := y.c0; have d1 := y.c1; have d2 := y.c2; have f0 := y.fr 0; have f1 := y.fr 1; have f2 := y.fr 2; have ssame3 := True.intro))
    have z := y.set (.int .u64 ((Md.same).g S : Nat)) (.slice po n pc) (.slice qo m qc)
    have e0 := z.c0; have e1 := z.c1; have e2 := z.c2
    have hbw := Lib.hid (below_set3 bb (B := w.heap.size + 1) (by omega) (.int .u64 ((Md.same).g S : Nat)) (.slice po n pc) (.slice qo m qc))
    have hne := fun b (hb : w.heap.size + 1 < b) => heap_set3 (w := w') (B := w.heap.size + 1) (b := b) (by omega) (.int .u64 ((Md.same).g S : Nat)) (.slice po n pc) (.slice qo m qc)
    obtain ⟨hpn, hpq⟩ := hr.slzQ hn6
    have hres := Lib.hid (arr_res (md := Md.same) hgl.out.1 hgl.out.2 hpn (hpq.keep (Q' := (w.heap.size ≤ ·)) (fun b hb _ => hne b (by omega)) (fun b hb _ => by omega)) hqn (hQ.keep (Q' := (w.heap.size ≤ ·)) (fun b hb _ => hne b (by omega)) (fun b hb _ => by omega)))
    clear z x y bb hr hQ hne hpq hpn
    go_wp2_with fail
    refine bodyPost_ret (v := .agg #[.int .u64 ((Md.same).g S : Nat), .slice po n pc, .slice qo m qc]) (by simp [results, Try.results36, go_sem, e0, e1, e2]) rfl ?_
    exact ⟨_, _, _, rfl, hres.out, hbw.out⟩

  | join B l =>
    obtain rfl : F = .func (.func 37) #[] #[.pointer (some ⟨B, 0, none⟩)] := hF'.out
    have hcells : ∀ w, CellsP w co m (fun i => ⟨L i, K i, N i, C i, k i, sub i⟩) → (Md.join B l).Env w → Calls Try.prog 47 #[.slice co m mc, .func (.func 37) #[] #[.pointer (some ⟨B, 0, none⟩)]] w (CellsNew m (fun i => mapC (Md.join B l).g ((fun i => ⟨L i, K i, N i, C i, k i, sub i⟩) i)) w) := fun w a b => h' co mc w hmn.out a b hm50 hp'.out
    replace hcells := Lib.hid hcells
    have sjoin0 := True.intro
    go_region_held3 (fun w' => w'.cell? ⟨w.heap.size, 0, none⟩ = some (.int .u64 S) ∧ w'.cell? ⟨w.heap.size, 1, none⟩ = some (.slice ao n nc) ∧ w'.cell? ⟨w.heap.size, 2, none⟩ = some (.slice co m mc))
      (first | with_reducible exact ⟨x.drew.c0, x.drew.c1, x.drew.c2⟩ | with_reducible exact ⟨x.c0, x.c1, x.c2⟩ | go_keep)
      (first
      | (go_at_call 37; clear sjoin0; have hd := (Below.refl w3.heap.size w3).drew; have bb := bb.drew; have x := x.drew; have y := y.drew; have hs := hs.below hd; have hcl := hcl.later hd; have hEv := hEv.later hd; clear hd; refine (cover1_any S B l _ hL0.out hEv).mono ?_; rintro e w' ⟨rfl, hb⟩; have bb := below_then bb (Nat.le_refl _) hb; have x := x.later hb; have y := y.later hb; have hs := hs.below hb; have hcl := hcl.later hb; have hEv := hEv.later hb; clear hb; have sjoin1 := True.intro)
      | (go_at_call 26; clear sjoin1; have hlt1 := y.lt; refine (cloneI_any ao n nc (intCells sh n) _ hn6 (by rw [intCells_length, Nat.mul_one]) hs.lies (intCells_one _ _)).mono ?_; rintro e w' ⟨po, pc, rfl, hr, hb⟩; have bb := below_then bb (Nat.le_refl _) hb; have x := x.later hb; have y := y.later hb; have hcl := hcl.later hb; have hEv := hEv.later hb; clear hb hs; have sjoin2 := True.intro)
      | (go_at_call 47; clear sjoin2; have hlt2 := y.lt; refine (hcells.out _ hcl hEv).mono ?_; rintro e w' ⟨qo, qc, rfl, hqn, hQ, hb⟩; have bb := below_then bb (Nat.le_refl _) hb; have x := x.later hb; have y := y.later hb; have hr := hr.later hb; clear hb hcl hEv; have d0 := y.c0; have d1 := y.c1; have d2 := y.c2; have f0 := y.fr 0; have f1 := y.fr 1; have f2 := y.fr 2; have sjoin3 := True.intro))
    have z := y.set (.int .u64 ((Md.join B l).g S : Nat)) (.slice po n pc) (.slice qo m qc)
    have e0 := z.c0; have e1 := z.c1; have e2 := z.c2
    have hbw := Lib.hid (below_set3 bb (B := w.heap.size + 1) (by omega) (.int .u64 ((Md.join B l).g S : Nat)) (.slice po n pc) (.slice qo m qc))
    have hne := fun b (hb : w.heap.size + 1 < b) => heap_set3 (w := w') (B := w.heap.size + 1) (b := b) (by omega) (.int .u64 ((Md.join B l).g S : Nat)) (.slice po n pc) (.slice qo m qc)
    obtain ⟨hpn, hpq⟩ := hr.slzQ hn6
    have hres := Lib.hid (arr_res (md := Md.join B l) hgl.out.1 hgl.out.2 hpn (hpq.keep (Q' := (w.heap.size ≤ ·)) (fun b hb _ => hne b (by omega)) (fun b hb _ => by omega)) hqn (hQ.keep (Q' := (w.heap.size ≤ ·)) (fun b hb _ => hne b (by omega)) (fun b hb _ => by omega)))
    clear z x y bb hr hQ hne hpq hpn
    go_wp2_with fail
    refine bodyPost_ret (v := .agg #[.int .u64 ((Md.join B l).g S : Nat), .slice po n pc, .slice qo m qc]) (by simp [results, Try.results36, go_sem, e0, e1, e2]) rfl ?_
    exact ⟨_, _, _, rfl, hres.out, hbw.out⟩

/-- Of any array, and any label's function. -/
theorem arrayBy_any (md : Md) : ∀ A, ArrBy md A := by
  intro A
  induction A with
  | leaf => intro c0 c1 c2 w h; exact (ArrP.leaf h).elim
  | arr S n sh m L K C N k sub ih => exact arrayBy_of md S n sh m L K C N k sub (cellsBy_of md m (fun i => ⟨L i, K i, N i, C i, k i, sub i⟩) fun i _ => cellBy_of md ((fun i => ⟨L i, K i, N i, C i, k i, sub i⟩) i) fun _ _ => ih i _)

theorem cellBy_any (md : Md) (c : CellD) : CellBy md c := cellBy_of md c fun _ _ => arrayBy_any md _

theorem cellsBy_any (md : Md) (m : Nat) (cs : Nat → CellD) : CellsBy md m cs := cellsBy_of md m cs fun _ _ => cellBy_any md _

end Go.Proofs.Ytlfilpjiepdejaa

namespace Go.Proofs.Ytlfilpjiepdejaa
open Go.RowKit Num

/-- What is made lies in new blocks: a store into an older one leaves it. -/
theorem tree_stored {w : World} {T : Tree} {c0 c1 c2 : Value} {U B : Nat} (h : ArrQ w (U ≤ ·) T c0 c1 c2) (hB : B < U) (u0 u1 u2 : Value) : ArrP (((w.setCell ⟨B, 0, none⟩ u0).setCell ⟨B, 1, none⟩ u1).setCell ⟨B, 2, none⟩ u2) T c0 c1 c2 :=
  ArrQ.plain _ _ _ _ (ArrQ.keep (Q' := fun _ => True) (fun b hb _ => heap_set3 (by omega) u0 u1 u2) (fun _ _ _ => trivial) _ _ _ _ h)

theorem tree_storedQ {w : World} {T : Tree} {c0 c1 c2 : Value} {U B D : Nat} (h : ArrQ w (U ≤ ·) T c0 c1 c2) (hB : B < U) (hD : D ≤ U) (u0 u1 u2 : Value) : ArrQ (((w.setCell ⟨B, 0, none⟩ u0).setCell ⟨B, 1, none⟩ u1).setCell ⟨B, 2, none⟩ u2) (D ≤ ·) T c0 c1 c2 :=
  ArrQ.keep (fun b hb _ => heap_set3 (by omega) u0 u1 u2) (fun b hb _ => by omega) _ _ _ _ h

theorem ArrQ.raise {w : World} {Q : Nat → Prop} {A : Tree} {c0 c1 c2 : Value} {l : Nat} (h : ArrQ w Q A c0 c1 c2) (hl : IsL l) : ∃ S, c0 = .int .u64 (S : Nat) ∧ IsL S ∧ ArrQ w Q (raiseT A l) (.int .u64 (orL S l : Nat)) c1 c2 := by
  obtain _ | ⟨S, n, sh, m, L, K, C, N, k, sub⟩ := A
  · exact (ArrQ.leaf h).elim
  obtain ⟨h0, h1, h2⟩ := h
  exact ⟨S, h0, h1, rfl, orL_is h1 hl, h2⟩

theorem TreeNew.plain {T : Tree} {w w' : World} {e : Ending} (h : TreeNew T w e w') : TreePost T w e w' := by
  obtain ⟨d0, d1, d2, rfl, hQ, hb⟩ := h
  exact ⟨d0, d1, d2, rfl, ArrQ.plain _ _ _ _ hQ, hb⟩

set_option maxRecDepth 20000 in
set_option maxHeartbeats 2000000 in
theorem coverW (A : Tree) (l : Nat) (c0 c1 c2 : Value) (w : World) (h : ArrP w A c0 c1 c2) (hf : partsT A ≤ 5000) (hl : IsL l) : Calls Try.prog 20 #[.agg #[c0, c1, c2], .int .u64 l] w (TreeNew (coverT A l false) w) := by
  obtain ⟨S, n, nc, m, mc, ao, co, rfl, rfl, rfl⟩ := (ArrP.within _ _ _ _ h).form
  have h' := Lib.hid h
  have hbel := ((((Below.refl w.heap.size w).alloc (Nat.le_refl _) (.cells #[.int .u64 S, .slice ao n nc, .slice co m mc] 26)).alloc (by simp) (.cells #[.int .u64 l] 22)).alloc (by simp; omega) (.cells #[.int .u64 0, .slice none 0 0, .slice none 0 0] 26))
  have hx := ((Box3.new (w := w) (B := w.heap.size) (.int .u64 S) (.slice ao n nc) (.slice co m mc) 26 rfl).alloc (.cells #[.int .u64 l] 22)).alloc (.cells #[.int .u64 0, .slice none 0 0, .slice none 0 0] 26)
  have hy := Box3.new (w := (w.alloc (.cells #[.int .u64 S, .slice ao n nc, .slice co m mc] 26)).alloc (.cells #[.int .u64 l] 22)) (B := w.heap.size + 2) (.int .u64 0) (.slice none 0 0) (.slice none 0 0) 26 (by simp)
  have hc0 : (w.alloc (.cells #[.int .u64 S, .slice ao n nc, .slice co m mc] 26)).heap.size = w.heap.size + 1 := by simp
  have hlc : ((w.alloc (.cells #[.int .u64 S, .slice ao n nc, .slice co m mc] 26)).alloc (.cells #[.int .u64 l] 22)).cell? ⟨w.heap.size + 1, 0, none⟩ = some (.int .u64 l) := by
    have h := World.cell?_alloc_new (w.alloc (.cells #[.int .u64 S, .slice ao n nc, .slice co m mc] 26)) #[.int .u64 l] 22 0
    rw [hc0] at h
    exact h
  have hlc2 : (((w.alloc (.cells #[.int .u64 S, .slice ao n nc, .slice co m mc] 26)).alloc (.cells #[.int .u64 l] 22)).alloc (.cells #[.int .u64 0, .slice none 0 0, .slice none 0 0] 26)).cell? ⟨w.heap.size + 1, 0, none⟩ = some (.int .u64 l) := cell_below hlc ((Below.refl _ _).alloc (Nat.le_refl _) _)
  clear h hlc hc0
  go_enter Try.func20, Try.ntmps20
  go_upto_region 1 with fail
  refine told_wp (fun w' => Below w.heap.size w w' ∧ Box3 w' w.heap.size (.int .u64 S) (.slice ao n nc) (.slice co m mc) ∧ Box3 w' (w.heap.size + 2) (.int .u64 0) (.slice none 0 0) (.slice none 0 0) ∧ w'.cell? ⟨w.heap.size + 1, 0, none⟩ = some (.int .u64 l)) ⟨hbel, hx, hy, hlc2⟩ ?_
  clear hbel hx hy hlc2
  rintro w2 ⟨b2, x2, y2, hlc⟩
  have z0 := x2.c0; have z1 := x2.c1; have z2 := x2.c2
  have hcall : Calls Try.prog 36 #[.agg #[.int .u64 S, .slice ao n nc, .slice co m mc], .func (.func 37) #[] #[.pointer (some ⟨w.heap.size + 1, 0, none⟩)]] w2 (TreeNew (mapT (Md.join (w.heap.size + 1) l).g A) w2) := arrayBy_any (.join (w.heap.size + 1) l) A _ _ _ w2 (ArrP.below _ _ _ _ h'.out b2) ⟨hlc, hl⟩ hf
  replace hcall := Lib.hid hcall
  have hy1 := y2.lt
  clear x2 hlc
  go_wp2_with fail
  refine hcall.out.mono ?_
  intro e w3 hnew
  obtain ⟨S', n', nc', m', mc', ao', co', rfl, hQ, hb3⟩ := hnew.form
  rw [map_join] at hQ
  have y3 := y2.later hb3
  have g0 := y3.c0; have g1 := y3.c1; have g2 := y3.c2
  have f0 := y3.fr 0; have f1 := y3.fr 1; have f2 := y3.fr 2
  have z := y3.set (.int .u64 (S' : Nat)) (.slice ao' n' nc') (.slice co' m' mc')
  have e0 := z.c0; have e1 := z.c1; have e2 := z.c2
  have hbw := Lib.hid (below_set3 (b2.trans (hb3.mono b2.size)) (B := w.heap.size + 2) (by omega) (.int .u64 (S' : Nat)) (.slice ao' n' nc') (.slice co' m' mc'))
  have hres := Lib.hid (tree_storedQ (D := w.heap.size) hQ hy1 (by omega) (.int .u64 (S' : Nat)) (.slice ao' n' nc') (.slice co' m' mc'))
  clear y2 y3 z hQ hb3 b2 z0 z1 z2 hcall hnew
  go_wp2_with fail
  refine bodyPost_ret (v := .agg #[.int .u64 (S' : Nat), .slice ao' n' nc', .slice co' m' mc']) (by simp [results, Try.results20, go_sem, e0, e1, e2]) rfl ?_
  exact ⟨_, _, _, rfl, hres.out, hbw.out⟩

theorem coverC : CoverC := fun A l c0 c1 c2 w h hf hl => (coverW A l c0 c1 c2 w h (Nat.le_trans hf.1 (by decide)) hl).mono fun _ _ h => h.plain


theorem isZ0 : IsZ 0 := ⟨by decide, by decide⟩

theorem isZ1 : IsZ 1 := ⟨by decide, by decide⟩

theorem isL0 : IsL 0 := by show (0 : Nat) < 18446744073709551616; decide

theorem isN0 : IsN 0 0 := ⟨Nat.le_refl _, by decide, by decide⟩

theorem cell_aside7 {w : World} {B : Nat} {x : Int} {p : Addr} (z : Box7 w B (.int .u64 0) (.int .i64 0) (.bool false) (.slice none 0 0) (.slice none 0 0) (.int .i64 0) (.slice none 0 0)) (u0 u1 u2 u3 u4 u5 u6 : Value) (h : w.cell? p = some (.int .u32 x)) :
    (((((((w.setCell ⟨B, 0, none⟩ u0).setCell ⟨B, 1, none⟩ u1).setCell ⟨B, 2, none⟩ u2).setCell ⟨B, 3, none⟩ u3).setCell ⟨B, 4, none⟩ u4).setCell ⟨B, 5, none⟩ u5).setCell ⟨B, 6, none⟩ u6).cell? p = some (.int .u32 x) := by
  have n0 : p ≠ ⟨B, 0, none⟩ := fun e => by rw [e, z.c0] at h; injection h with h; injection h with h; cases h
  have n1 : p ≠ ⟨B, 1, none⟩ := fun e => by rw [e, z.c1] at h; injection h with h; injection h with h; cases h
  have n2 : p ≠ ⟨B, 2, none⟩ := fun e => by rw [e, z.c2] at h; injection h with h; cases h
  have n3 : p ≠ ⟨B, 3, none⟩ := fun e => by rw [e, z.c3] at h; injection h with h; cases h
  have n4 : p ≠ ⟨B, 4, none⟩ := fun e => by rw [e, z.c4] at h; injection h with h; cases h
  have n5 : p ≠ ⟨B, 5, none⟩ := fun e => by rw [e, z.c5] at h; injection h with h; injection h with h; cases h
  have n6 : p ≠ ⟨B, 6, none⟩ := fun e => by rw [e, z.c6] at h; injection h with h; cases h
  rw [cell_set_ne n6, cell_set_ne n5, cell_set_ne n4, cell_set_ne n3, cell_set_ne n2, cell_set_ne n1, cell_set_ne n0]
  exact h

theorem Sl.aside7 {w : World} {B n : Nat} {ao : Option Addr} {f : Nat → Nat} (h : Sl w ao n f) (z : Box7 w B (.int .u64 0) (.int .i64 0) (.bool false) (.slice none 0 0) (.slice none 0 0) (.int .i64 0) (.slice none 0 0)) (u0 u1 u2 u3 u4 u5 u6 : Value) :
    Sl (((((((w.setCell ⟨B, 0, none⟩ u0).setCell ⟨B, 1, none⟩ u1).setCell ⟨B, 2, none⟩ u2).setCell ⟨B, 3, none⟩ u3).setCell ⟨B, 4, none⟩ u4).setCell ⟨B, 5, none⟩ u5).setCell ⟨B, 6, none⟩ u6) ao n f := by
  rcases h with h | ⟨b, o, e, h⟩
  · exact .inl h
  · exact .inr ⟨b, o, e, fun j hj => cell_aside7 z u0 u1 u2 u3 u4 u5 u6 (h j hj)⟩

set_option maxRecDepth 20000 in
set_option maxHeartbeats 2000000 in
theorem intAC : IntAC := by
  intro x w hx
  have hy := Box7.new (w := w) (B := w.heap.size) (.int .u64 0) (.int .i64 0) (.bool false) (.slice none 0 0) (.slice none 0 0) (.int .i64 0) (.slice none 0 0) 32 rfl
  have hbel := (Below.refl w.heap.size w).alloc (Nat.le_refl _) (.cells #[.int .u64 0, .int .i64 0, .bool false, .slice none 0 0, .slice none 0 0, .int .i64 0, .slice none 0 0] 32)
  have hx1 := hx.1; have hx2 := hx.2
  go_enter Try.func39, Try.ntmps39
  go_upto_region 1 with fail
  refine told_wp (fun w' => Below w.heap.size w w' ∧ Box7 w' w.heap.size (.int .u64 0) (.int .i64 0) (.bool false) (.slice none 0 0) (.slice none 0 0) (.int .i64 0) (.slice none 0 0)) ⟨hbel, hy⟩ ?_
  clear hbel hy
  rintro w2 ⟨b2, y2⟩
  replace b2 := Lib.hid b2; replace y2 := Lib.hid y2
  go_wp2_with fail
  refine (of_any x _ hx1 hx2).mono ?_
  rintro e w3 ⟨b, po, pn, pc, qo, qn, qc, rfl, hR, hb3⟩
  have y3 := y2.out.later hb3
  obtain ⟨f, h1, h2, h3, h4, h5⟩ := hR.top.ex
  obtain ⟨h, k1, k2, k3, k4, k5⟩ := hR.bot.ex
  clear k5
  have hpn := h4.len_le (int_32 hx1 hx2)
  rw [Int.natAbs_natCast] at k4
  have hqn := k4.len_le (k := 1) (by decide)
  have hA := h3.aside7 y3 (.int .u64 0) (.int .i64 0) (.bool b) (.slice po pn pc) (.slice qo qn qc) (.int .i64 0) (.slice none 0 0)
  have hB := k3.aside7 y3 (.int .u64 0) (.int .i64 0) (.bool b) (.slice po pn pc) (.slice qo qn qc) (.int .i64 0) (.slice none 0 0)
  have g0 := y3.c0; have g1 := y3.c1; have g2 := y3.c2; have g3 := y3.c3; have g4 := y3.c4; have g5 := y3.c5; have g6 := y3.c6
  have f0 := y3.fr 0; have f1 := y3.fr 1; have f2 := y3.fr 2; have f3 := y3.fr 3; have f4 := y3.fr 4; have f5 := y3.fr 5; have f6 := y3.fr 6
  have z := y3.setAll (.int .u64 0) (.int .i64 0) (.bool b) (.slice po pn pc) (.slice qo qn qc) (.int .i64 0) (.slice none 0 0)
  have e0 := z.c0; have e1 := z.c1; have e2 := z.c2; have e3 := z.c3; have e4 := z.c4; have e5 := z.c5; have e6 := z.c6
  have hbw := Lib.hid (below_setAll (b2.out.trans (hb3.mono b2.out.size)) (B := w.heap.size) (Nat.le_refl _) (.int .u64 0) (.int .i64 0) (.bool b) (.slice po pn pc) (.slice qo qn qc) (.int .i64 0) (.slice none 0 0))
  have hof := Lib.hid (show OfZ ⟨b, pn, f, qn, h⟩ x from ⟨h5, h4, k4⟩)
  have hn := Lib.hid (And.intro hA hB)
  have hlim := Lib.hid (And.intro h4.lim k4.lim)
  have hpi := Lib.hid (show IsN pn pc ∧ IsN qn qc from ⟨⟨h1, h2, by omega⟩, k1, k2, by omega⟩)
  clear z y3 hA hB hR hb3 h3 h4 k3 k4 h5 y2 b2 hx hpn hqn h1 h2 k1 k2
  go_wp2_with fail
  refine bodyPost_ret (v := .agg #[.int .u64 0, .int .i64 0, .bool b, .slice po pn pc, .slice qo qn qc, .int .i64 0, .slice none 0 0]) (by simp [results, Try.results39, go_sem, e0, e1, e2, e3, e4, e5, e6]) rfl ?_
  refine ⟨_, hof.out, fun q => [Value.int .u64 0, .int .i64 0, .bool b, .slice po pn pc, .slice qo qn qc, .int .i64 0, .slice none 0 0].getD q undef, rfl, ⟨rfl, isL0, rfl, isZ0, ⟨rfl, ⟨_, _, rfl, hpi.out.1, hn.out.1, hlim.out.1⟩, ⟨_, _, rfl, hpi.out.2, hn.out.2, hlim.out.2⟩⟩, rfl, isZ0, none, 0, rfl, isN0, .inl rfl⟩, hbw.out⟩

theorem vec_parts_of {m : Nat} {cs : Nat → CellD} (h : partsT (vecT m cs) ≤ 5000) : m ≤ 5000 ∧ ∀ i, i < m → partsC (cs i) ≤ 5000 := by
  have a := parts_here (S := 0) (n := 1) (m := m) (sh := fun _ => (m : Int)) (L := fun i => (cs i).L) (K := fun i => (cs i).K) (C := fun i => (cs i).C) (N := fun i => (cs i).N) (k := fun i => (cs i).k) (sub := fun i => (cs i).sub)
  have h' : partsT (.arr 0 1 (fun _ => (m : Int)) m (fun i => (cs i).L) (fun i => (cs i).K) (fun i => (cs i).C) (fun i => (cs i).N) (fun i => (cs i).k) fun i => (cs i).sub) ≤ 5000 := h
  exact ⟨by omega, fun i hi => Nat.le_trans (partsC_in (S := 0) (n := 1) (sh := fun _ => (m : Int)) (L := fun i => (cs i).L) (K := fun i => (cs i).K) (C := fun i => (cs i).C) (N := fun i => (cs i).N) (k := fun i => (cs i).k) (sub := fun i => (cs i).sub) hi) h'⟩

end Go.Proofs.Ytlfilpjiepdejaa

namespace Go.Proofs.Ytlfilpjiepdejaa
open Go.RowKit Num

/-- The tags of a that b lacks. -/
def lackL (a b : Nat) : Nat := (BitVec.ofNat 64 a &&& ~~~BitVec.ofNat 64 b).toNat

theorem lack64 (a b : Nat) (ha : IsL a) (hb : IsL b) : bits .andNot .u64 (a : Int) (b : Int) = ((lackL a b : Nat) : Int) := by
  have ha' : a < 18446744073709551616 := ha
  have hb' : b < 18446744073709551616 := hb
  have h := (BitVec.ofInt 64 (a : Int) &&& ~~~BitVec.ofInt 64 (b : Int)).isLt
  have e : ∀ x : Nat, BitVec.ofInt 64 (x : Int) = BitVec.ofNat 64 x := fun x => BitVec.ofInt_natCast 64 x
  show IntKind.u64.wrap ((BitVec.ofInt 64 (a : Int) &&& ~~~BitVec.ofInt 64 (b : Int)).toNat : Int) = _
  have hw : ∀ n : Nat, n < 2 ^ 64 → IntKind.u64.wrap (n : Int) = (n : Int) := fun n hn => by
    have e : (n : Int) % 2 ^ 64 = n := Int.emod_eq_of_lt (by omega) (by omega)
    simp only [IntKind.wrap, IntKind.bits, IntKind.signed, e]
    simp
  rw [hw _ h, e, e]
  rfl

theorem lack_none {a b : Nat} : lackL a b = 0 ↔ FlowsL a b := by
  unfold lackL FlowsL
  constructor
  · intro h i hi ha
    have h1 : BitVec.ofNat 64 a &&& ~~~BitVec.ofNat 64 b = 0#64 := BitVec.eq_of_toNat_eq h
    have h2 := congrArg (fun v => v.getLsbD i) h1
    simp only [BitVec.getLsbD_and, BitVec.getLsbD_not, BitVec.getLsbD_ofNat, Nat.zero_testBit, hi, decide_true, Bool.true_and] at h2
    rw [hasL_bit] at ha ⊢
    rw [ha] at h2
    simpa using h2
  · intro h
    have h1 : BitVec.ofNat 64 a &&& ~~~BitVec.ofNat 64 b = 0#64 := by
      refine BitVec.eq_of_getLsbD_eq fun i hi => ?_
      have := h i hi
      rw [hasL_bit, hasL_bit] at this
      simp only [BitVec.getLsbD_and, BitVec.getLsbD_not, BitVec.getLsbD_ofNat, Nat.zero_testBit, hi, decide_true, Bool.true_and]
      cases e : a.testBit i with
      | false => rfl
      | true => rw [this e]; rfl
    rw [h1]; rfl

set_option maxRecDepth 20000 in
theorem flowsV (a b : Nat) (ha : IsL a) (hb : IsL b) (w : World) : Calls Try.prog 24 #[.int .u64 a, .int .u64 b] w fun e w' => e = .returned (.bool (seesL a b)) ∧ w = w' := by
  have h := lack64 a b ha hb
  go_enter Try.func24, Try.ntmps24
  go_wp2_with fail
  go_ret
  refine ⟨congrArg (fun b => Ending.returned (.bool b)) ?_, rfl⟩
  show (((lackL a b : Nat) : Int) == 0) = seesL a b
  rw [Bool.eq_iff_iff, beq_iff_eq, sees_iff, ← lack_none]
  omega

set_option maxRecDepth 20000 in
set_option maxHeartbeats 2000000 in
theorem numCell_any (N : NumF) (c0 c1 c2 : Value) (w : World) (h : NumP w N c0 c1 c2) (ha6 : N.an ≤ 6000) (hb6 : N.am ≤ 6000) :
    Calls Try.prog 30 #[.agg #[c0, c1, c2]] w (fun e w' => ∃ ao ac bo bc, e = .returned (.agg #[.int .u64 0, .int .i64 0, .bool N.neg, .slice ao N.an ac, .slice bo N.am bc, .int .i64 0, .slice none 0 0]) ∧ NumQ w' (w.heap.size ≤ ·) N (.bool N.neg) (.slice ao N.an ac) (.slice bo N.am bc) ∧ Below w.heap.size w w') := by
  have hN := Lib.hid h
  obtain ⟨rfl, ⟨ao, ac, rfl, _⟩, ⟨bo, bc, rfl, _⟩⟩ := h
  have hbel := (((Below.refl w.heap.size w).alloc (Nat.le_refl _) (.cells #[.bool N.neg, .slice ao N.an ac, .slice bo N.am bc] 29)).alloc (by simp) (.cells #[.int .u64 0, .int .i64 0, .bool false, .slice none 0 0, .slice none 0 0, .int .i64 0, .slice none 0 0] 32))
  have hx := (Box3.new (w := w) (B := w.heap.size) (.bool N.neg) (.slice ao N.an ac) (.slice bo N.am bc) 29 rfl).alloc (.cells #[.int .u64 0, .int .i64 0, .bool false, .slice none 0 0, .slice none 0 0, .int .i64 0, .slice none 0 0] 32)
  have hy := Box7.new (w := w.alloc (.cells #[.bool N.neg, .slice ao N.an ac, .slice bo N.am bc] 29)) (B := w.heap.size + 1) (.int .u64 0) (.int .i64 0) (.bool false) (.slice none 0 0) (.slice none 0 0) (.int .i64 0) (.slice none 0 0) 32 (by simp)
  go_enter Try.func30, Try.ntmps30
  go_upto_region 1 with fail
  refine told_wp (fun w' => Below w.heap.size w w' ∧ Box3 w' w.heap.size (.bool N.neg) (.slice ao N.an ac) (.slice bo N.am bc) ∧ Box7 w' (w.heap.size + 1) (.int .u64 0) (.int .i64 0) (.bool false) (.slice none 0 0) (.slice none 0 0) (.int .i64 0) (.slice none 0 0)) ⟨hbel, hx, hy⟩ ?_
  clear hbel hx hy
  rintro w2 ⟨b2, x2, y2⟩
  have z0 := x2.c0; have z1 := x2.c1; have z2 := x2.c2
  have hcall := Lib.hid (numAnew_any N _ _ _ w2 (hN.out.below b2) ha6 hb6)
  have hlt := y2.lt
  clear x2
  go_wp2_with fail
  refine hcall.out.mono ?_
  rintro e w3 ⟨po, pc, qo, qc, rfl, hQ, hb3⟩
  have y3 := y2.later hb3
  have g0 := y3.c0; have g1 := y3.c1; have g2 := y3.c2; have g3 := y3.c3; have g4 := y3.c4; have g5 := y3.c5; have g6 := y3.c6
  have f0 := y3.fr 0; have f1 := y3.fr 1; have f2 := y3.fr 2; have f3 := y3.fr 3; have f4 := y3.fr 4; have f5 := y3.fr 5; have f6 := y3.fr 6
  have z := y3.setAll (.int .u64 0) (.int .i64 0) (.bool N.neg) (.slice po N.an pc) (.slice qo N.am qc) (.int .i64 0) (.slice none 0 0)
  have e0 := z.c0; have e1 := z.c1; have e2 := z.c2; have e3 := z.c3; have e4 := z.c4; have e5 := z.c5; have e6 := z.c6
  have hbw := Lib.hid (below_setAll (below_then b2 (Nat.le_refl _) hb3) (B := w.heap.size + 1) (by omega) (.int .u64 0) (.int .i64 0) (.bool N.neg) (.slice po N.an pc) (.slice qo N.am qc) (.int .i64 0) (.slice none 0 0))
  have hres := Lib.hid (hQ.keep (Q' := (w.heap.size ≤ ·)) (fun b hb _ => heap_set7 (w := w3) (B := w.heap.size + 1) (b := b) (by omega) (.int .u64 0) (.int .i64 0) (.bool N.neg) (.slice po N.an pc) (.slice qo N.am qc) (.int .i64 0) (.slice none 0 0)) (fun b hb _ => by omega))
  clear y2 y3 z hQ hb3 b2 z0 z1 z2 hcall
  go_wp2_with fail
  refine bodyPost_ret (v := .agg #[.int .u64 0, .int .i64 0, .bool N.neg, .slice po N.an pc, .slice qo N.am qc, .int .i64 0, .slice none 0 0]) (by simp [results, Try.results30, go_sem, e0, e1, e2, e3, e4, e5, e6]) rfl ?_
  exact ⟨_, _, _, _, rfl, hres.out, hbw.out⟩

def HideV (o : Nat) (A : Tree) : Prop := ∀ (c0 c1 c2 : Value) (w : World), ArrP w A c0 c1 c2 → partsT A ≤ 5000 → Calls Try.prog 10 #[.agg #[c0, c1, c2], .int .u64 o] w (TreeNew (hideT A o) w)

def CellV (o : Nat) (c : CellD) : Prop := ∀ (e : Nat → Value) (w : World), CellR w c e → partsC c ≤ 5000 → Calls Try.prog 14 #[.agg #[e 0, e 1, e 2, e 3, e 4, e 5, e 6], .int .u64 o] w (CellNew (hideC c o) w)

theorem hidden_arr {w : World} {Q : Nat → Prop} {S n m o : Nat} {sh : Nat → Int} {L : Nat → Nat} {K C : Nat → Int} {N : Nat → NumF} {k : Nat → Nat} {sub : Nat → Nat → Tree} (h : seesL S o = false) :
    ArrQ w Q (hideT (.arr S n sh m L K C N k sub) o) (.int .u64 18446744073709551615) (.slice none 0 0) (.slice none 0 0) := by
  rw [hideT_hidden h]
  exact ⟨rfl, secL_is, ⟨none, 0, rfl, ⟨Nat.le_refl _, by decide, by decide⟩, .inl rfl, fun j hj => absurd hj (Nat.not_lt_zero _)⟩, none, 0, rfl, ⟨Nat.le_refl _, by decide, by decide⟩, .inl rfl⟩

theorem seen_arr {w : World} {Q : Nat → Prop} {S n m o : Nat} {sh : Nat → Int} {L : Nat → Nat} {K C : Nat → Int} {N : Nat → NumF} {k : Nat → Nat} {sub : Nat → Nat → Tree} {po qo : Option Addr} {pc qc : Nat} (h : seesL S o = true) (hS : IsL S) (hz : ∀ j, j < n → IsZ (sh j)) (hn : IsN n pc) (hs : SlZQ w Q po n sh) (hm : IsN m qc)
    (hc : CellsQ w Q qo m (fun i => hideC ((fun i => ⟨L i, K i, N i, C i, k i, sub i⟩) i) o)) : ArrQ w Q (hideT (.arr S n sh m L K C N k sub) o) (.int .u64 (S : Nat)) (.slice po n pc) (.slice qo m qc) := by
  rw [hideT_seen h]
  exact ⟨rfl, hS, ⟨po, pc, rfl, hn, hs, hz⟩, qo, qc, rfl, hm, hc⟩

theorem hidden_cell {w : World} {Q : Nat → Prop} {c : CellD} {o : Nat} (h : seesL c.L o = false) :
    CellRQ w Q (hideC c o) (fun q => [Value.int .u64 18446744073709551615, .int .i64 0, .bool false, .slice none 0 0, .slice none 0 0, .int .i64 0, .slice none 0 0].getD q undef) := by
  rw [hideC_hidden h]
  exact ⟨rfl, secL_is, rfl, ⟨by decide, by decide⟩, num_zero w Q, rfl, ⟨by decide, by decide⟩, none, 0, rfl, ⟨Nat.le_refl _, by decide, by decide⟩, .inl rfl⟩

theorem seen_cell {c : CellD} {o : Nat} {w : World} {Q : Nat → Prop} {po qo ro : Option Addr} {pc qc rc : Nat} (h : seesL c.L o = true) (hL : IsL c.L) (hK : IsZ c.K) (hC : IsZ c.C) (hN : NumQ w Q c.N (.bool c.N.neg) (.slice po c.N.an pc) (.slice qo c.N.am qc)) (hr : IsN c.k rc)
    (hI : RowQ w Q ro c.k fun j d0 d1 d2 => ArrQ w Q (hideT (c.sub j) o) d0 d1 d2) : CellRQ w Q (hideC c o) (fun q => [Value.int .u64 (c.L : Nat), .int .i64 c.K, .bool c.N.neg, .slice po c.N.an pc, .slice qo c.N.am qc, .int .i64 c.C, .slice ro c.k rc].getD q undef) := by
  rw [hideC_seen h]
  exact ⟨rfl, hL, rfl, hK, hN, rfl, hC, ro, rc, rfl, hr, hI⟩

end Go.Proofs.Ytlfilpjiepdejaa

namespace Go.Proofs.Ytlfilpjiepdejaa
open Go.RowKit Num

set_option maxRecDepth 20000 in
set_option maxHeartbeats 8000000 in
theorem hideV_of (o : Nat) (ho : IsL o) (S n : Nat) (sh : Nat → Int) (m : Nat) (L : Nat → Nat) (K C : Nat → Int) (N : Nat → NumF) (k : Nat → Nat) (sub : Nat → Nat → Tree) (h : ∀ i, i < m → CellV o ((fun i => ⟨L i, K i, N i, C i, k i, sub i⟩) i)) : HideV o (.arr S n sh m L K C N k sub) := by
  intro c0 c1 c2 w hA hp
  obtain ⟨rfl, hS, ⟨ao, nc, rfl, hn, hsh, hz⟩, co, mc, rfl, hm, hc⟩ := hA
  have n1 := hn.1; have n2 := hn.2.1; have m1 := hm.1; have m2 := hm.2.1
  have hph := parts_here (S := S) (n := n) (m := m) (sh := sh) (L := L) (K := K) (C := C) (N := N) (k := k) (sub := sub)
  have hm50 : m ≤ 5000 := by omega
  have hn6 : n ≤ 6000 := by omega
  have hp' := Lib.hid (show ∀ i, i < m → partsC ((fun i => ⟨L i, K i, N i, C i, k i, sub i⟩) i) ≤ 5000 from fun i hi => Nat.le_trans (partsC_in hi) hp)
  have hgl := Lib.hid (show IsL S ∧ ∀ j, j < n → IsZ (sh j) from ⟨hS, hz⟩)
  have ho' := Lib.hid ho
  obtain ⟨cs, hcs⟩ : ∃ cs : Nat → CellD, cs = fun i => ⟨L i, K i, N i, C i, k i, sub i⟩ := ⟨_, rfl⟩
  have hcs' := Lib.hid hcs
  have hc0 : CellsP w co m cs := by rw [hcs]; exact hc
  rw [← hcs] at h hp'
  obtain ⟨E, hE1, hE2⟩ := hc0.vals
  have hcl := Lib.hid h; have hE1' := Lib.hid hE1; have hE2' := Lib.hid hE2
  have hl : ∀ i, i < m → ((fun i => seven (E i)) i).length = 7 := fun _ _ => rfl
  have hbel := (((Below.refl w.heap.size w).alloc (Nat.le_refl _) (.cells #[.int .u64 S, .slice ao n nc, .slice co m mc] 26)).alloc (by simp) (.cells #[.int .u64 0, .slice none 0 0, .slice none 0 0] 26))
  have hx := (Box3.new (w := w) (B := w.heap.size) (.int .u64 S) (.slice ao n nc) (.slice co m mc) 26 rfl).alloc (.cells #[.int .u64 0, .slice none 0 0, .slice none 0 0] 26)
  have hy := Box3.new (w := w.alloc (.cells #[.int .u64 S, .slice ao n nc, .slice co m mc] 26)) (B := w.heap.size + 1) (.int .u64 0) (.slice none 0 0) (.slice none 0 0) 26 (by simp)
  have hs0 := Lib.hid hsh
  clear hph hp hn hm hsh hz hc hc0 hS h hE1 hE2 hcs ho
  go_enter Try.func10, Try.ntmps10
  go_upto_region 1 with fail
  refine told_wp (fun w' => Below w.heap.size w w' ∧ Box3 w' w.heap.size (.int .u64 S) (.slice ao n nc) (.slice co m mc) ∧ Box3 w' (w.heap.size + 1) (.int .u64 0) (.slice none 0 0) (.slice none 0 0)) ⟨hbel, hx, hy⟩ ?_
  clear hbel hx hy
  rintro w2 ⟨b2, x2, y2⟩
  have g0 := x2.c0
  have hlt2 : w.heap.size + 1 < w2.heap.size := y2.lt
  have hb2 := Lib.hid b2; have hx2 := Lib.hid x2; have hy2 := Lib.hid y2
  have hsrc := Lib.hid (hE2'.out.below b2)
  clear b2 x2 y2
  go_wp2_with fail
  refine (flowsV S o hgl.out.1 ho'.out w2).mono ?_
  rintro e w2' ⟨rfl, rfl⟩
  cases hsee : seesL S o with
  | false =>
    have y := hy2.out
    have q0 := y.c0; have q1 := y.c1; have q2 := y.c2
    have f0 := y.fr 0; have f1 := y.fr 1; have f2 := y.fr 2
    have z := y.set (.int .u64 18446744073709551615) (.slice none 0 0) (.slice none 0 0)
    have e0 := z.c0; have e1 := z.c1; have e2 := z.c2
    have hbw := Lib.hid (below_set3 hb2.out (B := w.heap.size + 1) (by omega) (.int .u64 18446744073709551615) (.slice none 0 0) (.slice none 0 0))
    have hs' := Lib.hid hsee
    clear z y hsee
    go_wp2_with fail
    refine bodyPost_ret (v := .agg #[.int .u64 18446744073709551615, .slice none 0 0, .slice none 0 0]) (by simp [results, Try.results10, go_sem, e0, e1, e2]) rfl ?_
    exact ⟨_, _, _, rfl, hidden_arr hs'.out, hbw.out⟩
  | true =>
    have hs' := Lib.hid hsee
    have g2 := hx2.out.c2
    clear hsee
    go_wp2_with fail
    refine (cloneC_any co m mc (rowsN (fun i => seven (E i)) m) _ (by omega) (rowsN_length m hl) hsrc.out (rows_ones fun i hi => (hE1'.out i hi).ones)).mono ?_
    rintro e w1 ⟨ro, rc, rfl, hrow, hb1⟩
    obtain ⟨ao', cap', e', hcap1, hcap2, hform⟩ := own_form hrow.own
    injection e' with e1 e2 e3
    subst e1; subst e3
    obtain ⟨g, hg⟩ : ∃ g, m = 0 ∨ (ro = some ⟨g, 0, none⟩ ∧ w2.heap.size ≤ g ∧ g < w1.heap.size) := by
      rcases hform with h | ⟨g, h1, _, h2, h3⟩
      · exact ⟨0, .inl h⟩
      · exact ⟨g, .inr ⟨h1, h2, h3⟩⟩
    have hP := cellsF_keep (fun i => hideC (cs i) o)
    have hM0 := Lib.hid (Mapped.start (P := cellsF (fun i => hideC (cs i) o)) (g := g) hrow hl hb1)
    have hg' := Lib.hid hg
    have hsz1 := Lib.hid (Nat.le_refl w1.heap.size)
    clear hform hrow hb1 hg g0 g2 hsrc
    go_wp2_with fail
    go_loopw [19] (fun i wr => ∃ (t : Nat) (es : Nat → List Value), t ≤ m ∧ i = .int .i64 t ∧ Hid (Mapped (cellsF (fun i => hideC (cs i) o)) w2 wr 32 7 g ro m rc t es (fun i => seven (E i))) ∧ Hid (w1.heap.size ≤ wr.heap.size)) (fun i _ => m - (intOfZ i).toNat)
    case atStart => exact ⟨0, _, Nat.zero_le _, rfl, hM0, hsz1⟩
    case round =>
      obtain ⟨t, es, ht, rfl, hM, hsz⟩ := hrel
      clear hM0 hsz1
      by_cases hlt : t < m
      · rcases hg'.out with h0 | ⟨rfl, hg1, hg2⟩
        · omega
        have hR := hE1'.out t hlt
        have hRb := Lib.hid ((hR.later hb2.out).later hM.out.bel)
        obtain ⟨q0, qL, q1, qK, ⟨q2, ⟨a1, ac, q3, ha, _, _⟩, ⟨b1, bc, q4, hb', _, _⟩⟩, q5, qC, io, kc, q6, hk, _⟩ := hR
        have y0 := hM.out.cell (q := 0) hlt (by decide) (v := E t 0) rfl
        have y1 := hM.out.cell (q := 1) hlt (by decide) (v := E t 1) rfl
        have y2 := hM.out.cell (q := 2) hlt (by decide) (v := E t 2) rfl
        have y3 := hM.out.cell (q := 3) hlt (by decide) (v := E t 3) rfl
        have y4 := hM.out.cell (q := 4) hlt (by decide) (v := E t 4) rfl
        have y5 := hM.out.cell (q := 5) hlt (by decide) (v := E t 5) rfl
        have y6 := hM.out.cell (q := 6) hlt (by decide) (v := E t 6) rfl
        have hv := Lib.hid (show (Value.agg #[.int .u64 (cs t).L, .int .i64 (cs t).K, .bool (cs t).N.neg, .slice a1 (cs t).N.an ac, .slice b1 (cs t).N.am bc, .int .i64 (cs t).C, .slice io (cs t).k kc]) = .agg #[E t 0, E t 1, E t 2, E t 3, E t 4, E t 5, E t 6] from by rw [q0, q1, q2, q3, q4, q5, q6])
        have hq := Lib.hid (And.intro q0 (And.intro q1 (And.intro q2 (And.intro q3 (And.intro q4 (And.intro q5 q6))))))
        rw [q0, Nat.add_zero] at y0; rw [q1] at y1; rw [q2] at y2; rw [q3] at y3; rw [q4] at y4; rw [q5] at y5; rw [q6] at y6
        have hbz := (Below.refl wr.heap.size wr).alloc (Nat.le_refl _) (.cells #[.int .u64 (cs t).L, .int .i64 (cs t).K, .bool (cs t).N.neg, .slice a1 (cs t).N.an ac, .slice b1 (cs t).N.am bc, .int .i64 (cs t).C, .slice io (cs t).k kc] 32)
        have hM2 := hM.out.later hP hbz
        have hR2 := hRb.out.later hbz
        have hx7 := Box7.new (w := wr) (B := wr.heap.size) (.int .u64 (cs t).L) (.int .i64 (cs t).K) (.bool (cs t).N.neg) (.slice a1 (cs t).N.an ac) (.slice b1 (cs t).N.am bc) (.int .i64 (cs t).C) (.slice io (cs t).k kc) 32 rfl
        have hsz2 : w1.heap.size ≤ (wr.alloc (.cells #[.int .u64 (cs t).L, .int .i64 (cs t).K, .bool (cs t).N.neg, .slice a1 (cs t).N.an ac, .slice b1 (cs t).N.am bc, .int .i64 (cs t).C, .slice io (cs t).k kc] 32)).heap.size := Nat.le_trans hsz.out hbz.size
        obtain ⟨U, hU⟩ : ∃ U, U = wr.heap.size := ⟨_, rfl⟩
        clear q0 q1 q2 q3 q4 q5 q6 qL qK qC ha hb' hk
        go_upto_region 7 with fail
        rw [← hU] at hx7 ⊢
        refine told_wp (fun w' => Mapped (cellsF (fun i => hideC (cs i) o)) w2 w' 32 7 g (some ⟨g, 0, none⟩) m rc t es (fun i => seven (E i)) ∧ CellR w' (cs t) (E t) ∧ Box7 w' U (.int .u64 (cs t).L) (.int .i64 (cs t).K) (.bool (cs t).N.neg) (.slice a1 (cs t).N.an ac) (.slice b1 (cs t).N.am bc) (.int .i64 (cs t).C) (.slice io (cs t).k kc) ∧ w1.heap.size ≤ w'.heap.size) ⟨hM2, hR2, hx7, hsz2⟩ ?_
        clear hM hRb hM2 hR2 hx7 hsz2 hbz y0 y1 y2 y3 y4 y5 y6 hU hsz
        rintro wa ⟨hMa, hRa, hxa, hsa⟩
        have g0 := hxa.c0; have g1 := hxa.c1; have g2 := hxa.c2; have g3 := hxa.c3; have g4 := hxa.c4; have g5 := hxa.c5; have g6 := hxa.c6
        have hM := Lib.hid hMa
        have hcall := hcl.out t hlt (E t) wa hRa (hp'.out t hlt)
        have hga := Lib.hid (show g < wa.heap.size by omega)
        rw [← hv.out] at hcall
        replace hcall := Lib.hid hcall
        clear hMa hRa hxa
        go_wp2_with fail
        refine hcall.out.mono ?_
        intro e w3 hnew
        obtain ⟨bo, co', io', bc', cc', kc', rfl, hres, hb3⟩ := hnew.form
        have hMb := hM.out.later hP hb3
        obtain ⟨q0, q1, q2, q3, q4, q5, q6⟩ := hq.out
        have y0 := hMb.cell (q := 0) hlt (by decide) (v := E t 0) rfl
        have y1 := hMb.cell (q := 1) hlt (by decide) (v := E t 1) rfl
        have y2 := hMb.cell (q := 2) hlt (by decide) (v := E t 2) rfl
        have y3 := hMb.cell (q := 3) hlt (by decide) (v := E t 3) rfl
        have y4 := hMb.cell (q := 4) hlt (by decide) (v := E t 4) rfl
        have y5 := hMb.cell (q := 5) hlt (by decide) (v := E t 5) rfl
        have y6 := hMb.cell (q := 6) hlt (by decide) (v := E t 6) rfl
        rw [q0, Nat.add_zero] at y0; rw [q1] at y1; rw [q2] at y2; rw [q3] at y3; rw [q4] at y4; rw [q5] at y5; rw [q6] at y6
        clear q0 q1 q2 q3 q4 q5 q6
        have f0 := hMb.row.frozenAt (t * 7); have f1 := hMb.row.frozenAt (t * 7 + 1); have f2 := hMb.row.frozenAt (t * 7 + 2); have f3 := hMb.row.frozenAt (t * 7 + 3)
        have f4 := hMb.row.frozenAt (t * 7 + 4); have f5 := hMb.row.frozenAt (t * 7 + 5); have f6 := hMb.row.frozenAt (t * 7 + 6)
        obtain ⟨D, hD⟩ : ∃ D, D = hideC (cs t) o := ⟨_, rfl⟩
        rw [← hD] at hres ⊢
        have hfar := fun b (hb : b ≠ g) => far7 (w := w3) (o := t * 7) hb (.int .u64 D.L) (.int .i64 D.K) (.bool D.N.neg) (.slice bo D.N.an bc') (.slice co' D.N.am cc') (.int .i64 D.C) (.slice io' D.k kc')
        have hput := own_put7 hMb.row hMb.len (t := t) (.int .u64 D.L) (.int .i64 D.K) (.bool D.N.neg) (.slice bo D.N.an bc') (.slice co' D.N.am cc') (.int .i64 D.C) (.slice io' D.k kc')
        have hbel2 := below_far7 (o := t * 7) hMb.bel hg1 (.int .u64 D.L) (.int .i64 D.K) (.bool D.N.neg) (.slice bo D.N.an bc') (.slice co' D.N.am cc') (.int .i64 D.C) (.slice io' D.k kc')
        have hnw : cellsF (fun i => hideC (cs i) o) t w3 (fun b => w2.heap.size ≤ b ∧ b ≠ g) (fun q => [Value.int .u64 D.L, .int .i64 D.K, .bool D.N.neg, .slice bo D.N.an bc', .slice co' D.N.am cc', .int .i64 D.C, .slice io' D.k kc'].getD q undef) := by
          show CellRQ _ _ (hideC (cs t) o) _
          rw [← hD]
          exact hres.keep (fun _ _ _ => rfl) fun b hq _ => ⟨by have := hM.out.bel.size; omega, by have := hga.out; omega⟩
        have hM3 := Lib.hid (hMb.put hP _ rfl hfar hput hbel2 hnw)
        have hs3 := Lib.hid (show w1.heap.size ≤ _ from Nat.le_trans hsa (Nat.le_trans hb3.size (by simp [World.setCell] : w3.heap.size ≤ (((((((w3.setCell ⟨g, t * 7, none⟩ (.int .u64 D.L)).setCell ⟨g, t * 7 + 1, none⟩ (.int .i64 D.K)).setCell ⟨g, t * 7 + 2, none⟩ (.bool D.N.neg)).setCell ⟨g, t * 7 + 3, none⟩ (.slice bo D.N.an bc')).setCell ⟨g, t * 7 + 4, none⟩ (.slice co' D.N.am cc')).setCell ⟨g, t * 7 + 5, none⟩ (.int .i64 D.C)).setCell ⟨g, t * 7 + 6, none⟩ (.slice io' D.k kc')).heap.size)))
        clear hfar hput hbel2 hres hb3 hMb hM hcall hnew hnw hD g0 g1 g2 g3 g4 g5 g6
        go_wp2_with fail
        go_roundw
        case rel => exact ⟨t + 1, _, by omega, by go_num, hM3, hs3⟩
        case measure => simp [intOfZ]; omega
      · obtain rfl : t = m := by omega
        have hmb := hM.out.bel
        have hQ0 := hM.out.cellsQ
        have hx3 := hx2.out.later hmb
        have hy3 := hy2.out.later hmb
        have hb3 := hb2.out.trans (hmb.mono (by omega))
        have hsb := hs0.out.below (hb2.out.trans (hmb.mono (by omega)))
        have hqn := Lib.hid (show IsN t rc from ⟨hcap1, hcap2, by omega⟩)
        clear hM hsz hmb
        go_upto_region 9 with fail
        refine told_wp (fun w' => Below w.heap.size w w' ∧ Box3 w' w.heap.size (.int .u64 S) (.slice ao n nc) (.slice co t mc) ∧ Box3 w' (w.heap.size + 1) (.int .u64 0) (.slice none 0 0) (.slice none 0 0) ∧ SlZ w' ao n sh ∧ CellsQ w' (w2.heap.size ≤ ·) ro t (fun i => hideC (cs i) o)) ⟨hb3, hx3, hy3, hsb, hQ0⟩ ?_
        clear hb3 hx3 hy3 hsb hQ0
        rintro w3 ⟨bb, x, y, hs, hQ⟩
        have sa0 := True.intro
        go_region_held3 (fun w' => w'.cell? ⟨w.heap.size, 0, none⟩ = some (.int .u64 S) ∧ w'.cell? ⟨w.heap.size, 1, none⟩ = some (.slice ao n nc))
          (first | with_reducible exact ⟨x.drew.c0, x.drew.c1⟩ | with_reducible exact ⟨x.c0, x.c1⟩ | go_keep)
          (first
          | (go_at_call 26; clear sa0; have hd := (Below.refl w3.heap.size w3).drew; have bb := bb.drew; have x := x.drew; have y := y.drew; have hs := hs.below hd; have hQ := hQ.keep (Q' := (w2.heap.size ≤ ·)) (fun b _ hlt => hd.block b hlt) (fun _ hq _ => hq); clear hd; have hlt1 := y.lt; refine (cloneI_any ao n nc (intCells sh n) _ hn6 (by rw [intCells_length, Nat.mul_one]) hs.lies (intCells_one _ _)).mono ?_; rintro e w' ⟨po, pc, rfl, hr, hb⟩; have bb := below_then bb (Nat.le_refl _) hb; have x := x.later hb; have y := y.later hb; have hQ := hQ.keep (Q' := (w2.heap.size ≤ ·)) (fun b _ hlt => hb.block b hlt) (fun _ hq _ => hq); clear hb hs; have d0 := y.c0; have d1 := y.c1; have d2 := y.c2; have f0 := y.fr 0; have f1 := y.fr 1; have f2 := y.fr 2; have sa1 := True.intro))
        have z := y.set (.int .u64 S) (.slice po n pc) (.slice ro t rc)
        have e0 := z.c0; have e1 := z.c1; have e2 := z.c2
        have hbw := Lib.hid (below_set3 bb (B := w.heap.size + 1) (by omega) (.int .u64 S) (.slice po n pc) (.slice ro t rc))
        have hne := fun b (hb : w.heap.size + 1 < b) => heap_set3 (w := w') (B := w.heap.size + 1) (b := b) (by omega) (.int .u64 S) (.slice po n pc) (.slice ro t rc)
        obtain ⟨hpn, hpq⟩ := hr.slzQ hn6
        have hcq := (hQ.keep (Q' := (w.heap.size ≤ ·)) (fun b hb _ => hne b (by omega)) (fun b hb _ => by omega))
        rw [hcs'.out] at hcq
        have hres := Lib.hid (seen_arr hs'.out hgl.out.1 hgl.out.2 hpn (hpq.keep (Q' := (w.heap.size ≤ ·)) (fun b hb _ => hne b (by omega)) (fun b hb _ => by omega)) hqn.out hcq)
        clear z x y bb hr hQ hne hpq hpn hcq
        go_wp2_with fail
        refine bodyPost_ret (v := .agg #[.int .u64 S, .slice po n pc, .slice ro t rc]) (by simp [results, Try.results10, go_sem, e0, e1, e2]) rfl ?_
        exact ⟨_, _, _, rfl, hres.out, hbw.out⟩

end Go.Proofs.Ytlfilpjiepdejaa

namespace Go.Proofs.Ytlfilpjiepdejaa
open Go.RowKit Num

set_option maxHeartbeats 1000000 in
/-- Equal, of any limbs. -/
theorem eqB_any (ao bo : Option Addr) (n nc m mc : Nat) (f g : Nat → Nat) (w : World) (hn : n ≤ 9223372036854775807) (hf : Sl w ao n f) (hg : Sl w bo m g) :
    Calls Try.prog 57 #[.slice ao n nc, .slice bo m mc] w (SameBPost n m f g w) := by
  by_cases hnm : n = m
  · subst hnm
    go_enter Try.func57, Try.ntmps57
    go_wp2_with fail
    go_loopw [13] (fun i wr => ∃ j : Nat, j ≤ n ∧ i = .int .i64 j ∧ Hid (∀ i, i < j → f i = g i) ∧ ∃ q, wr = w.drewN q) (fun i _ => n - (intOf i).toNat)
    case atStart => exact ⟨0, Nat.zero_le _, rfl, Lib.hid (fun i hi => absurd hi (Nat.not_lt_zero _)), 0, rfl⟩
    case round =>
      obtain ⟨j, hj, rfl, heq, q, rfl⟩ := hrel
      by_cases hlt : j < n
      · rcases hf with h | ⟨b, off, rfl, hc⟩
        · omega
        rcases hg with h | ⟨b', off', rfl, hc'⟩
        · omega
        have c1 := hc j hlt
        have c2 := hc' j hlt
        clear hc hc'
        by_cases he : f j = g j
        · rw [← he] at c2
          have heq' : Hid (∀ i, i < j + 1 → f i = g i) := Lib.hid (fun i hi => by
            by_cases hij : i < j
            · exact heq.out i hij
            · have : i = j := by omega
              subst this; exact he)
          clear he heq
          go_wp2_with fail
          go_quiet (fail)
          go_wp2_with fail
          go_roundw
          case rel => exact ⟨j + 1, by omega, by go_num, heq', _, rfl⟩
          case measure => simp [intOf]; omega
        · have he' : ((f j : Int) == (g j : Int)) = false := by rw [beq_eq_false_iff_ne]; omega
          have hid := Lib.hid he
          have hlt' := Lib.hid hlt
          go_wp2_with fail
          go_quiet (fail)
          go_wp2_with fail
          go_ret
          exact ⟨false, rfl, ⟨(fun h => by cases h), fun h => absurd (h.2 j hlt'.out) hid.out⟩, below_drewN (below_drewN (Below.refl _ _) _) _⟩
      · have : j = n := by omega
        subst this
        go_wp2_with fail
        go_ret
        exact ⟨true, rfl, ⟨fun _ => ⟨rfl, heq.out⟩, fun _ => rfl⟩, below_drewN (Below.refl _ _) _⟩
  · have hd : ((n : Int) == (m : Int)) = false := by rw [beq_eq_false_iff_ne]; omega
    have hnm' := Lib.hid hnm
    clear hf hg
    go_enter Try.func57, Try.ntmps57
    go_wp2_with fail
    go_ret
    exact ⟨false, rfl, ⟨(fun h => by cases h), fun h => absurd h.1 hnm'.out⟩, Below.refl _ _⟩

attribute [local go_sem ↓] Go.wp_at_zero Go.wp_at_succ

/-- A number's bottom is 1, or it isn't: the limbs. -/
theorem one_or {w : World} {b : Bool} {ao : Option Addr} {n nc Q : Nat} (h : Right w b ao n nc (Q : Int)) : ∃ f, n ≤ nc ∧ nc ≤ 9223372036854775807 ∧ Sl w ao n f ∧ Lim f n ∧ ((Q = 1 ∧ n = 1 ∧ f 0 = 1) ∨ (Q ≠ 1 ∧ (n = 1 → f 0 ≠ 1))) := by
  obtain ⟨f, h1, h2, h3, h4, _⟩ := h.ex
  rw [Int.natAbs_natCast] at h4
  refine ⟨f, h1, h2, h3, h4.lim, ?_⟩
  have c1 : Canon 1 1 (fun _ => 1) := ⟨fun _ _ => (by decide : 1 < 4294967296), .inr (by decide), rfl⟩
  by_cases hQ : Q = 1
  · subst hQ
    have e := h4.len c1
    exact .inl ⟨rfl, e, by have := h4.eq c1 0 (by omega); exact this⟩
  · refine .inr ⟨hQ, fun e h0 => hQ ?_⟩
    have := h4.val
    rw [e] at this
    simpa [val, pw, h0] using this.symm

/-- What Int tells: the top, if the bottom is 1. -/
def IntOfPost (P : Int) (Q : Nat) (w : World) (e : Ending) (w' : World) : Prop :=
  ∃ b ao n nc, e = .returned (.tuple #[.agg #[.bool b, .slice ao n nc], .bool (decide (Q = 1))]) ∧ Right w' b ao n nc (if Q = 1 then P else 0) ∧ Below w.heap.size w w'

end Go.Proofs.Ytlfilpjiepdejaa

namespace Go.Proofs.Ytlfilpjiepdejaa
open Go.RowKit Num

set_option maxRecDepth 20000 in
set_option maxHeartbeats 2000000 in
theorem sameP_any (ab cb : Bool) (ap aq cp cq : Option Addr) (an ac am ae cn cc cm ce : Nat) (f h g k : Nat → Nat) (w : World) (hn : an ≤ 9223372036854775807) (hm : am ≤ 9223372036854775807) (hf : Sl w ap an f) (hh : Sl w aq am h) (hg : Sl w cp cn g) (hk : Sl w cq cm k) :
    Calls Try.prog 53 #[.agg #[.bool ab, .slice ap an ac, .slice aq am ae], .agg #[.bool cb, .slice cp cn cc, .slice cq cm ce]] w (Same4BPost ab cb an cn am cm f g h k w) := by
  have hf' := Lib.hid hf; have hh' := Lib.hid hh; have hg' := Lib.hid hg; have hk' := Lib.hid hk
  clear hf hh hg hk
  by_cases hb : ab = cb
  · subst hb
    go_enter Try.func53, Try.ntmps53
    go_wp2_with fail
    refine told_calls (fun w' => Below w.heap.size w w' ∧ Box3 w' w.heap.size (.bool ab) (.slice ap an ac) (.slice aq am ae) ∧ Box3 w' (w.heap.size + 1) (.bool ab) (.slice cp cn cc) (.slice cq cm ce))
      ⟨(((Below.refl _ _).alloc (Nat.le_refl _) _).alloc (by first | (simp; done) | (simp; omega)) _), ((Box3.new _ _ _ _ rfl).alloc _), (Box3.new _ _ _ _ (by first | (simp; done) | (simp; omega)))⟩ ?_
    rintro w0 ⟨hb0, x0, x1⟩
    refine (eqB_any ap cp an ac cn cc f g _ hn (hf'.out.below hb0) (hg'.out.below hb0)).mono ?_
    rintro e w1 ⟨r, rfl, hr, hb⟩
    have bb := Lib.hid (below_then hb0 (Nat.le_refl _) hb)
    have x0 := x0.later hb; have x1 := x1.later hb
    have p0 := x0.c2; have p1 := x1.c2
    replace hr := Lib.hid hr
    clear hb hb0 x0 x1
    cases r
    · go_wp2_with fail
      go_ret
      exact ⟨false, rfl, ⟨(fun h => by cases h), fun h => absurd (hr.out.2 h.2.1) (by decide)⟩, bb.out⟩
    · go_wp2_with fail
      refine (eqB_any aq cq am ae cm ce h k _ hm (hh'.out.below bb.out) (hk'.out.below bb.out)).mono ?_
      rintro e w2 ⟨s, rfl, hs, hb⟩
      have bb := Lib.hid (below_then bb.out (Nat.le_refl _) hb)
      replace hs := Lib.hid hs
      clear hb p0 p1
      go_wp2_with fail
      go_ret
      exact ⟨s, rfl, ⟨fun e => ⟨rfl, hr.out.1 (by first | exact rfl | trivial), hs.out.1 e⟩, fun h => hs.out.2 h.2.2⟩, bb.out⟩
  · have hd : (ab == cb) = false := by simp [hb]
    have hb' := Lib.hid hb
    clear hb
    go_enter Try.func53, Try.ntmps53
    go_wp2_with fail
    go_ret
    exact ⟨false, rfl, ⟨(fun h => by cases h), fun h => absurd h.1 hb'.out⟩, (((Below.refl _ _).alloc (Nat.le_refl _) _).alloc (by simp) _)⟩

/-- A number is none: all its fields are empty. -/
theorem zeroP_any (N : NumF) (c0 c1 c2 : Value) (w : World) (h : NumP w N c0 c1 c2) :
    Calls Try.prog 53 #[.agg #[c0, c1, c2], .agg #[.bool false, .slice none 0 0, .slice none 0 0]] w (Tell (.bool (zeroF N)) w) := by
  obtain ⟨neg, an, fa, am, ga⟩ := N
  obtain ⟨rfl, ⟨ao, ac, rfl, hn, hs, hl⟩, ⟨bo, bc, rfl, hm, hs', hl'⟩⟩ := h
  have h1 := hn.1; have h2 := hn.2.1; have h3 := hm.1; have h4 := hm.2.1
  refine (sameP_any neg false ao bo none none an ac am bc 0 0 0 0 fa ga (fun _ => 0) (fun _ => 0) w (Nat.le_trans h1 h2) (Nat.le_trans h3 h4) hs hs' (.inl rfl) (.inl rfl)).mono ?_
  rintro e w' ⟨r, rfl, hr, hb⟩
  refine ⟨congrArg (fun b => Ending.returned (.bool b)) ?_, hb⟩
  rw [Bool.eq_iff_iff, hr]
  unfold zeroF
  simp only [Bool.and_eq_true, Bool.not_eq_true', decide_eq_true_eq]
  constructor
  · rintro ⟨rfl, ⟨h, _⟩, h', _⟩; exact ⟨⟨rfl, h⟩, h'⟩
  · rintro ⟨⟨rfl, h⟩, h'⟩; exact ⟨rfl, ⟨h, fun j hj => by omega⟩, h', fun j hj => by omega⟩

end Go.Proofs.Ytlfilpjiepdejaa

namespace Go.Proofs.Ytlfilpjiepdejaa
open Go.RowKit

theorem prodZ_nonneg {f : Nat → Int} : ∀ n, (∀ j, j < n → 0 ≤ f j) → 0 ≤ prodZ f n
  | 0, _ => by show (0 : Int) ≤ 1; decide
  | n + 1, h => Int.mul_nonneg (prodZ_nonneg n fun j hj => h j (by omega)) (h n (by omega))

theorem Shape.nonneg {f : Nat → Int} {n : Nat} {N : Int} (h : Shape f n N) : 0 ≤ N := by rw [h.all]; exact prodZ_nonneg n h.low

/-- Of a shape with a cell no length is 0. -/
theorem Shape.pos {f : Nat → Int} {n : Nat} {N : Int} (h : Shape f n N) (k : 0 < N) : ∀ j, j < n → 0 < f j := by
  intro j hj
  have h1 := h.low j hj
  have h2 : f j ≠ 0 := fun e => by have := h.all; rw [prodZ_zero e n hj] at this; omega
  omega

theorem infoRow : (Try.prog.info? 23).map (fun i => (i.zero, i.size, i.bytes)) = some (some (.slice none 0 0), 1, 24) := by kernel_rfl

theorem made_zeros (n : Nat) : (madeCells #[Value.int .i64 0] n).toList = intCells (fun _ => 0) n := by
  rw [toList_madeCells_one]
  refine List.ext_getElem? fun j => ?_
  by_cases hj : j < n
  · rw [intCells_get _ _ _ hj]; simp [hj]
  · rw [List.getElem?_eq_none (by simp; omega), List.getElem?_eq_none (by rw [intCells_length]; omega)]

/-- Rows of two kinds lie apart. -/
theorem own_apart {w : World} {B C s1 s2 n m : Nat} {t u : TypeId} {v x : Value} {xs ys : List Value} (h : w.ownsRow B t s1 v n xs) (k : w.ownsRow C u s2 x m ys) (ne : t ≠ u) : v.ownBlock = none ∨ v.ownBlock ≠ x.ownBlock := by
  rcases h.2 with ⟨rfl, _⟩ | ⟨g, cap, cur, rfl, _, hg, _⟩
  · exact .inl rfl
  · rcases k.2 with ⟨rfl, _⟩ | ⟨g', cap', cur', rfl, _, hg', _⟩
    · exact .inr (by simp [Value.ownBlock])
    · refine .inr fun e => ?_
      simp only [Value.ownBlock, Option.some.injEq] at e
      subst e
      rw [hg] at hg'
      cases hg'
      exact ne rfl

/-- A row of values. -/
def valCells (vs : Nat → Value) (n : Nat) : List Value := (List.range n).map vs

theorem valCells_length (vs : Nat → Value) (n : Nat) : (valCells vs n).length = n := by simp [valCells]

theorem valCells_get (vs : Nat → Value) (n j : Nat) (h : j < n) : (valCells vs n)[j]? = some (vs j) := by simp [valCells, h]

def putV (vs : Nat → Value) (i : Nat) (x : Value) (j : Nat) : Value := if j = i then x else vs j

theorem valCells_snoc (vs : Nat → Value) (j : Nat) (x : Value) : valCells vs j ++ [x] = valCells (putV vs j x) (j + 1) := by
  unfold valCells
  rw [List.range_succ, List.map_append]
  congr 1
  · refine List.map_congr_left fun t ht => ?_
    have := List.mem_range.1 ht
    unfold putV
    rw [if_neg (by omega)]
  · simp [putV]

/-- A row that a call has made is the place of a cell. -/
def RowIs (B : Nat) (f : Nat → Int) (n : Nat) (w : World) (v : Value) (c : Int) : Prop := ∃ g, w.ownsRow B 3 1 v n (intCells g n) ∧ PlaceIs f g n c

/-- The places of all cells, or none: Count tells an error. -/
def PlacesPost (f : Nat → Int) (n : Nat) (w : World) (e : Ending) (w' : World) : Prop :=
  ∃ (ao : Option Addr) (N nc : Nat) (vs : Nat → Value), e = .returned (.slice ao N nc) ∧ N ≤ nc ∧ nc ≤ 9223372036854775807 ∧ ((N = 0 ∧ ∀ M, ¬ Shape f n M) ∨ Shape f n N) ∧
    (N = 0 ∨ ∃ g, ao = some ⟨g, 0, none⟩ ∧ ∀ j, j < N → w'.cell? ⟨g, j, none⟩ = some (vs j)) ∧ (∀ j, j < N → RowIs w.heap.size f n w' (vs j) j) ∧ Below w.heap.size w w'

theorem own_vals {w : World} {B n : Nat} {t : TypeId} {v : Value} {vs : Nat → Value} (h : w.ownsRow B t 1 v n (valCells vs n)) : ∃ ao cap, v = .slice ao n cap ∧ n ≤ cap ∧ cap ≤ 9223372036854775807 ∧ (n = 0 ∨ ∃ g, ao = some ⟨g, 0, none⟩ ∧ ∀ j, j < n → w.cell? ⟨g, j, none⟩ = some (vs j)) := by
  rcases h.2 with ⟨rfl, rfl⟩ | ⟨g, cap, cur, hv, hb, hg, hnc, hcm, hcs, ht⟩
  · exact ⟨none, 0, rfl, Nat.le_refl _, by omega, .inl rfl⟩
  · subst hv
    exact ⟨_, cap, rfl, hnc, by unfold maxLen at hcm; omega, .inr ⟨g, rfl, fun j hj => by rw [h.cellAt j (by omega), valCells_get vs n j hj]⟩⟩

theorem RowIs.kept {B n : Nat} {f : Nat → Int} {w w' : World} {v : Value} {c : Int} (h : RowIs B f n w v c) {C m : Nat} {x : Value} {ys : List Value} (hx : w.ownsRow C 23 1 x m ys) (hg : w.grownBy w' x.ownBlock) : RowIs B f n w' v c := by
  obtain ⟨g, h1, h2⟩ := h
  exact ⟨g, h1.kept hg (own_apart h1 hx (by decide)), h2⟩

theorem RowIs.later {B n : Nat} {f : Nat → Int} {w w' : World} {v : Value} {c : Int} (h : RowIs B f n w v c) (hb : Below w.heap.size w w') : RowIs B f n w' v c := by
  obtain ⟨g, h1, h2⟩ := h
  exact ⟨g, owns_later h1 hb, h2⟩

end Go.Proofs.Ytlfilpjiepdejaa

namespace Go.Proofs.Ytlfilpjiepdejaa
open Go.RowKit

/-- k is the cell of a place, or -1: there is none. -/
def IndexIs (f : Nat → Int) (n : Nat) (g : Nat → Int) (m : Nat) (k : Int) : Prop :=
  ((∃ N, Shape f n N) ∧ m = n ∧ PlaceIs f g n k) ∨ (k = -1 ∧ ¬ ((∃ N, Shape f n N) ∧ m = n ∧ ∃ c, PlaceIs f g n c))

theorem PlaceIs.range {f g : Nat → Int} {n : Nat} {c N : Int} (h : PlaceIs f g n c) (s : Shape f n N) : 0 ≤ c ∧ c < N := by
  obtain ⟨a, b⟩ := cellZ_bound n h.1
  rw [h.2] at a b
  rw [s.all]
  exact ⟨a, b⟩

theorem IndexIs.uniq {f : Nat → Int} {n : Nat} {g : Nat → Int} {m : Nat} {k l : Int} (a : IndexIs f n g m k) (b : IndexIs f n g m l) : k = l := by
  rcases a with ⟨a1, a2, a3⟩ | ⟨a1, a2⟩ <;> rcases b with ⟨b1, b2, b3⟩ | ⟨b1, b2⟩
  · exact a3.2.symm.trans b3.2
  · exact absurd ⟨a1, a2, _, a3⟩ b2
  · exact absurd ⟨b1, b2, _, b3⟩ a2
  · rw [a1, b1]

theorem PlaceIs.congr {f g h : Nat → Int} {n : Nat} {c : Int} (a : PlaceIs f g n c) (e : ∀ j, j < n → g j = h j) : PlaceIs f h n c :=
  ⟨fun j hj => by rw [← e j hj]; exact a.1 j hj, by rw [← cellZ_congr n e]; exact a.2⟩

end Go.Proofs.Ytlfilpjiepdejaa

namespace Go.Proofs.Ytlfilpjiepdejaa
open Go.RowKit

/-- A product, if it may be. -/
def capZ (p : Int) : Int := if p ≤ 2048 then p else 0

/-- Ahead, along, behind; or there is no such axis. -/
def AroundIs (f : Nat → Int) (n : Nat) (axis b k a : Int) (ok : Bool) : Prop :=
  (∃ x : Nat, axis = x ∧ x < n ∧ (∃ N, Shape f n N) ∧ k = f x ∧ b = capZ (prodZ f x) ∧ a = capZ (prodZ (fun j => f (x + 1 + j)) (n - (x + 1))) ∧ ok = true) ∨
  (¬ ((∃ N, Shape f n N) ∧ 0 ≤ axis ∧ axis < n) ∧ b = 0 ∧ k = 0 ∧ a = 0 ∧ ok = false)

theorem AroundIs.uniq {f : Nat → Int} {n : Nat} {axis b k a c l d : Int} {p q : Bool} (h : AroundIs f n axis b k a p) (i : AroundIs f n axis c l d q) : b = c ∧ k = l ∧ a = d ∧ p = q := by
  rcases h with ⟨x, h1, h2, h3, h4, h5, h6, h7⟩ | ⟨h1, h2, h3, h4, h5⟩ <;> rcases i with ⟨y, i1, i2, i3, i4, i5, i6, i7⟩ | ⟨i1, i2, i3, i4, i5⟩
  · obtain rfl : x = y := by omega
    exact ⟨h5.trans i5.symm, h4.trans i4.symm, h6.trans i6.symm, h7.trans i7.symm⟩
  · exact absurd ⟨h3, by omega, by omega⟩ i1
  · exact absurd ⟨i3, by omega, by omega⟩ h1
  · exact ⟨h2.trans i2.symm, h3.trans i3.symm, h4.trans i4.symm, h5.trans i5.symm⟩

/-- Of a part of a shape only the product can be too great. -/
theorem CountIs.cap {g : Nat → Int} {m : Nat} {M e : Int} (hm : m ≤ 6) (hg : ∀ j, j < m → 0 ≤ g j ∧ g j ≤ 2048) (c : CountIs g m M e) : M = capZ (prodZ g m) := by
  unfold capZ
  rcases c with ⟨a1, a2, a3⟩ | ⟨a1, ⟨⟨j, hj, a2⟩, a3, a4⟩ | ⟨a2, ⟨⟨j, hj, a3⟩, a4, a5⟩ | ⟨a3, ⟨a4, a5, a6⟩ | ⟨a4, a5, a6⟩⟩⟩⟩
  · omega
  · have := hg j hj; omega
  · have := hg j hj; omega
  · rw [if_neg (by omega)]; exact a5
  · rw [if_pos a4]; exact a5

theorem results_tmp4 {fn : Func} {t u v x : Tmp} (h : fn.results = #[.tmp t, .tmp u, .tmp v, .tmp x]) (tmps : Array Value) (P : Program) (w : World) :
    (results fn tmps).run P w = .ok (.tuple #[tmps.getD t undef, tmps.getD u undef, tmps.getD v undef, tmps.getD x undef]) w := by simp [results, h]

end Go.Proofs.Ytlfilpjiepdejaa

namespace Go.Proofs.Ytlfilpjiepdejaa
open Go.RowKit

/-- Another length of an axis; or there is no such axis. -/
def WithIs (f : Nat → Int) (n : Nat) (axis m : Int) (r : Nat) (h : Nat → Int) (ok : Bool) : Prop :=
  (∃ x : Nat, axis = x ∧ x < n ∧ r = n ∧ (∀ j, j < n → h j = putZ f x m j) ∧ ok = true) ∨ (¬ (0 ≤ axis ∧ axis < n) ∧ r = 0 ∧ ok = false)

/-- The lengths but for an axis'. -/
def dropZ (f : Nat → Int) (x : Nat) (j : Nat) : Int := if j < x then f j else f (j + 1)

/-- One axis less; or there is no such axis. -/
def LessIs (f : Nat → Int) (n : Nat) (axis : Int) (r : Nat) (h : Nat → Int) (ok : Bool) : Prop :=
  (∃ x : Nat, axis = x ∧ x < n ∧ r + 1 = n ∧ (∀ j, j < r → h j = dropZ f x j) ∧ ok = true) ∨ (¬ (0 ≤ axis ∧ axis < n) ∧ r = 0 ∧ ok = false)

theorem WithIs.uniq {f : Nat → Int} {n : Nat} {axis m : Int} {r s : Nat} {h k : Nat → Int} {p q : Bool} (a : WithIs f n axis m r h p) (b : WithIs f n axis m s k q) : SameZ r s h k ∧ p = q := by
  rcases a with ⟨x, a1, a2, a3, a4, a5⟩ | ⟨a1, a2, a3⟩ <;> rcases b with ⟨y, b1, b2, b3, b4, b5⟩ | ⟨b1, b2, b3⟩
  · obtain rfl : x = y := by omega
    exact ⟨⟨a3.trans b3.symm, fun j hj => (a4 j (by omega)).trans (b4 j (by omega)).symm⟩, a5.trans b5.symm⟩
  · exact absurd ⟨by omega, by omega⟩ b1
  · exact absurd ⟨by omega, by omega⟩ a1
  · exact ⟨⟨a2.trans b2.symm, fun j hj => by omega⟩, a3.trans b3.symm⟩

theorem LessIs.uniq {f : Nat → Int} {n : Nat} {axis : Int} {r s : Nat} {h k : Nat → Int} {p q : Bool} (a : LessIs f n axis r h p) (b : LessIs f n axis s k q) : SameZ r s h k ∧ p = q := by
  rcases a with ⟨x, a1, a2, a3, a4, a5⟩ | ⟨a1, a2, a3⟩ <;> rcases b with ⟨y, b1, b2, b3, b4, b5⟩ | ⟨b1, b2, b3⟩
  · obtain rfl : x = y := by omega
    exact ⟨⟨by omega, fun j hj => (a4 j (by omega)).trans (b4 j (by omega)).symm⟩, a5.trans b5.symm⟩
  · exact absurd ⟨by omega, by omega⟩ b1
  · exact absurd ⟨by omega, by omega⟩ a1
  · exact ⟨⟨a2.trans b2.symm, fun j hj => by omega⟩, a3.trans b3.symm⟩

/-- A row of ints that a call has made, and a bool. -/
def MadeB (R : Nat → (Nat → Int) → Bool → Prop) (w : World) (e : Ending) (w' : World) : Prop :=
  ∃ v r h ok, e = .returned (.tuple #[v, .bool ok]) ∧ w'.ownsRow w.heap.size 3 1 v r (intCells h r) ∧ Below w.heap.size w w' ∧ R r h ok

/-- The lengths behind an axis, as they lie. -/
theorem slz_tail {w : World} {b off n x : Nat} {f : Nat → Int} (h : ∀ j, j < n → w.cell? ⟨b, off + j, none⟩ = some (.int .i64 (f j))) : SlZ w (some ⟨b, off + (x + 1), none⟩) (n - (x + 1)) (fun j => f (x + 1 + j)) :=
  .inr ⟨b, _, rfl, fun j hj => by rw [show off + (x + 1) + j = off + (x + 1 + j) by omega]; exact h _ (by omega)⟩

end Go.Proofs.Ytlfilpjiepdejaa

namespace Go.Proofs.Ytlfilpjiepdejaa
open Go.RowKit

/-- Which cell stands at a place, and whether one does. -/
def IndexB (f : Nat → Int) (n : Nat) (g : Nat → Int) (m : Nat) (k : Int) (ok : Bool) : Prop :=
  ((∃ N, Shape f n N) ∧ m = n ∧ PlaceIs f g n k ∧ ok = true) ∨ (k = 0 ∧ ok = false ∧ ¬ ((∃ N, Shape f n N) ∧ m = n ∧ ∃ c, PlaceIs f g n c))

/-- The place of a cell, and whether there is one. -/
def AtIs (f : Nat → Int) (n : Nat) (c : Int) (r : Nat) (h : Nat → Int) (ok : Bool) : Prop :=
  ((∃ N, Shape f n N ∧ 0 ≤ c ∧ c < N) ∧ r = n ∧ PlaceIs f h n c ∧ ok = true) ∨ (r = 0 ∧ ok = false ∧ ¬ ∃ N, Shape f n N ∧ 0 ≤ c ∧ c < N)

/-- Some row of ints, and a bool. -/
def SomeB (R : Nat → (Nat → Int) → Bool → Prop) (w : World) (e : Ending) (w' : World) : Prop :=
  ∃ ao r rc h ok, e = .returned (.tuple #[.slice ao r rc, .bool ok]) ∧ r ≤ rc ∧ rc ≤ 9223372036854775807 ∧ SlZ w' ao r h ∧ Below w.heap.size w w' ∧ R r h ok

theorem MadeB.some {R : Nat → (Nat → Int) → Bool → Prop} {w w' : World} {e : Ending} (h : MadeB R w e w') : SomeB R w e w' := by
  obtain ⟨v, r, k, ok, rfl, ho, hb, hR⟩ := h
  obtain ⟨ao, cap, rfl, h1, h2, h3⟩ := owns_ints ho
  exact ⟨ao, r, cap, k, ok, rfl, h1, h2, h3, hb, hR⟩

def two7 (x y : Int) (j : Nat) : Int := if j = 0 then x else y

theorem slz_two (w : World) (t : TypeId) (x y : Int) : SlZ (w.alloc (.cells #[.int .i64 x, .int .i64 y] t)) (some ⟨w.heap.size, 0, none⟩) 2 (two7 x y) := by
  refine .inr ⟨w.heap.size, 0, rfl, fun j hj => ?_⟩
  rw [Nat.zero_add, World.cell?_alloc_new]
  have : j = 0 ∨ j = 1 := by omega
  rcases this with rfl | rfl <;> rfl

theorem shape_23 : Shape (two7 2 3) 2 6 :=
  ⟨by decide, fun j _ => by unfold two7; split <;> decide, fun j _ => by unfold two7; split <;> decide, by decide, by decide⟩

theorem place_10 : PlaceIs (two7 2 3) (two7 1 0) 2 3 := by
  refine ⟨fun j hj => ?_, by decide⟩
  have : j = 0 ∨ j = 1 := by omega
  rcases this with rfl | rfl <;> decide

end Go.Proofs.Ytlfilpjiepdejaa
