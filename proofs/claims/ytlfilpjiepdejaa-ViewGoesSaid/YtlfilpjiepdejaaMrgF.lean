/-
  scrimref08.left, Few: which arrays the statements ask of.
  scrimref08.Size, Depth, Total: through all cells and the arrays in them.
  scrimref08.SameCell, Same: two cells, two arrays, as they stand.
  scrimref08.Same: two arrays, as they stand.
  scrimref08.Raise: an array with its own label raised.
  Arrays in memory, and in which blocks they lie.
  What Cover makes, and what holds while it makes it.
  scrimref08.Cover: an array with all labels raised, or with one label in their place.
  scrimref08.Erase, Match.
  The three lists of characters, and a number's class, as the document's answer has them (scrimref06).
  scrimref06.May, Class.
-/
import Derived.Test.YtlfilpjiepdejaaMrgE
import Derived.Deep.RegionHeld3
import Derived.Deep.CutRange
import Derived.Laws.OwnMore
import Derived.Deep.AppendLies
namespace Go.Proofs.Ytlfilpjiepdejaa
open Go.RowKit

def sumN (f : Nat → Nat) : Nat → Nat
  | 0 => 0
  | n + 1 => sumN f n + f n

/-- How many parts an array has. -/
def partsT : Tree → Nat
  | .leaf => 1
  | .arr _ n _ m _ _ _ N k sub => 1 + n + sumN (fun i => 1 + (N i).an + (N i).am + sumN (fun j => partsT (sub i j)) (k i)) m

/-- No more than d arrays are within one another. -/
def NestT : Tree → Nat → Prop
  | .leaf, _ => False
  | .arr _ _ _ _ _ _ _ _ _ _, 0 => False
  | .arr _ _ _ m _ _ _ _ k sub, d + 1 => ∀ i, i < m → ∀ j, j < k i → NestT (sub i j) d

/-- What is left of n parts behind an array. -/
def LeftIs (A : Tree) (d : Nat) (n r : Int) : Prop := r ≤ n ∧ IsZ r ∧ (0 ≤ r → (partsT A : Int) = n - r ∧ NestT A d)

set_option maxRecDepth 20000 in
set_option maxHeartbeats 4000000 in
theorem left8_any : ∀ (A : Tree) (d : Nat) (n : Int) (c0 c1 c2 : Value) (w : World), ArrP w A c0 c1 c2 → d ≤ 12 → 0 ≤ n → n ≤ 4000 →
    Calls Try.prog 22 #[.agg #[c0, c1, c2], .int .i64 d, .int .i64 n] w fun e w' => (∃ r : Int, e = .returned (.int .i64 r) ∧ LeftIs A d n r) ∧ Below w.heap.size w w' := by
  intro A
  induction A with
  | leaf => intros; exact (ArrP.leaf ‹ArrP _ Tree.leaf _ _ _›).elim
  | arr S p sh m L K C N k sub ih =>
    intro d n c0 c1 c2 w h hd hn0 hn1
    obtain ⟨rfl, _, ⟨ao, nc, rfl, hp, _⟩, co, mc, rfl, hm, hc⟩ := h
    have hp1 := hp.1; have hp2 := hp.2.1; have hp3 := hp.2.2; have hm1 := hm.1; have hm2 := hm.2.1; have hm3 := hm.2.2
    have hbox := Box3.new (.int .u64 S) (.slice ao p nc) (.slice co m mc) 26 (show w.heap.size = w.heap.size from rfl)
    have hbel := (Below.refl w.heap.size w).alloc (Nat.le_refl _) (.cells #[.int .u64 S, .slice ao p nc, .slice co m mc] 26)
    go_enter Try.func22, Try.ntmps22
    by_cases hd00 : d = 0
    · subst hd00
      go_wp2_with fail
      go_ret
      exact ⟨⟨-1, rfl, by omega, ⟨by omega, by omega⟩, fun h => by omega⟩, hbel⟩
    · obtain ⟨d', hd'⟩ : ∃ d', d = d' + 1 := ⟨d - 1, by omega⟩
      have hD := Lib.hid hd'
      have hDd := Lib.hid (show (d : Int) - 1 = (d' : Int) by omega)
      have hdl : d' ≤ 12 := by omega
      have hd0 : ((d : Int) == 0) = false := by rw [beq_eq_false_iff_ne]; omega
      clear hd' hd00
      have hc' := Lib.hid hc
      clear hc
      go_wp2_with fail
      go_loopw [2, 7] (fun q i wr => ∃ (t : Nat) (r : Int), t ≤ m ∧ i = .int .i64 t ∧ q = .int .i64 r ∧ r ≤ n ∧ IsZ r ∧ Hid (0 ≤ r → ((1 + p + sumN (fun i => 1 + (N i).an + (N i).am + sumN (fun j => partsT (sub i j)) (k i)) t : Nat) : Int) = n - r ∧ ∀ x, x < t → ∀ j, j < k x → NestT (sub x j) d') ∧ Hid (Box3 wr w.heap.size (.int .u64 S) (.slice ao p nc) (.slice co m mc)) ∧ Hid (Below w.heap.size w wr)) (fun _ i _ => m - (intOfZ i).toNat)
      case atStart =>
        refine ⟨0, n - 1 - p, Nat.zero_le _, rfl, by rfl, by omega, ⟨by omega, by omega⟩, Lib.hid fun h => ⟨by show ((1 + p + 0 : Nat) : Int) = _; omega, fun x hx => by omega⟩, Lib.hid hbox, Lib.hid hbel⟩
      case round =>
        obtain ⟨t, r, ht, rfl, rfl, hrn, hrz, hsum, hbx, hbr⟩ := hrel
        clear hbox hbel
        by_cases hr0 : 0 ≤ r
        · by_cases hlt : t < m
          · rcases hc'.out with h0 | ⟨b, o, rfl, hcells⟩
            · omega
            obtain ⟨e, he, q0, q1, q2, q3, ⟨q4, ⟨a1, ac, q5, q6, _⟩, ⟨b1, bc, q7, q8, _⟩⟩, q9, q10, io, kc, q11, q12, q13⟩ := hcells t hlt
            have an1 := q6.1; have an2 := q6.2.1; have an3 := q6.2.2; have am1 := q8.1; have am2 := q8.2.1; have am3 := q8.2.2; have kk1 := q12.1; have kk2 := q12.2.1
            have x3 := he 3 (by decide); have x4 := he 4 (by decide); have x6 := he 6 (by decide)
            rw [q5] at x3; rw [q7] at x4; rw [q11] at x6
            have y3 := cell_below x3 hbr.out; have y4 := cell_below x4 hbr.out; have y6 := cell_below x6 hbr.out
            have z2 := hbx.out.c2
            have hrow := Lib.hid q13
            have hg := Lib.hid x6
            obtain ⟨kt, hkt⟩ : ∃ kt, kt = k t := ⟨_, rfl⟩
            obtain ⟨an, han⟩ : ∃ an, an = (N t).an := ⟨_, rfl⟩
            obtain ⟨am, ham⟩ : ∃ am, am = (N t).am := ⟨_, rfl⟩
            rw [← hkt] at y6 kk1 hrow hg
            rw [← han] at y3 an1 an3
            rw [← ham] at y4 am1 am3
            have hkt' := Lib.hid hkt; have han' := Lib.hid han; have ham' := Lib.hid ham
            have hz1 := hrz.1; have hz2 := hrz.2
            clear hcells he q0 q1 q2 q3 q4 q5 q6 q7 q8 q9 q10 q11 q12 q13 x3 x4 x6 hkt han ham hrz
            go_wp2_with fail
            go_quiet (fail)
            have hbr2 := Lib.hid (below_drewN hbr.out nq)
            have hbx2 := Lib.hid (hbx.out.later (below_drewN (Below.refl _ _) nq))
            have hS0 := Lib.hid (hsum.out hr0)
            clear hbr hbx hsum y3 y4 y6 z2
            go_wp2_with fail
            go_loopw [2, 8] (fun q j wi => ∃ (u : Nat) (v : Int), u ≤ kt ∧ j = .int .i64 u ∧ q = .int .i64 v ∧ v ≤ n ∧ IsZ v ∧ Hid (0 ≤ v → ((1 + p + sumN (fun i => 1 + (N i).an + (N i).am + sumN (fun j => partsT (sub i j)) (k i)) t + (1 + an + am + sumN (fun j => partsT (sub t j)) u) : Nat) : Int) = n - v ∧ ∀ j, j < u → NestT (sub t j) d') ∧ Hid (Box3 wi w.heap.size (.int .u64 S) (.slice ao p nc) (.slice (some ⟨b, o, none⟩) m mc)) ∧ Hid (Below w.heap.size w wi)) (fun _ j _ => kt - (intOfZ j).toNat)
            case atStart =>
              refine ⟨0, r - 1 - an - am, Nat.zero_le _, rfl, by rfl, by omega, ⟨by omega, by omega⟩, Lib.hid fun h => ⟨?_, fun j hj => by omega⟩, hbx2, hbr2⟩
              have := hS0.out.1
              show ((1 + p + sumN (fun i => 1 + (N i).an + (N i).am + sumN (fun j => partsT (sub i j)) (k i)) t + (1 + an + am + 0) : Nat) : Int) = _
              omega
            case round =>
              obtain ⟨u, v, hu, rfl, rfl, hvn, hvz, hvs, hbx3, hbr3⟩ := hrel
              clear hbx2 hbr2
              have z3 := hbx3.out.c2
              have y7 := cell_below hg.out hbr3.out
              by_cases hv0 : 0 ≤ v
              · by_cases hul : u < kt
                · rcases hrow.out with h0 | ⟨b', o', rfl, hrows⟩
                  · omega
                  obtain ⟨d0, d1, d2, r0, r1, r2, r3⟩ := hrows u hul
                  have s0 := cell_below r0 hbr3.out; have s1 := cell_below r1 hbr3.out; have s2 := cell_below r2 hbr3.out
                  have hA := Lib.hid (ArrP.below _ _ _ _ r3 hbr3.out)
                  clear hrows r0 r1 r2 r3
                  go_wp2_with fail
                  rw [hDd.out]
                  refine (ih t u d' v d0 d1 d2 wr hA.out hdl hv0 (by omega)).mono ?_
                  rintro e2 w2 ⟨⟨v2, rfl, g1, g2, g3⟩, hb2⟩
                  have hbr4 := Lib.hid (hbr3.out.trans (hb2.mono hbr3.out.size))
                  have hbx4 := Lib.hid (hbx3.out.later hb2)
                  have hnew := Lib.hid g3
                  clear hb2 g3 s0 s1 s2 z3 y7
                  go_wp2_with fail
                  go_roundw
                  case rel =>
                    refine ⟨u + 1, v2, by omega, by go_num, rfl, by omega, g2, Lib.hid fun h => ⟨?_, fun j hj => ?_⟩, hbx4, hbr4⟩
                    · have k1 := (hvs.out hv0).1; have k2 := (hnew.out h).1
                      show ((1 + p + sumN (fun i => 1 + (N i).an + (N i).am + sumN (fun j => partsT (sub i j)) (k i)) t + (1 + an + am + (sumN (fun j => partsT (sub t j)) u + partsT (sub t u))) : Nat) : Int) = _
                      omega
                    · by_cases e3 : j = u
                      · rw [e3]; exact (hnew.out h).2
                      · exact (hvs.out hv0).2 j (by omega)
                  case measure => simp [intOfZ]; omega
                · obtain rfl : u = kt := by omega
                  go_wp2_with fail
                  go_roundw
                  case rel =>
                    refine ⟨t + 1, v, by omega, by go_num, rfl, hvn, hvz, Lib.hid fun h => ⟨?_, fun x hx j hj => ?_⟩, hbx3, hbr3⟩
                    · have k1 := (hvs.out hv0).1
                      show ((1 + p + (sumN (fun i => 1 + (N i).an + (N i).am + sumN (fun j => partsT (sub i j)) (k i)) t + (1 + (N t).an + (N t).am + sumN (fun j => partsT (sub t j)) (k t))) : Nat) : Int) = _
                      rw [← han'.out, ← ham'.out, ← hkt'.out]
                      omega
                    · by_cases e3 : x = t
                      · subst e3; exact (hvs.out hv0).2 j (by rw [hkt'.out]; exact hj)
                      · exact hS0.out.2 x (by omega) j hj
                  case measure => simp [intOfZ]; omega
              · have hv1 := Lib.hid hv0
                by_cases hul : u < kt
                all_goals
                  go_wp2_with fail
                  go_roundw
                  case rel => exact ⟨t + 1, v, by omega, by go_num, rfl, hvn, hvz, Lib.hid fun h => absurd h hv1.out, hbx3, hbr3⟩
                  case measure => simp [intOfZ]; omega
          · obtain rfl : t = m := by omega
            have z2 := hbx.out.c2
            go_wp2_with fail
            go_ret
            exact ⟨⟨r, rfl, hrn, hrz, fun h => ⟨(hsum.out h).1, by rw [hD.out]; exact (hsum.out h).2⟩⟩, hbr.out⟩
        · have z2 := hbx.out.c2
          by_cases hlt : t < m
          all_goals
            go_wp2_with fail
            go_ret
            exact ⟨⟨r, rfl, hrn, hrz, fun h => by omega⟩, hbr.out⟩

/-- What Few says of an array. -/
def FewT (A : Tree) : Prop := partsT A ≤ 4000 ∧ NestT A 12

set_option maxRecDepth 20000 in
set_option maxHeartbeats 1000000 in
theorem few8_any (A : Tree) (c0 c1 c2 : Value) (w : World) (h : ArrP w A c0 c1 c2) :
    Calls Try.prog 8 #[.agg #[c0, c1, c2]] w fun e w' => (∃ r, e = .returned (.bool r) ∧ (r = true → FewT A)) ∧ Below w.heap.size w w' := by
  have hbox := Box3.new c0 c1 c2 26 (show w.heap.size = w.heap.size from rfl)
  have hbel := Lib.hid ((Below.refl w.heap.size w).alloc (Nat.le_refl _) (.cells #[c0, c1, c2] 26))
  have hA := Lib.hid (ArrP.below _ _ _ _ h ((Below.refl w.heap.size w).alloc (Nat.le_refl _) (.cells #[c0, c1, c2] 26)))
  have z0 := hbox.c0; have z1 := hbox.c1; have z2 := hbox.c2
  clear h hbox
  go_enter Try.func8, Try.ntmps8
  go_wp2_with fail
  refine (left8_any A 12 4000 c0 c1 c2 _ hA.out (by decide) (by decide) (by decide)).mono ?_
  rintro e w1 ⟨⟨r, rfl, h1, h2, h3⟩, hb⟩
  have b1 := Lib.hid (hbel.out.trans (hb.mono hbel.out.size))
  have h3' := Lib.hid h3
  clear hb h3 z0 z1 z2
  go_wp2_with fail
  go_ret
  refine ⟨⟨_, rfl, fun h => ?_⟩, b1.out⟩
  have h0 : 0 ≤ r := by simpa using h
  have := (h3'.out h0).1
  exact ⟨by omega, (h3'.out h0).2⟩

end Go.Proofs.Ytlfilpjiepdejaa

namespace Go.Proofs.Ytlfilpjiepdejaa
open Go.RowKit

theorem sumN_mono (f : Nat → Nat) {m : Nat} : ∀ n, m ≤ n → sumN f m ≤ sumN f n
  | 0, h => by obtain rfl : m = 0 := by omega
               exact Nat.le_refl _
  | n + 1, h => by
    by_cases e : m = n + 1
    · subst e; exact Nat.le_refl _
    · have := sumN_mono f n (show m ≤ n by omega)
      show sumN f m ≤ sumN f n + f n
      omega

theorem sumN_le {f g : Nat → Nat} : ∀ n, (∀ i, i < n → f i ≤ g i) → sumN f n ≤ sumN g n
  | 0, _ => Nat.le_refl _
  | n + 1, h => by
    have a := sumN_le n fun i hi => h i (by omega)
    have b := h n (by omega)
    show sumN f n + f n ≤ sumN g n + g n
    omega

theorem sumN_one (f : Nat → Nat) {i n : Nat} (h : i < n) : f i ≤ sumN f n := by
  have := sumN_mono f n (show i + 1 ≤ n by omega)
  have e : sumN f (i + 1) = sumN f i + f i := rfl
  omega

theorem sumN_const (c : Nat) : ∀ n, sumN (fun _ => c) n = c * n
  | 0 => rfl
  | n + 1 => by show sumN (fun _ => c) n + c = _; rw [sumN_const c n, Nat.mul_succ]

theorem sumN_plus {f g : Nat → Nat} : ∀ n, sumN (fun i => f i + g i) n = sumN f n + sumN g n
  | 0 => rfl
  | n + 1 => by show sumN (fun i => f i + g i) n + (f n + g n) = sumN f n + f n + (sumN g n + g n); rw [sumN_plus n]; omega

/-- An array in a cell has fewer parts. -/
theorem parts_sub {S n m : Nat} {sh : Nat → Int} {L : Nat → Nat} {K C : Nat → Int} {N : Nat → NumF} {k : Nat → Nat} {sub : Nat → Nat → Tree} {i j : Nat} (hi : i < m) (hj : j < k i) : partsT (sub i j) + 1 ≤ partsT (.arr S n sh m L K C N k sub) := by
  have a := sumN_one (fun j => partsT (sub i j)) hj
  have b := sumN_one (fun i => 1 + (N i).an + (N i).am + sumN (fun j => partsT (sub i j)) (k i)) hi
  show partsT (sub i j) + 1 ≤ 1 + n + sumN (fun i => 1 + (N i).an + (N i).am + sumN (fun j => partsT (sub i j)) (k i)) m
  have a' : partsT (sub i j) ≤ sumN (fun j => partsT (sub i j)) (k i) := a
  have b' : 1 + (N i).an + (N i).am + sumN (fun j => partsT (sub i j)) (k i) ≤ sumN (fun i => 1 + (N i).an + (N i).am + sumN (fun j => partsT (sub i j)) (k i)) m := b
  omega

/-- .. and an array has no more lengths, cells, or arrays in a cell. -/
theorem parts_here {S n m : Nat} {sh : Nat → Int} {L : Nat → Nat} {K C : Nat → Int} {N : Nat → NumF} {k : Nat → Nat} {sub : Nat → Nat → Tree} : n + m + 1 ≤ partsT (.arr S n sh m L K C N k sub) := by
  have a := sumN_le (f := fun _ => 1) (g := fun i => 1 + (N i).an + (N i).am + sumN (fun j => partsT (sub i j)) (k i)) m fun i _ => by show 1 ≤ 1 + (N i).an + (N i).am + sumN (fun j => partsT (sub i j)) (k i); omega
  rw [sumN_const] at a
  show n + m + 1 ≤ 1 + n + sumN (fun i => 1 + (N i).an + (N i).am + sumN (fun j => partsT (sub i j)) (k i)) m
  omega

/-- How many cells, with those of all arrays in it. -/
def sizeT : Tree → Nat
  | .leaf => 0
  | .arr _ _ _ m _ _ _ _ k sub => m + sumN (fun i => sumN (fun j => sizeT (sub i j)) (k i)) m

theorem size_le : ∀ A, sizeT A ≤ partsT A := by
  intro A
  induction A with
  | leaf => exact Nat.zero_le _
  | arr S n sh m L K C N k sub ih =>
    have a := sumN_le (f := fun i => 1 + sumN (fun j => sizeT (sub i j)) (k i)) (g := fun i => 1 + (N i).an + (N i).am + sumN (fun j => partsT (sub i j)) (k i)) m fun i _ => by
      have := sumN_le (k i) fun j _ => ih i j
      show 1 + sumN (fun j => sizeT (sub i j)) (k i) ≤ 1 + (N i).an + (N i).am + sumN (fun j => partsT (sub i j)) (k i)
      omega
    rw [sumN_plus, sumN_const] at a
    show m + sumN (fun i => sumN (fun j => sizeT (sub i j)) (k i)) m ≤ 1 + n + sumN (fun i => 1 + (N i).an + (N i).am + sumN (fun j => partsT (sub i j)) (k i)) m
    omega

def foldN (g : Nat → Nat → Nat) (s : Nat) : Nat → Nat
  | 0 => s
  | t + 1 => g t (foldN g s t)

/-- How deep: 0 of what is simple. -/
def depthT : Tree → Nat
  | .leaf => 0
  | .arr S n sh m L K C N k sub => if simpleT (.arr S n sh m L K C N k sub) = true then 0 else foldN (fun i s => foldN (fun j s => max s (depthT (sub i j) + 1)) s (k i)) 1 m

/-- The join of all labels. -/
def totalT : Tree → Nat
  | .leaf => 0
  | .arr S _ _ m L _ _ _ k sub => foldN (fun i s => foldN (fun j s => orL s (totalT (sub i j))) (orL s (L i)) (k i)) S m

theorem foldN_le {g : Nat → Nat → Nat} {s b : Nat} (hs : s ≤ b) : ∀ n, (∀ i x, i < n → x ≤ b → g i x ≤ b) → foldN g s n ≤ b
  | 0, _ => hs
  | n + 1, h => h n _ (by omega) (foldN_le hs n fun i x hi => h i x (by omega))

theorem foldN_is {g : Nat → Nat → Nat} {s : Nat} (hs : IsL s) : ∀ n, (∀ i x, i < n → IsL x → IsL (g i x)) → IsL (foldN g s n)
  | 0, _ => hs
  | n + 1, h => h n _ (by omega) (foldN_is hs n fun i x hi => h i x (by omega))

theorem depth_le : ∀ A, depthT A ≤ partsT A := by
  intro A
  induction A with
  | leaf => exact Nat.zero_le _
  | arr S n sh m L K C N k sub ih =>
    unfold depthT
    split
    · exact Nat.zero_le _
    · refine foldN_le (by have := parts_here (S := S) (n := n) (m := m) (sh := sh) (L := L) (K := K) (C := C) (N := N) (k := k) (sub := sub); omega) m fun i x hi hx => foldN_le hx (k i) fun j y hj hy => ?_
      have a := ih i j
      have b := parts_sub (S := S) (n := n) (sh := sh) (L := L) (K := K) (C := C) (N := N) (sub := sub) hi hj
      exact Nat.max_le.2 ⟨hy, by omega⟩

/-- The labels of an array that lies in memory are labels. -/
theorem arr_labels {w : World} {S n m : Nat} {sh : Nat → Int} {L : Nat → Nat} {K C : Nat → Int} {N : Nat → NumF} {k : Nat → Nat} {sub : Nat → Nat → Tree} {c0 c1 c2 : Value} (h : ArrP w (.arr S n sh m L K C N k sub) c0 c1 c2) :
    IsL S ∧ (∀ i, i < m → IsL (L i)) ∧ ∀ i, i < m → ∀ j, j < k i → ∃ d0 d1 d2, ArrP w (sub i j) d0 d1 d2 := by
  obtain ⟨_, hS, _, co, mc, _, _, hc⟩ := h
  refine ⟨hS, fun i hi => ?_, fun i hi j hj => ?_⟩
  · rcases hc with h0 | ⟨b, o, _, hc⟩
    · omega
    · obtain ⟨e, _, _, q1, _⟩ := hc i hi
      exact q1
  · rcases hc with h0 | ⟨b, o, _, hc⟩
    · omega
    · obtain ⟨e, _, _, _, _, _, _, _, _, io, kc, _, _, q13⟩ := hc i hi
      rcases q13 with h0 | ⟨b', o', _, hr⟩
      · omega
      · obtain ⟨d0, d1, d2, _, _, _, r⟩ := hr j hj
        exact ⟨d0, d1, d2, r⟩

theorem total_is {w : World} : ∀ (A : Tree) (c0 c1 c2 : Value), ArrP w A c0 c1 c2 → IsL (totalT A) := by
  intro A
  induction A with
  | leaf => intros; exact (ArrP.leaf ‹ArrP _ Tree.leaf _ _ _›).elim
  | arr S n sh m L K C N k sub ih =>
    intro c0 c1 c2 h
    obtain ⟨h1, h2, h3⟩ := arr_labels h
    refine foldN_is h1 m fun i x hi hx => foldN_is (orL_is hx (h2 i hi)) (k i) fun j y hj hy => ?_
    obtain ⟨d0, d1, d2, r⟩ := h3 i hi j hj
    exact orL_is hy (ih i j d0 d1 d2 r)

end Go.Proofs.Ytlfilpjiepdejaa

namespace Go.Proofs.Ytlfilpjiepdejaa
open Go.RowKit

/-- Seven cells of a new block. -/
structure Box7 (w : World) (B : Nat) (v0 v1 v2 v3 v4 v5 v6 : Value) : Prop where
  c0 : w.cell? ⟨B, 0, none⟩ = some v0
  c1 : w.cell? ⟨B, 1, none⟩ = some v1
  c2 : w.cell? ⟨B, 2, none⟩ = some v2
  c3 : w.cell? ⟨B, 3, none⟩ = some v3
  c4 : w.cell? ⟨B, 4, none⟩ = some v4
  c5 : w.cell? ⟨B, 5, none⟩ = some v5
  c6 : w.cell? ⟨B, 6, none⟩ = some v6
  fr : ∀ j, w.frozen? ⟨B, j, none⟩ = false

theorem Box7.lt {w : World} {B : Nat} {v0 v1 v2 v3 v4 v5 v6 : Value} (h : Box7 w B v0 v1 v2 v3 v4 v5 v6) : B < w.heap.size := World.block_lt_of_cell? w _ h.c0

theorem Box7.new {w : World} {B : Nat} (v0 v1 v2 v3 v4 v5 v6 : Value) (t : TypeId) (h : B = w.heap.size) : Box7 (w.alloc (.cells #[v0, v1, v2, v3, v4, v5, v6] t)) B v0 v1 v2 v3 v4 v5 v6 := by
  subst h
  exact ⟨by simp, by simp, by simp, by simp, by simp, by simp, by simp, fun j => by
    have hh := heap_alloc_new w (.cells #[v0, v1, v2, v3, v4, v5, v6] t)
    exact frozen_of_row _ _ j _ _ hh⟩

theorem Box7.below {w w' : World} {B C : Nat} {v0 v1 v2 v3 v4 v5 v6 : Value} (h : Box7 w B v0 v1 v2 v3 v4 v5 v6) (hb : Below C w w') (hC : B < C) : Box7 w' B v0 v1 v2 v3 v4 v5 v6 :=
  ⟨(hb.cell hC).trans h.c0, (hb.cell hC).trans h.c1, (hb.cell hC).trans h.c2, (hb.cell hC).trans h.c3, (hb.cell hC).trans h.c4, (hb.cell hC).trans h.c5, (hb.cell hC).trans h.c6, fun j => (hb.frozen hC).trans (h.fr j)⟩

theorem Box7.later {w w' : World} {B : Nat} {v0 v1 v2 v3 v4 v5 v6 : Value} (h : Box7 w B v0 v1 v2 v3 v4 v5 v6) (hb : Below w.heap.size w w') : Box7 w' B v0 v1 v2 v3 v4 v5 v6 := h.below hb h.lt

theorem Box7.alloc {w : World} {B : Nat} {v0 v1 v2 v3 v4 v5 v6 : Value} (h : Box7 w B v0 v1 v2 v3 v4 v5 v6) (o : Obj) : Box7 (w.alloc o) B v0 v1 v2 v3 v4 v5 v6 := h.later ((Below.refl _ w).alloc (Nat.le_refl _) o)

theorem Box7.drew {w : World} {B : Nat} {v0 v1 v2 v3 v4 v5 v6 : Value} (h : Box7 w B v0 v1 v2 v3 v4 v5 v6) : Box7 w.drew B v0 v1 v2 v3 v4 v5 v6 := ⟨h.c0, h.c1, h.c2, h.c3, h.c4, h.c5, h.c6, h.fr⟩

/-- It answers whether P. -/
def BoolPost (P : Prop) (w : World) (e : Ending) (w' : World) : Prop := ∃ r, e = .returned (.bool r) ∧ (r = true ↔ P) ∧ Below w.heap.size w w'

/-- Two numbers' fields are the same. -/
def SameF (N M : NumF) : Prop := N.neg = M.neg ∧ (N.an = M.an ∧ ∀ j, j < N.an → N.fa j = M.fa j) ∧ (N.am = M.am ∧ ∀ j, j < N.am → N.ga j = M.ga j)

/-- Two cells are the same: P tells it of the arrays in them. -/
def SameC (L : Nat) (K : Int) (N : NumF) (C : Int) (k : Nat) (L' : Nat) (K' : Int) (N' : NumF) (C' : Int) (k' : Nat) (P : Nat → Prop) : Prop :=
  L = L' ∧ K = K' ∧ C = C' ∧ SameF N N' ∧ k = k' ∧ ∀ j, j < k → P j

/-- Two arrays are the same. -/
def SameT : Tree → Tree → Prop
  | .leaf, _ => False
  | .arr S n sh m L K C N k sub, B => match B with
    | .leaf => False
    | .arr S' n' sh' m' L' K' C' N' k' sub' => S = S' ∧ SameZ n n' sh sh' ∧ m = m' ∧ ∀ i, i < m → SameC (L i) (K i) (N i) (C i) (k i) (L' i) (K' i) (N' i) (C' i) (k' i) (fun j => SameT (sub i j) (sub' i j))

set_option maxRecDepth 20000 in
set_option maxHeartbeats 4000000 in
theorem sameCell8_of (L : Nat) (K : Int) (N : NumF) (C : Int) (k : Nat) (R : Nat → Value → Value → Value → Prop) (e : Nat → Value) (L' : Nat) (K' : Int) (N' : NumF) (C' : Int) (k' : Nat) (R' : Nat → Value → Value → Value → Prop) (f : Nat → Value) (P : Nat → Prop) (w : World)
    (h : CellP w L K N C k R e) (h' : CellP w L' K' N' C' k' R' f)
    (hS : ∀ j d0 d1 d2 e0 e1 e2 w', R j d0 d1 d2 → R' j e0 e1 e2 → Below w.heap.size w w' → Calls Try.prog 11 #[.agg #[d0, d1, d2], .agg #[e0, e1, e2]] w' (BoolPost (P j) w')) :
    Calls Try.prog 13 #[.agg #[e 0, e 1, e 2, e 3, e 4, e 5, e 6], .agg #[f 0, f 1, f 2, f 3, f 4, f 5, f 6]] w (BoolPost (SameC L K N C k L' K' N' C' k' P) w) := by
  obtain ⟨p0, pL, p1, pK, ⟨p2, ⟨ao, ac, p3, ha, hsa, _⟩, ⟨bo, bc, p4, hb, hsb, _⟩⟩, p5, pC, io, kc, p6, hk, hrow⟩ := h
  obtain ⟨q0, qL, q1, qK, ⟨q2, ⟨ao', ac', q3, ha', hsa', _⟩, ⟨bo', bc', q4, hb', hsb', _⟩⟩, q5, qC, io', kc', q6, hk', hrow'⟩ := h'
  rw [p0, p1, p2, p3, p4, p5, p6, q0, q1, q2, q3, q4, q5, q6]
  have an1 := ha.1; have an2 := ha.2.1; have am1 := hb.1; have am2 := hb.2.1; have kk1 := hk.1; have kk2 := hk.2.1
  have bn1 := ha'.1; have bn2 := ha'.2.1; have bm1 := hb'.1; have bm2 := hb'.2.1; have kl1 := hk'.1; have kl2 := hk'.2.1
  have hbel := (((Below.refl w.heap.size w).alloc (Nat.le_refl _) (.cells #[.int .u64 L, .int .i64 K, .bool N.neg, .slice ao N.an ac, .slice bo N.am bc, .int .i64 C, .slice io k kc] 32)).alloc (by simp) (.cells #[.int .u64 L', .int .i64 K', .bool N'.neg, .slice ao' N'.an ac', .slice bo' N'.am bc', .int .i64 C', .slice io' k' kc'] 32))
  have hx := (Box7.new (w := w) (B := w.heap.size) (.int .u64 L) (.int .i64 K) (.bool N.neg) (.slice ao N.an ac) (.slice bo N.am bc) (.int .i64 C) (.slice io k kc) 32 rfl).alloc (.cells #[.int .u64 L', .int .i64 K', .bool N'.neg, .slice ao' N'.an ac', .slice bo' N'.am bc', .int .i64 C', .slice io' k' kc'] 32)
  have hy := Box7.new (w := w.alloc (.cells #[.int .u64 L, .int .i64 K, .bool N.neg, .slice ao N.an ac, .slice bo N.am bc, .int .i64 C, .slice io k kc] 32)) (B := w.heap.size + 1) (.int .u64 L') (.int .i64 K') (.bool N'.neg) (.slice ao' N'.an ac') (.slice bo' N'.am bc') (.int .i64 C') (.slice io' k' kc') 32 (by simp)
  have hsa1 := Lib.hid hsa; have hsb1 := Lib.hid hsb; have hsa2 := Lib.hid hsa'; have hsb2 := Lib.hid hsb'; have hr1 := Lib.hid hrow; have hr2 := Lib.hid hrow'; have hS' := Lib.hid hS
  clear p0 pL p1 pK p2 p3 p4 p5 pC p6 q0 qL q1 qK q2 q3 q4 q5 qC q6 ha hb hk ha' hb' hk' hsa hsb hsa' hsb' hrow hrow' hS
  by_cases e1 : L = L'
  · by_cases e2 : K = K'
    · by_cases e3 : C = C'
      · subst e1; subst e2; subst e3
        go_enter Try.func13, Try.ntmps13
        go_wp2_with fail
        refine told_calls (fun w' => Below w.heap.size w w' ∧ Box7 w' w.heap.size (.int .u64 L) (.int .i64 K) (.bool N.neg) (.slice ao N.an ac) (.slice bo N.am bc) (.int .i64 C) (.slice io k kc) ∧ Box7 w' (w.heap.size + 1) (.int .u64 L) (.int .i64 K) (.bool N'.neg) (.slice ao' N'.an ac') (.slice bo' N'.am bc') (.int .i64 C) (.slice io' k' kc')) ⟨hbel, hx, hy⟩ ?_
        clear hbel hx hy
        rintro w0 ⟨b0, x0, y0⟩
        refine (same4B_any N.neg N'.neg ao bo ao' bo' N.an ac N.am bc N'.an ac' N'.am bc' N.fa N.ga N'.fa N'.ga w0 (by omega) (by omega) (hsa1.out.below b0) (hsb1.out.below b0) (hsa2.out.below b0) (hsb2.out.below b0)).mono ?_
        rintro e' w1 ⟨r, rfl, hr, hb1⟩
        have b1 := Lib.hid (b0.trans (hb1.mono b0.size)); have x1 := x0.later hb1; have y1 := y0.later hb1
        have hr' := Lib.hid hr
        have x1' := Lib.hid x1; have y1' := Lib.hid y1
        have z6 := x1.c6; have t6 := y1.c6
        clear b0 x0 y0 hb1 hr x1 y1
        cases r with
        | false =>
          go_wp2_with fail
          go_ret
          exact ⟨false, rfl, ⟨fun h => (Bool.false_ne_true h).elim, fun h => absurd (hr'.out.2 h.2.2.2.1) Bool.false_ne_true⟩, b1.out⟩
        | true =>
          by_cases e4 : k = k'
          · subst e4
            go_wp2_with fail
            go_loopw [5] (fun i wr => ∃ j : Nat, j ≤ k ∧ i = .int .i64 j ∧ Hid (∀ t, t < j → P t) ∧ Hid (Box7 wr w.heap.size (.int .u64 L) (.int .i64 K) (.bool N.neg) (.slice ao N.an ac) (.slice bo N.am bc) (.int .i64 C) (.slice io k kc)) ∧ Hid (Box7 wr (w.heap.size + 1) (.int .u64 L) (.int .i64 K) (.bool N'.neg) (.slice ao' N'.an ac') (.slice bo' N'.am bc') (.int .i64 C) (.slice io' k kc')) ∧ Hid (Below w.heap.size w wr)) (fun i _ => k - (intOfZ i).toNat)
            case atStart => exact ⟨0, Nat.zero_le _, rfl, Lib.hid fun t h => by omega, x1', y1', b1⟩
            case round =>
              obtain ⟨j, hj, rfl, hd, hx, hy, hb⟩ := hrel
              clear x1' y1' b1 z6 t6
              by_cases hlt : j < k
              · rcases hr1.out with h0 | ⟨b, o, rfl, hrows⟩
                · omega
                rcases hr2.out with h0 | ⟨b', o', rfl, hrows'⟩
                · omega
                obtain ⟨d0, d1, d2, r0, r1, r2, r3⟩ := hrows j hlt
                obtain ⟨f0, f1, f2, s0, s1, s2, s3⟩ := hrows' j hlt
                have hbd := hb.out.drew
                have xd := hx.out.drew; have yd := hy.out.drew
                have u6 := hx.out.c6
                go_wp2_with fail
                have g6 := xd.c6; have l6 := yd.c6
                have m0 := cell_below r0 hbd; have m1 := cell_below r1 hbd; have m2 := cell_below r2 hbd
                have n0 := cell_below s0 hbd; have n1 := cell_below s1 hbd; have n2 := cell_below s2 hbd
                have hcall := Lib.hid (fun w' h => hS'.out j d0 d1 d2 f0 f1 f2 w' r3 s3 h)
                clear hrows hrows' r0 r1 r2 s0 s1 s2
                have T1 : wr.drew.cell? ⟨w.heap.size, 6, none⟩ = some (.slice (some ⟨b, o, none⟩) k kc) ∧ wr.drew.cell? ⟨w.heap.size + 1, 6, none⟩ = some (.slice (some ⟨b', o', none⟩) k kc') ∧ wr.drew.cell? ⟨b, o + j * 3, none⟩ = some d0 ∧ wr.drew.cell? ⟨b, o + j * 3 + 1, none⟩ = some d1 ∧ wr.drew.cell? ⟨b, o + j * 3 + 2, none⟩ = some d2 ∧ wr.drew.cell? ⟨b', o' + j * 3, none⟩ = some f0 ∧ wr.drew.cell? ⟨b', o' + j * 3 + 1, none⟩ = some f1 ∧ wr.drew.cell? ⟨b', o' + j * 3 + 2, none⟩ = some f2 := ⟨g6, l6, m0, m1, m2, n0, n1, n2⟩
                go_region_held3 (fun w' => w'.cell? ⟨w.heap.size, 6, none⟩ = some (.slice (some ⟨b, o, none⟩) k kc) ∧ w'.cell? ⟨w.heap.size + 1, 6, none⟩ = some (.slice (some ⟨b', o', none⟩) k kc') ∧ w'.cell? ⟨b, o + j * 3, none⟩ = some d0 ∧ w'.cell? ⟨b, o + j * 3 + 1, none⟩ = some d1 ∧ w'.cell? ⟨b, o + j * 3 + 2, none⟩ = some d2 ∧ w'.cell? ⟨b', o' + j * 3, none⟩ = some f0 ∧ w'.cell? ⟨b', o' + j * 3 + 1, none⟩ = some f1 ∧ w'.cell? ⟨b', o' + j * 3 + 2, none⟩ = some f2)
                  (first | exact T1 | exact T2)
                  (first
                  | (go_at_call 11; refine (hcall.out _ hbd).mono ?_; rintro e2 w2 ⟨r, rfl, hr2', hb2⟩; have hb3 := hbd.trans (hb2.mono hbd.size); have x2 := xd.later hb2; have y2 := yd.later hb2; have T2 := And.intro x2.c6 (And.intro y2.c6 (And.intro (cell_below m0 hb2) (And.intro (cell_below m1 hb2) (And.intro (cell_below m2 hb2) (And.intro (cell_below n0 hb2) (And.intro (cell_below n1 hb2) (cell_below n2 hb2))))))); clear hb2))
                have hr3 := Lib.hid hr2'; have x3 := Lib.hid x2; have y3 := Lib.hid y2; have b3 := Lib.hid hb3
                clear hr2' x2 y2 hb3 hbd xd yd g6 l6 m0 m1 m2 n0 n1 n2 T1 T2
                cases r with
                | true =>
                  go_wp2_with fail
                  go_roundw
                  case rel =>
                    refine ⟨j + 1, by omega, by go_num, Lib.hid fun t ht => ?_, x3, y3, b3⟩
                    by_cases e : t = j
                    · rw [e]; exact hr3.out.1 (by first | exact rfl | trivial)
                    · exact hd.out t (by omega)
                  case measure => simp [intOfZ]; omega
                | false =>
                  go_wp2_with fail
                  go_ret
                  exact ⟨false, rfl, ⟨fun h => (Bool.false_ne_true h).elim, fun h => absurd (hr3.out.2 (h.2.2.2.2.2 j hlt)) Bool.false_ne_true⟩, b3.out⟩
              · obtain rfl : j = k := by omega
                have g6 := hx.out.c6
                go_wp2_with fail
                go_ret
                exact ⟨true, rfl, ⟨fun _ => ⟨rfl, rfl, rfl, hr'.out.1 (by first | exact rfl | trivial), rfl, hd.out⟩, fun _ => rfl⟩, hb.out⟩
          · have hd : ((k : Int) != (k' : Int)) = true := by rw [bne_iff_ne]; omega
            have hn := Lib.hid e4
            clear e4
            go_wp2_with fail
            go_ret
            exact ⟨false, rfl, ⟨fun h => (Bool.false_ne_true h).elim, fun h => absurd h.2.2.2.2.1 hn.out⟩, b1.out⟩
      · subst e1; subst e2
        have hd : (C != C') = true := by rw [bne_iff_ne]; omega
        have hn := Lib.hid e3
        clear e3 hx hy
        go_enter Try.func13, Try.ntmps13
        go_wp2_with fail
        go_ret
        exact ⟨false, rfl, ⟨fun h => (Bool.false_ne_true h).elim, fun h => absurd h.2.2.1 hn.out⟩, hbel⟩
    · subst e1
      have hd : (K != K') = true := by rw [bne_iff_ne]; omega
      have hn := Lib.hid e2
      clear e2 hx hy
      go_enter Try.func13, Try.ntmps13
      go_wp2_with fail
      go_ret
      exact ⟨false, rfl, ⟨fun h => (Bool.false_ne_true h).elim, fun h => absurd h.2.1 hn.out⟩, hbel⟩
  · have hd : ((L : Int) != (L' : Int)) = true := by rw [bne_iff_ne]; omega
    have hn := Lib.hid e1
    clear e1 hx hy
    go_enter Try.func13, Try.ntmps13
    go_wp2_with fail
    go_ret
    exact ⟨false, rfl, ⟨fun h => (Bool.false_ne_true h).elim, fun h => absurd h.1 hn.out⟩, hbel⟩

end Go.Proofs.Ytlfilpjiepdejaa

namespace Go.Proofs.Ytlfilpjiepdejaa
open Go.RowKit

set_option maxRecDepth 20000 in
set_option maxHeartbeats 8000000 in
theorem same8_any : ∀ (A B : Tree) (c0 c1 c2 d0 d1 d2 : Value) (w : World), ArrP w A c0 c1 c2 → ArrP w B d0 d1 d2 →
    Calls Try.prog 11 #[.agg #[c0, c1, c2], .agg #[d0, d1, d2]] w (BoolPost (SameT A B) w) := by
  intro A
  induction A with
  | leaf => intros; exact (ArrP.leaf ‹ArrP _ Tree.leaf _ _ _›).elim
  | arr S n sh m L K C N k sub ih =>
    intro B c0 c1 c2 d0 d1 d2 w h h'
    obtain _ | ⟨S', n', sh', m', L', K', C', N', k', sub'⟩ := B
    · exact (ArrP.leaf h').elim
    obtain ⟨rfl, _, ⟨ao, nc, rfl, hn, hsh, _⟩, co, mc, rfl, hm, hc⟩ := h
    obtain ⟨rfl, _, ⟨ao', nc', rfl, hn', hsh', _⟩, co', mc', rfl, hm', hc'⟩ := h'
    have n1 := hn.1; have n2 := hn.2.1; have m1 := hm.1; have m2 := hm.2.1; have n1' := hn'.1; have n2' := hn'.2.1; have m1' := hm'.1; have m2' := hm'.2.1
    have hbel := (((Below.refl w.heap.size w).alloc (Nat.le_refl _) (.cells #[.int .u64 S, .slice ao n nc, .slice co m mc] 26)).alloc (by simp) (.cells #[.int .u64 S', .slice ao' n' nc', .slice co' m' mc'] 26))
    have hx := (Box3.new (w := w) (B := w.heap.size) (.int .u64 S) (.slice ao n nc) (.slice co m mc) 26 rfl).alloc (.cells #[.int .u64 S', .slice ao' n' nc', .slice co' m' mc'] 26)
    have hy := Box3.new (w := w.alloc (.cells #[.int .u64 S, .slice ao n nc, .slice co m mc] 26)) (B := w.heap.size + 1) (.int .u64 S') (.slice ao' n' nc') (.slice co' m' mc') 26 (by simp)
    have hsh1 := Lib.hid hsh; have hsh2 := Lib.hid hsh'; have hc1 := Lib.hid hc; have hc2 := Lib.hid hc'
    clear hn hm hn' hm' hsh hsh' hc hc'
    by_cases e1 : S = S'
    · subst e1
      go_enter Try.func11, Try.ntmps11
      go_wp2_with fail
      refine told_calls (fun w' => Below w.heap.size w w' ∧ Box3 w' w.heap.size (.int .u64 S) (.slice ao n nc) (.slice co m mc) ∧ Box3 w' (w.heap.size + 1) (.int .u64 S) (.slice ao' n' nc') (.slice co' m' mc')) ⟨hbel, hx, hy⟩ ?_
      clear hbel hx hy
      rintro w0 ⟨b0, x0, y0⟩
      refine (ints7_any ao ao' n nc n' nc' sh sh' w0 (by omega) (hsh1.out.below b0) (hsh2.out.below b0)).mono ?_
      rintro e' w1 ⟨hr, hb1⟩
      have b1 := Lib.hid (b0.trans (hb1.mono b0.size)); have x1 := x0.later hb1; have y1 := y0.later hb1
      have x1' := Lib.hid x1; have y1' := Lib.hid y1
      have z2 := x1.c2; have t2 := y1.c2
      clear b0 x0 y0 hb1 x1 y1
      rcases hr with ⟨rfl, hs⟩ | ⟨rfl, hs⟩
      · have hs' := Lib.hid hs
        clear hs
        by_cases e4 : m = m'
        · subst e4
          go_wp2_with fail
          go_loopw [5] (fun j wr => ∃ i : Nat, i ≤ m ∧ j = .int .i64 i ∧ Hid (∀ t, t < i → SameC (L t) (K t) (N t) (C t) (k t) (L' t) (K' t) (N' t) (C' t) (k' t) (fun j => SameT (sub t j) (sub' t j))) ∧ Hid (Box3 wr w.heap.size (.int .u64 S) (.slice ao n nc) (.slice co m mc)) ∧ Hid (Box3 wr (w.heap.size + 1) (.int .u64 S) (.slice ao' n' nc') (.slice co' m mc')) ∧ Hid (Below w.heap.size w wr)) (fun j _ => m - (intOfZ j).toNat)
          case atStart => exact ⟨0, Nat.zero_le _, rfl, Lib.hid fun t h => by omega, x1', y1', b1⟩
          case round =>
            obtain ⟨i, hi, rfl, hd, hx, hy, hb⟩ := hrel
            clear x1' y1' b1 z2 t2
            by_cases hlt : i < m
            · rcases hc1.out with h0 | ⟨b, o, rfl, hcells⟩
              · omega
              rcases hc2.out with h0 | ⟨b', o', rfl, hcells'⟩
              · omega
              obtain ⟨e, he, hcell⟩ := hcells i hlt
              obtain ⟨f, hf, hcell'⟩ := hcells' i hlt
              have hbd := hb.out.drew
              have xd := hx.out.drew; have yd := hy.out.drew
              have u2 := hx.out.c2
              go_wp2_with fail
              have g2 := xd.c2; have l2 := yd.c2
              have m0 := cell_below (he 0 (by decide)) hbd
              rw [Nat.add_zero] at m0
              have n0 := cell_below (hf 0 (by decide)) hbd
              rw [Nat.add_zero] at n0
              have m1 := cell_below (he 1 (by decide)) hbd
              have n1 := cell_below (hf 1 (by decide)) hbd
              have m2 := cell_below (he 2 (by decide)) hbd
              have n2 := cell_below (hf 2 (by decide)) hbd
              have m3 := cell_below (he 3 (by decide)) hbd
              have n3 := cell_below (hf 3 (by decide)) hbd
              have m4 := cell_below (he 4 (by decide)) hbd
              have n4 := cell_below (hf 4 (by decide)) hbd
              have m5 := cell_below (he 5 (by decide)) hbd
              have n5 := cell_below (hf 5 (by decide)) hbd
              have m6 := cell_below (he 6 (by decide)) hbd
              have n6 := cell_below (hf 6 (by decide)) hbd
              have hcall := Lib.hid (fun (w' : World) (hw : Below w.heap.size w w') => sameCell8_of (L i) (K i) (N i) (C i) (k i) _ e (L' i) (K' i) (N' i) (C' i) (k' i) _ f (fun j => SameT (sub i j) (sub' i j)) w' (hcell.below hw fun j d0 d1 d2 _ hd => ArrP.below _ _ _ _ hd hw) (hcell'.below hw fun j d0 d1 d2 _ hd => ArrP.below _ _ _ _ hd hw)
                (fun j d0 d1 d2 e0 e1 e2 w'' r r' hw' => ih i j (sub' i j) d0 d1 d2 e0 e1 e2 w'' (ArrP.below _ _ _ _ r hw') (ArrP.below _ _ _ _ r' hw')))
              clear hcells hcells' he hf hcell hcell' u2
              have T1 : wr.drew.cell? ⟨w.heap.size, 2, none⟩ = some (.slice (some ⟨b, o, none⟩) m mc) ∧ wr.drew.cell? ⟨w.heap.size + 1, 2, none⟩ = some (.slice (some ⟨b', o', none⟩) m mc') ∧ wr.drew.cell? ⟨b, o + i * 7, none⟩ = some (e 0) ∧ wr.drew.cell? ⟨b, o + i * 7 + 1, none⟩ = some (e 1) ∧ wr.drew.cell? ⟨b, o + i * 7 + 2, none⟩ = some (e 2) ∧ wr.drew.cell? ⟨b, o + i * 7 + 3, none⟩ = some (e 3) ∧ wr.drew.cell? ⟨b, o + i * 7 + 4, none⟩ = some (e 4) ∧ wr.drew.cell? ⟨b, o + i * 7 + 5, none⟩ = some (e 5) ∧ wr.drew.cell? ⟨b, o + i * 7 + 6, none⟩ = some (e 6) ∧ wr.drew.cell? ⟨b', o' + i * 7, none⟩ = some (f 0) ∧ wr.drew.cell? ⟨b', o' + i * 7 + 1, none⟩ = some (f 1) ∧ wr.drew.cell? ⟨b', o' + i * 7 + 2, none⟩ = some (f 2) ∧ wr.drew.cell? ⟨b', o' + i * 7 + 3, none⟩ = some (f 3) ∧ wr.drew.cell? ⟨b', o' + i * 7 + 4, none⟩ = some (f 4) ∧ wr.drew.cell? ⟨b', o' + i * 7 + 5, none⟩ = some (f 5) ∧ wr.drew.cell? ⟨b', o' + i * 7 + 6, none⟩ = some (f 6) := And.intro (g2) (And.intro (l2) (And.intro (m0) (And.intro (m1) (And.intro (m2) (And.intro (m3) (And.intro (m4) (And.intro (m5) (And.intro (m6) (And.intro (n0) (And.intro (n1) (And.intro (n2) (And.intro (n3) (And.intro (n4) (And.intro (n5) (n6)))))))))))))))
              go_region_held3 (fun w' => w'.cell? ⟨w.heap.size, 2, none⟩ = some (.slice (some ⟨b, o, none⟩) m mc) ∧ w'.cell? ⟨w.heap.size + 1, 2, none⟩ = some (.slice (some ⟨b', o', none⟩) m mc') ∧ w'.cell? ⟨b, o + i * 7, none⟩ = some (e 0) ∧ w'.cell? ⟨b, o + i * 7 + 1, none⟩ = some (e 1) ∧ w'.cell? ⟨b, o + i * 7 + 2, none⟩ = some (e 2) ∧ w'.cell? ⟨b, o + i * 7 + 3, none⟩ = some (e 3) ∧ w'.cell? ⟨b, o + i * 7 + 4, none⟩ = some (e 4) ∧ w'.cell? ⟨b, o + i * 7 + 5, none⟩ = some (e 5) ∧ w'.cell? ⟨b, o + i * 7 + 6, none⟩ = some (e 6) ∧ w'.cell? ⟨b', o' + i * 7, none⟩ = some (f 0) ∧ w'.cell? ⟨b', o' + i * 7 + 1, none⟩ = some (f 1) ∧ w'.cell? ⟨b', o' + i * 7 + 2, none⟩ = some (f 2) ∧ w'.cell? ⟨b', o' + i * 7 + 3, none⟩ = some (f 3) ∧ w'.cell? ⟨b', o' + i * 7 + 4, none⟩ = some (f 4) ∧ w'.cell? ⟨b', o' + i * 7 + 5, none⟩ = some (f 5) ∧ w'.cell? ⟨b', o' + i * 7 + 6, none⟩ = some (f 6))
                (first | exact T1 | exact T2)
                (first
                | (go_at_call 13; refine (hcall.out _ hbd).mono ?_; rintro e2 w2 ⟨r, rfl, hr2', hb2⟩; have hb3 := hbd.trans (hb2.mono hbd.size); have x2 := xd.later hb2; have y2 := yd.later hb2; have T2 := And.intro (x2.c2) (And.intro (y2.c2) (And.intro (cell_below m0 hb2) (And.intro (cell_below m1 hb2) (And.intro (cell_below m2 hb2) (And.intro (cell_below m3 hb2) (And.intro (cell_below m4 hb2) (And.intro (cell_below m5 hb2) (And.intro (cell_below m6 hb2) (And.intro (cell_below n0 hb2) (And.intro (cell_below n1 hb2) (And.intro (cell_below n2 hb2) (And.intro (cell_below n3 hb2) (And.intro (cell_below n4 hb2) (And.intro (cell_below n5 hb2) (cell_below n6 hb2))))))))))))))); clear hb2))
              have hr3 := Lib.hid hr2'; have x3 := Lib.hid x2; have y3 := Lib.hid y2; have b3 := Lib.hid hb3
              clear hr2' x2 y2 hb3 hbd xd yd g2 l2 m0 n0 m1 n1 m2 n2 m3 n3 m4 n4 m5 n5 m6 n6 T1 T2
              cases r with
              | true =>
                go_wp2_with fail
                go_roundw
                case rel =>
                  refine ⟨i + 1, by omega, by go_num, Lib.hid fun t ht => ?_, x3, y3, b3⟩
                  by_cases e : t = i
                  · rw [e]; exact hr3.out.1 (by first | exact rfl | trivial)
                  · exact hd.out t (by omega)
                case measure => simp [intOfZ]; omega
              | false =>
                go_wp2_with fail
                go_ret
                exact ⟨false, rfl, ⟨fun h => (Bool.false_ne_true h).elim, fun h => absurd (hr3.out.2 (h.2.2.2 i hlt)) Bool.false_ne_true⟩, b3.out⟩
            · obtain rfl : i = m := by omega
              have g2 := hx.out.c2
              go_wp2_with fail
              go_ret
              exact ⟨true, rfl, ⟨fun _ => ⟨rfl, hs'.out, rfl, hd.out⟩, fun _ => rfl⟩, hb.out⟩
        · have hd : ((m : Int) != (m' : Int)) = true := by rw [bne_iff_ne]; omega
          have hn := Lib.hid e4
          clear e4
          go_wp2_with fail
          go_ret
          exact ⟨false, rfl, ⟨fun h => (Bool.false_ne_true h).elim, fun h => absurd h.2.2.1 hn.out⟩, b1.out⟩
      · have hs' := Lib.hid hs
        clear hs
        go_wp2_with fail
        go_ret
        exact ⟨false, rfl, ⟨fun h => (Bool.false_ne_true h).elim, fun h => absurd h.2.1 hs'.out⟩, b1.out⟩
    · have hd : ((S : Int) != (S' : Int)) = true := by rw [bne_iff_ne]; omega
      have hn := Lib.hid e1
      clear e1 hx hy
      go_enter Try.func11, Try.ntmps11
      go_wp2_with fail
      go_ret
      exact ⟨false, rfl, ⟨fun h => (Bool.false_ne_true h).elim, fun h => absurd h.1 hn.out⟩, hbel⟩

end Go.Proofs.Ytlfilpjiepdejaa

namespace Go.Proofs.Ytlfilpjiepdejaa
open Go.RowKit

def raiseT : Tree → Nat → Tree
  | .leaf, _ => .leaf
  | .arr S n sh m L K C N k sub, l => .arr (orL S l) n sh m L K C N k sub

theorem ArrP.raise {w : World} {A : Tree} {c0 c1 c2 : Value} {l : Nat} (h : ArrP w A c0 c1 c2) (hl : IsL l) : ∃ S, c0 = .int .u64 (S : Nat) ∧ IsL S ∧ ArrP w (raiseT A l) (.int .u64 (orL S l : Nat)) c1 c2 := by
  obtain _ | ⟨S, n, sh, m, L, K, C, N, k, sub⟩ := A
  · exact (ArrP.leaf h).elim
  obtain ⟨h0, h1, h2⟩ := h
  exact ⟨S, h0, h1, rfl, orL_is h1 hl, h2⟩

theorem Box3.set0 {w : World} {B : Nat} {v0 v1 v2 : Value} (h : Box3 w B v0 v1 v2) (u0 : Value) : Box3 (w.setCell ⟨B, 0, none⟩ u0) B u0 v1 v2 := by
  have ne : ∀ {j k : Nat}, j ≠ k → (⟨B, j, none⟩ : Addr) ≠ ⟨B, k, none⟩ := fun h e => h (by injection e)
  refine ⟨World.cell?_setCell_same _ _ _ h.c0, ?_, ?_, fun j => by rw [World.frozen?_setCell]; exact h.fr j⟩
  · rw [cell_set_ne (ne (by decide))]; exact h.c1
  · rw [cell_set_ne (ne (by decide))]; exact h.c2

theorem Box3.aside {w : World} {B D : Nat} {v0 v1 v2 : Value} (h : Box3 w B v0 v1 v2) (hne : B ≠ D) (t : Nat) (u : Value) : Box3 (w.setCell ⟨D, t, none⟩ u) B v0 v1 v2 := by
  have ne : ∀ j, (⟨B, j, none⟩ : Addr) ≠ ⟨D, t, none⟩ := fun j e => hne (by injection e)
  refine ⟨?_, ?_, ?_, fun j => by rw [World.frozen?_setCell]; exact h.fr j⟩
  · rw [cell_set_ne (ne _)]; exact h.c0
  · rw [cell_set_ne (ne _)]; exact h.c1
  · rw [cell_set_ne (ne _)]; exact h.c2

end Go.Proofs.Ytlfilpjiepdejaa

namespace Go.Proofs.Ytlfilpjiepdejaa
open Go.RowKit Num

def SlQ (w : World) (Q : Nat → Prop) (ao : Option Addr) (n : Nat) (f : Nat → Nat) : Prop :=
  n = 0 ∨ ∃ b off, ao = some ⟨b, off, none⟩ ∧ Q b ∧ ∀ j, j < n → w.cell? ⟨b, off + j, none⟩ = some (.int .u32 (f j))

def SlZQ (w : World) (Q : Nat → Prop) (ao : Option Addr) (n : Nat) (f : Nat → Int) : Prop :=
  n = 0 ∨ ∃ b off, ao = some ⟨b, off, none⟩ ∧ Q b ∧ ∀ j, j < n → w.cell? ⟨b, off + j, none⟩ = some (.int .i64 (f j))

def NumQ (w : World) (Q : Nat → Prop) (N : NumF) (c0 c1 c2 : Value) : Prop :=
  c0 = .bool N.neg ∧ (∃ ao ac, c1 = .slice ao N.an ac ∧ IsN N.an ac ∧ SlQ w Q ao N.an N.fa ∧ Lim N.fa N.an) ∧ (∃ bo bc, c2 = .slice bo N.am bc ∧ IsN N.am bc ∧ SlQ w Q bo N.am N.ga ∧ Lim N.ga N.am)

def RowQ (w : World) (Q : Nat → Prop) (ao : Option Addr) (k : Nat) (R : Nat → Value → Value → Value → Prop) : Prop :=
  k = 0 ∨ ∃ b o, ao = some ⟨b, o, none⟩ ∧ Q b ∧ ∀ j, j < k → ∃ d0 d1 d2, w.cell? ⟨b, o + j * 3, none⟩ = some d0 ∧ w.cell? ⟨b, o + j * 3 + 1, none⟩ = some d1 ∧ w.cell? ⟨b, o + j * 3 + 2, none⟩ = some d2 ∧ R j d0 d1 d2

def CellQ (w : World) (Q : Nat → Prop) (L : Nat) (K : Int) (N : NumF) (C : Int) (k : Nat) (R : Nat → Value → Value → Value → Prop) (e : Nat → Value) : Prop :=
  e 0 = .int .u64 L ∧ IsL L ∧ e 1 = .int .i64 K ∧ IsZ K ∧ NumQ w Q N (e 2) (e 3) (e 4) ∧ e 5 = .int .i64 C ∧ IsZ C ∧ ∃ ao kc, e 6 = .slice ao k kc ∧ IsN k kc ∧ RowQ w Q ao k R

/-- As ArrP, and all of it in blocks of which Q holds. -/
def ArrQ (w : World) (Q : Nat → Prop) : Tree → Value → Value → Value → Prop
  | .leaf, _, _, _ => False
  | .arr S n sh m L K C N k sub, c0, c1, c2 =>
    c0 = .int .u64 S ∧ IsL S ∧ (∃ ao nc, c1 = .slice ao n nc ∧ IsN n nc ∧ SlZQ w Q ao n sh ∧ ∀ j, j < n → IsZ (sh j)) ∧
    ∃ co mc, c2 = .slice co m mc ∧ IsN m mc ∧ (m = 0 ∨ ∃ b o, co = some ⟨b, o, none⟩ ∧ Q b ∧ ∀ i, i < m → ∃ e : Nat → Value, (∀ t, t < 7 → w.cell? ⟨b, o + i * 7 + t, none⟩ = some (e t)) ∧
      CellQ w Q (L i) (K i) (N i) (C i) (k i) (fun j d0 d1 d2 => ArrQ w Q (sub i j) d0 d1 d2) e)

theorem cell_kept {w w' : World} {b o : Nat} {v : Value} (h : w.cell? ⟨b, o, none⟩ = some v) (e : w'.heap[b]? = w.heap[b]?) : w'.cell? ⟨b, o, none⟩ = some v := (World.cell?_of_block (a := ⟨b, o, none⟩) e).trans h

theorem SlQ.keep {w w' : World} {Q Q' : Nat → Prop} {ao : Option Addr} {n : Nat} {f : Nat → Nat} (h : SlQ w Q ao n f) (hk : ∀ b, Q b → b < w.heap.size → w'.heap[b]? = w.heap[b]?) (hq : ∀ b, Q b → b < w.heap.size → Q' b) : SlQ w' Q' ao n f := by
  by_cases h0 : n = 0
  · exact .inl h0
  rcases h with h | ⟨b, o, rfl, h1, h2⟩
  · exact .inl h
  · have hb := World.block_lt_of_cell? w _ (h2 0 (by omega))
    exact .inr ⟨b, o, rfl, hq b h1 hb, fun j hj => cell_kept (h2 j hj) (hk b h1 hb)⟩

theorem SlZQ.keep {w w' : World} {Q Q' : Nat → Prop} {ao : Option Addr} {n : Nat} {f : Nat → Int} (h : SlZQ w Q ao n f) (hk : ∀ b, Q b → b < w.heap.size → w'.heap[b]? = w.heap[b]?) (hq : ∀ b, Q b → b < w.heap.size → Q' b) : SlZQ w' Q' ao n f := by
  by_cases h0 : n = 0
  · exact .inl h0
  rcases h with h | ⟨b, o, rfl, h1, h2⟩
  · exact .inl h
  · have hb := World.block_lt_of_cell? w _ (h2 0 (by omega))
    exact .inr ⟨b, o, rfl, hq b h1 hb, fun j hj => cell_kept (h2 j hj) (hk b h1 hb)⟩

theorem NumQ.keep {w w' : World} {Q Q' : Nat → Prop} {N : NumF} {c0 c1 c2 : Value} (h : NumQ w Q N c0 c1 c2) (hk : ∀ b, Q b → b < w.heap.size → w'.heap[b]? = w.heap[b]?) (hq : ∀ b, Q b → b < w.heap.size → Q' b) : NumQ w' Q' N c0 c1 c2 := by
  obtain ⟨h0, ⟨ao, ac, h1, h2, h3, h4⟩, ⟨bo, bc, k1, k2, k3, k4⟩⟩ := h
  exact ⟨h0, ⟨ao, ac, h1, h2, h3.keep hk hq, h4⟩, ⟨bo, bc, k1, k2, k3.keep hk hq, k4⟩⟩

theorem RowQ.keep {w w' : World} {Q Q' : Nat → Prop} {ao : Option Addr} {k : Nat} {R R' : Nat → Value → Value → Value → Prop} (h : RowQ w Q ao k R) (hk : ∀ b, Q b → b < w.heap.size → w'.heap[b]? = w.heap[b]?) (hq : ∀ b, Q b → b < w.heap.size → Q' b) (hR : ∀ j d0 d1 d2, R j d0 d1 d2 → R' j d0 d1 d2) : RowQ w' Q' ao k R' := by
  by_cases h0 : k = 0
  · exact .inl h0
  rcases h with h | ⟨b, o, rfl, h1, h2⟩
  · exact .inl h
  · have hb : b < w.heap.size := by
      obtain ⟨d0, d1, d2, e0, _⟩ := h2 0 (by omega)
      exact World.block_lt_of_cell? w _ e0
    refine .inr ⟨b, o, rfl, hq b h1 hb, fun j hj => ?_⟩
    obtain ⟨d0, d1, d2, e0, e1, e2, e3⟩ := h2 j hj
    exact ⟨d0, d1, d2, cell_kept e0 (hk b h1 hb), cell_kept e1 (hk b h1 hb), cell_kept e2 (hk b h1 hb), hR j d0 d1 d2 e3⟩

theorem CellQ.keep {w w' : World} {Q Q' : Nat → Prop} {L : Nat} {K : Int} {N : NumF} {C : Int} {k : Nat} {R R' : Nat → Value → Value → Value → Prop} {e : Nat → Value} (h : CellQ w Q L K N C k R e) (hk : ∀ b, Q b → b < w.heap.size → w'.heap[b]? = w.heap[b]?) (hq : ∀ b, Q b → b < w.heap.size → Q' b) (hR : ∀ j d0 d1 d2, R j d0 d1 d2 → R' j d0 d1 d2) : CellQ w' Q' L K N C k R' e := by
  obtain ⟨h0, h1, h2, h3, h4, h5, h6, ao, kc, h7, h8, h9⟩ := h
  exact ⟨h0, h1, h2, h3, h4.keep hk hq, h5, h6, ao, kc, h7, h8, h9.keep hk hq hR⟩

theorem ArrQ.leaf {w : World} {Q : Nat → Prop} {c0 c1 c2 : Value} (h : ArrQ w Q .leaf c0 c1 c2) : False := h

theorem ArrQ.keep {w w' : World} {Q Q' : Nat → Prop} (hk : ∀ b, Q b → b < w.heap.size → w'.heap[b]? = w.heap[b]?) (hq : ∀ b, Q b → b < w.heap.size → Q' b) : ∀ (A : Tree) (c0 c1 c2 : Value), ArrQ w Q A c0 c1 c2 → ArrQ w' Q' A c0 c1 c2 := by
  intro A
  induction A with
  | leaf => intros; exact (ArrQ.leaf ‹ArrQ _ _ Tree.leaf _ _ _›).elim
  | arr S n sh m L K C N k sub ih =>
    intro c0 c1 c2 h
    obtain ⟨h0, h1, ⟨ao, nc, h2, h3, h4, h5⟩, co, mc, h6, h7, h8⟩ := h
    refine ⟨h0, h1, ⟨ao, nc, h2, h3, h4.keep hk hq, h5⟩, co, mc, h6, h7, ?_⟩
    by_cases h0 : m = 0
    · exact .inl h0
    rcases h8 with h8 | ⟨b, o, rfl, h8, h9⟩
    · exact .inl h8
    · have hb : b < w.heap.size := by
        obtain ⟨e, h10, _⟩ := h9 0 (by omega)
        exact World.block_lt_of_cell? w _ (h10 0 (by decide))
      refine .inr ⟨b, o, rfl, hq b h8 hb, fun i hi => ?_⟩
      obtain ⟨e, h10, h11⟩ := h9 i hi
      exact ⟨e, fun t ht => cell_kept (h10 t ht) (hk b h8 hb), h11.keep hk hq fun j d0 d1 d2 hd => ih i j d0 d1 d2 hd⟩

theorem blk_lt {w : World} {b o : Nat} {v : Value} (h : w.cell? ⟨b, o, none⟩ = some v) : b < w.heap.size := World.block_lt_of_cell? w _ h

theorem Sl.within {w : World} {ao : Option Addr} {n : Nat} {f : Nat → Nat} (h : Sl w ao n f) : SlQ w (· < w.heap.size) ao n f := by
  by_cases h0 : n = 0
  · exact .inl h0
  · rcases h with h | ⟨b, o, rfl, h⟩
    · exact .inl h
    · exact .inr ⟨b, o, rfl, blk_lt (h 0 (by omega)), h⟩

theorem SlZ.within {w : World} {ao : Option Addr} {n : Nat} {f : Nat → Int} (h : SlZ w ao n f) : SlZQ w (· < w.heap.size) ao n f := by
  by_cases h0 : n = 0
  · exact .inl h0
  · rcases h with h | ⟨b, o, rfl, h⟩
    · exact .inl h
    · exact .inr ⟨b, o, rfl, blk_lt (h 0 (by omega)), h⟩

theorem NumP.within {w : World} {N : NumF} {c0 c1 c2 : Value} (h : NumP w N c0 c1 c2) : NumQ w (· < w.heap.size) N c0 c1 c2 := by
  obtain ⟨h0, ⟨ao, ac, h1, h2, h3, h4⟩, ⟨bo, bc, k1, k2, k3, k4⟩⟩ := h
  exact ⟨h0, ⟨ao, ac, h1, h2, h3.within, h4⟩, ⟨bo, bc, k1, k2, k3.within, k4⟩⟩

theorem ArrP.within {w : World} : ∀ (A : Tree) (c0 c1 c2 : Value), ArrP w A c0 c1 c2 → ArrQ w (· < w.heap.size) A c0 c1 c2 := by
  intro A
  induction A with
  | leaf => intros; exact (ArrP.leaf ‹ArrP _ Tree.leaf _ _ _›).elim
  | arr S n sh m L K C N k sub ih =>
    intro c0 c1 c2 h
    obtain ⟨h0, h1, ⟨ao, nc, h2, h3, h4, h5⟩, co, mc, h6, h7, h8⟩ := h
    refine ⟨h0, h1, ⟨ao, nc, h2, h3, h4.within, h5⟩, co, mc, h6, h7, ?_⟩
    by_cases hm0 : m = 0
    · exact .inl hm0
    rcases h8 with h8 | ⟨b, o, rfl, h9⟩
    · exact .inl h8
    · refine .inr ⟨b, o, rfl, ?_, fun i hi => ?_⟩
      · obtain ⟨e, h10, _⟩ := h9 0 (by omega)
        exact blk_lt (h10 0 (by decide))
      · obtain ⟨e, h10, q0, q1, q2, q3, q4, q5, q6, io, kc, q7, q8, q9⟩ := h9 i hi
        refine ⟨e, h10, q0, q1, q2, q3, q4.within, q5, q6, io, kc, q7, q8, ?_⟩
        by_cases hk0 : k i = 0
        · exact .inl hk0
        rcases q9 with q9 | ⟨b', o', rfl, q9⟩
        · exact .inl q9
        · refine .inr ⟨b', o', rfl, ?_, fun j hj => ?_⟩
          · obtain ⟨d0, d1, d2, r0, _⟩ := q9 0 (by omega)
            exact blk_lt r0
          · obtain ⟨d0, d1, d2, r0, r1, r2, r3⟩ := q9 j hj
            exact ⟨d0, d1, d2, r0, r1, r2, ih i j d0 d1 d2 r3⟩

theorem SlQ.plain {w : World} {Q : Nat → Prop} {ao : Option Addr} {n : Nat} {f : Nat → Nat} (h : SlQ w Q ao n f) : Sl w ao n f := by
  rcases h with h | ⟨b, o, e, _, h⟩
  · exact .inl h
  · exact .inr ⟨b, o, e, h⟩

theorem SlZQ.plain {w : World} {Q : Nat → Prop} {ao : Option Addr} {n : Nat} {f : Nat → Int} (h : SlZQ w Q ao n f) : SlZ w ao n f := by
  rcases h with h | ⟨b, o, e, _, h⟩
  · exact .inl h
  · exact .inr ⟨b, o, e, h⟩

theorem ArrQ.plain {w : World} {Q : Nat → Prop} : ∀ (A : Tree) (c0 c1 c2 : Value), ArrQ w Q A c0 c1 c2 → ArrP w A c0 c1 c2 := by
  intro A
  induction A with
  | leaf => intros; exact (ArrQ.leaf ‹ArrQ _ _ Tree.leaf _ _ _›).elim
  | arr S n sh m L K C N k sub ih =>
    intro c0 c1 c2 h
    obtain ⟨h0, h1, ⟨ao, nc, h2, h3, h4, h5⟩, co, mc, h6, h7, h8⟩ := h
    refine ⟨h0, h1, ⟨ao, nc, h2, h3, h4.plain, h5⟩, co, mc, h6, h7, ?_⟩
    rcases h8 with h8 | ⟨b, o, rfl, _, h9⟩
    · exact .inl h8
    · refine .inr ⟨b, o, rfl, fun i hi => ?_⟩
      obtain ⟨e, h10, q0, q1, q2, q3, ⟨p0, ⟨ao, ac, p1, p2, p3, p4⟩, ⟨bo, bc, p5, p6, p7, p8⟩⟩, q5, q6, io, kc, q7, q8, q9⟩ := h9 i hi
      refine ⟨e, h10, q0, q1, q2, q3, ⟨p0, ⟨ao, ac, p1, p2, p3.plain, p4⟩, ⟨bo, bc, p5, p6, p7.plain, p8⟩⟩, q5, q6, io, kc, q7, q8, ?_⟩
      rcases q9 with q9 | ⟨b', o', rfl, _, q9⟩
      · exact .inl q9
      · refine .inr ⟨b', o', rfl, fun j hj => ?_⟩
        obtain ⟨d0, d1, d2, r0, r1, r2, r3⟩ := q9 j hj
        exact ⟨d0, d1, d2, r0, r1, r2, ih i j d0 d1 d2 r3⟩

/-- Rows of so many cells each, one behind the other. -/
def rowsN (es : Nat → List Value) (n : Nat) : List Value := (List.range n).flatMap es

def putL (es : Nat → List Value) (i : Nat) (x : List Value) (j : Nat) : List Value := if j = i then x else es j

theorem rowsN_snoc (es : Nat → List Value) (n : Nat) (x : List Value) : rowsN es n ++ x = rowsN (putL es n x) (n + 1) := by
  unfold rowsN
  rw [List.range_succ, List.flatMap_append]
  congr 1
  · rw [List.flatMap_def, List.flatMap_def]
    refine congrArg List.flatten (List.map_congr_left fun t ht => ?_)
    have := List.mem_range.1 ht
    unfold putL
    rw [if_neg (by omega)]
  · simp [putL]

theorem rowsN_length {es : Nat → List Value} {s : Nat} : ∀ n, (∀ i, i < n → (es i).length = s) → (rowsN es n).length = n * s
  | 0, _ => by simp [rowsN]
  | n + 1, h => by
    have e : rowsN es (n + 1) = rowsN es n ++ es n := by unfold rowsN; rw [List.range_succ, List.flatMap_append]; simp
    rw [e, List.length_append, rowsN_length n fun i hi => h i (by omega), h n (by omega), Nat.succ_mul]

theorem rowsN_get {es : Nat → List Value} {s : Nat} : ∀ n, (∀ i, i < n → (es i).length = s) → ∀ i t, i < n → t < s → (rowsN es n)[i * s + t]? = (es i)[t]?
  | 0, _, i, t, hi, _ => by omega
  | n + 1, h, i, t, hi, ht => by
    have e : rowsN es (n + 1) = rowsN es n ++ es n := by unfold rowsN; rw [List.range_succ, List.flatMap_append]; simp
    have hl := rowsN_length n fun i hi => h i (by omega)
    rw [e]
    by_cases hin : i < n
    · have : i * s + t < n * s := by
        have := Nat.mul_le_mul_right s (show i + 1 ≤ n by omega)
        rw [Nat.succ_mul] at this
        omega
      rw [List.getElem?_append_left (by omega)]
      exact rowsN_get n (fun i hi => h i (by omega)) i t hin ht
    · obtain rfl : i = n := by omega
      rw [List.getElem?_append_right (by omega), hl, Nat.add_sub_cancel_left]

end Go.Proofs.Ytlfilpjiepdejaa

namespace Go.Proofs.Ytlfilpjiepdejaa
open Go.RowKit Num

/-- A label, raised or put in another's place. -/
def labB (er : Bool) (x l : Nat) : Nat := match er with | true => l | false => orL x l

/-- All labels raised, or l in their place. -/
def coverT : Tree → Nat → Bool → Tree
  | .leaf, _, _ => .leaf
  | .arr S n sh m L K C N k sub, l, er => .arr (labB er S l) n sh m (fun i => labB er (L i) l) K C N k (fun i j => coverT (sub i j) l er)

theorem labB_is {er : Bool} {x l : Nat} (hx : IsL x) (hl : IsL l) : IsL (labB er x l) := by cases er; exact orL_is hx hl; exact hl

theorem infoCell : (Try.prog.info? 32).map (fun i => (i.zero, i.size, i.bytes)) = some (some (.agg #[.int .u64 0, .int .i64 0, .bool false, .slice none 0 0, .slice none 0 0, .int .i64 0, .slice none 0 0]), 7, 104) := by kernel_rfl

theorem infoArr : (Try.prog.info? 26).map (fun i => (i.zero, i.size, i.bytes)) = some (some (.agg #[.int .u64 0, .slice none 0 0, .slice none 0 0]), 3, 56) := by kernel_rfl

/-- A cell of what is made: R tells which arrays are in it. -/
abbrev CellF := Nat → World → (Nat → Prop) → (Nat → Value) → Prop

def KeepF (F : CellF) : Prop := ∀ x (w w' : World) (Q Q' : Nat → Prop) e, F x w Q e → (∀ b, Q b → b < w.heap.size → w'.heap[b]? = w.heap[b]?) → (∀ b, Q b → b < w.heap.size → Q' b) → F x w' Q' e

def coverF (l : Nat) (er : Bool) (L : Nat → Nat) (K C : Nat → Int) (N : Nat → NumF) (k : Nat → Nat) (sub : Nat → Nat → Tree) : CellF :=
  fun x w Q e => CellQ w Q (labB er (L x) l) (K x) (N x) (C x) (k x) (fun j d0 d1 d2 => ArrQ w Q (coverT (sub x j) l er) d0 d1 d2) e

theorem coverF_keep (l : Nat) (er : Bool) (L : Nat → Nat) (K C : Nat → Int) (N : Nat → NumF) (k : Nat → Nat) (sub : Nat → Nat → Tree) : KeepF (coverF l er L K C N k sub) :=
  fun _ _ _ _ _ _ h hk hq => CellQ.keep h hk hq fun _ d0 d1 d2 hd => ArrQ.keep hk hq _ d0 d1 d2 hd

/-- A row that a call owns, later: its block is as it was. -/
theorem own_upto {w w' : World} {U B size n : Nat} {e : TypeId} {v : Value} {xs : List Value} (h : w.ownsRow B e size v n xs) (hb : ∀ b, b < U → w'.heap[b]? = w.heap[b]?) (hv : ∀ g, v.ownBlock = some g → g < U) : w'.ownsRow B e size v n xs := by
  refine ⟨h.1, ?_⟩
  rcases h.2 with h0 | ⟨g, cap, cur, rfl, hB, hg, rest⟩
  · exact .inl h0
  · exact .inr ⟨g, cap, cur, rfl, hB, (hb g (hv g rfl)).trans hg, rest⟩

theorem own_but {w w' : World} {D B size n : Nat} {e : TypeId} {v : Value} {xs : List Value} (h : w.ownsRow B e size v n xs) (hb : ∀ b, b ≠ D → w'.heap[b]? = w.heap[b]?) (hv : ∀ g, v.ownBlock = some g → g ≠ D) : w'.ownsRow B e size v n xs := by
  refine ⟨h.1, ?_⟩
  rcases h.2 with h0 | ⟨g, cap, cur, rfl, hB, hg, rest⟩
  · exact .inl h0
  · exact .inr ⟨g, cap, cur, rfl, hB, (hb g (hv g rfl)).trans hg, rest⟩

/-- Where the cells lie that have been made: not in the row that grows, and below U. -/
def InV (D s : Nat) (V : Value) (U : Nat) (b : Nat) : Prop := (b < D ∨ s + 3 ≤ b) ∧ some b ≠ V.ownBlock ∧ b < U

/-- Cover, with t cells made: the array that came in, what is told of it, what is made, and the row of its cells. -/
structure Cov (F : CellF) (D U : Nat) (w wr : World) (a0 a1 a2 o0 : Value) (t : Nat) (V : Value) (es : Nat → List Value) : Prop where
  box : Box3 wr w.heap.size a0 a1 a2
  zer : Box3 wr (w.heap.size + 1) (.int .u64 0) (.slice none 0 0) (.slice none 0 0)
  out : Box3 wr (w.heap.size + 2) o0 a1 V
  row : wr.ownsRow (w.heap.size + 3) 32 7 V t (rowsN es t)
  cells : ∀ x, x < t → (es x).length = 7 ∧ F x wr (InV D w.heap.size V U) (fun q => (es x).getD q undef)
  bel : Below w.heap.size w wr
  dS : D ≤ w.heap.size
  sU : w.heap.size + 3 ≤ U
  Uw : U ≤ wr.heap.size
  vU : ∀ g, V.ownBlock = some g → g < U

theorem Cov.upto {F : CellF} (hF : KeepF F) {D U : Nat} {w wr w' : World} {a0 a1 a2 o0 : Value} {t : Nat} {V : Value} {es : Nat → List Value} (h : Cov F D U w wr a0 a1 a2 o0 t V es) (hb : Below U wr w') : Cov F D U w w' a0 a1 a2 o0 t V es := by
  have hs := h.sU
  exact ⟨h.box.below hb (by omega), h.zer.below hb (by omega), h.out.below hb (by omega), own_upto h.row (fun b hb' => hb.block b hb') h.vU,
    fun x hx => ⟨(h.cells x hx).1, hF x _ _ _ _ _ (h.cells x hx).2 (fun b hq _ => hb.block b hq.2.2) fun b hq _ => hq⟩, h.bel.trans (hb.mono (by omega)), h.dS, h.sU, Nat.le_trans h.Uw hb.size, h.vU⟩

theorem Cov.lift {F : CellF} (hF : KeepF F) {D U : Nat} {w wr : World} {a0 a1 a2 o0 : Value} {t : Nat} {V : Value} {es : Nat → List Value} (h : Cov F D U w wr a0 a1 a2 o0 t V es) : Cov F D wr.heap.size w wr a0 a1 a2 o0 t V es :=
  ⟨h.box, h.zer, h.out, h.row, fun x hx => ⟨(h.cells x hx).1, hF x _ _ _ _ _ (h.cells x hx).2 (fun _ _ _ => rfl) fun _ hq hb => ⟨hq.1, hq.2.1, hb⟩⟩, h.bel, h.dS, Nat.le_trans h.sU h.Uw, Nat.le_refl _, fun g hg => Nat.lt_of_lt_of_le (h.vU g hg) h.Uw⟩

/-- The arrays that have been made for one cell: a row of their own. -/
structure CovIn (w : World) (D U u : Nat) (W : Value) (ds : Nat → List Value) (T : Nat → Tree) : Prop where
  row : w.ownsRow (U + 1) 26 3 W u (rowsN ds u)
  arrs : ∀ y, y < u → ∃ d0 d1 d2, ds y = [d0, d1, d2] ∧ ArrQ w (fun b => (b < D ∨ U + 1 ≤ b) ∧ some b ≠ W.ownBlock) (T y) d0 d1 d2

theorem CovIn.later {w w' : World} {D U u : Nat} {W : Value} {ds : Nat → List Value} {T : Nat → Tree} (h : CovIn w D U u W ds T) (hb : Below w.heap.size w w') : CovIn w' D U u W ds T :=
  ⟨owns_later h.row hb, fun y hy => by
    obtain ⟨d0, d1, d2, e, k⟩ := h.arrs y hy
    exact ⟨d0, d1, d2, e, ArrQ.keep (fun b _ hb' => hb.block b hb') (fun _ hq _ => hq) _ _ _ _ k⟩⟩

/-- A store into the block ahead leaves it. -/
theorem CovIn.aside {w : World} {D U u : Nat} {W : Value} {ds : Nat → List Value} {T : Nat → Tree} (h : CovIn w D U u W ds T) (hD : D ≤ U) (t : Nat) (v : Value) : CovIn (w.setCell ⟨U, t, none⟩ v) D U u W ds T := by
  have hk : ∀ b, b ≠ U → (w.setCell ⟨U, t, none⟩ v).heap[b]? = w.heap[b]? := fun _ hb => Below.heap_setCell _ _ _ _ hb
  refine ⟨own_but h.row hk fun g hg => ?_, fun y hy => ?_⟩
  · have := (h.row.lt g hg).1; omega
  · obtain ⟨d0, d1, d2, e, k⟩ := h.arrs y hy
    exact ⟨d0, d1, d2, e, ArrQ.keep (fun b hq _ => hk b (by rcases hq.1 with h | h <;> omega)) (fun _ hq _ => hq) _ _ _ _ k⟩

end Go.Proofs.Ytlfilpjiepdejaa

namespace Go.Proofs.Ytlfilpjiepdejaa
open Go.RowKit Num

theorem Box7.set0 {w : World} {B : Nat} {z0 z1 z2 z3 z4 z5 z6 : Value} (h : Box7 w B z0 z1 z2 z3 z4 z5 z6) (v : Value) : Box7 (w.setCell ⟨B, 0, none⟩ v) B v z1 z2 z3 z4 z5 z6 := by
  have ne : ∀ {j k : Nat}, j ≠ k → (⟨B, j, none⟩ : Addr) ≠ ⟨B, k, none⟩ := fun h e => h (by injection e)
  exact ⟨World.cell?_setCell_same _ _ _ h.c0, (cell_set_ne (ne (by decide))).trans h.c1, (cell_set_ne (ne (by decide))).trans h.c2, (cell_set_ne (ne (by decide))).trans h.c3, (cell_set_ne (ne (by decide))).trans h.c4, (cell_set_ne (ne (by decide))).trans h.c5, (cell_set_ne (ne (by decide))).trans h.c6, fun j => by rw [World.frozen?_setCell]; exact h.fr j⟩

theorem Box7.set6 {w : World} {B : Nat} {z0 z1 z2 z3 z4 z5 z6 : Value} (h : Box7 w B z0 z1 z2 z3 z4 z5 z6) (v : Value) : Box7 (w.setCell ⟨B, 6, none⟩ v) B z0 z1 z2 z3 z4 z5 v := by
  have ne : ∀ {j k : Nat}, j ≠ k → (⟨B, j, none⟩ : Addr) ≠ ⟨B, k, none⟩ := fun h e => h (by injection e)
  exact ⟨(cell_set_ne (ne (by decide))).trans h.c0, (cell_set_ne (ne (by decide))).trans h.c1, (cell_set_ne (ne (by decide))).trans h.c2, (cell_set_ne (ne (by decide))).trans h.c3, (cell_set_ne (ne (by decide))).trans h.c4, (cell_set_ne (ne (by decide))).trans h.c5, World.cell?_setCell_same _ _ _ h.c6, fun j => by rw [World.frozen?_setCell]; exact h.fr j⟩

theorem parts_pos (A : Tree) : 1 ≤ partsT A := by
  obtain _ | ⟨S, n, sh, m, L, K, C, N, k, sub⟩ := A
  · exact Nat.le_refl _
  show 1 ≤ 1 + n + sumN (fun i => 1 + (N i).an + (N i).am + sumN (fun j => partsT (sub i j)) (k i)) m
  omega

theorem three_at (w : World) (v0 v1 v2 : Value) (t : TypeId) : ∀ j u, [v0, v1, v2][j]? = some u → (w.alloc (.cells #[v0, v1, v2] t)).cell? ((⟨w.heap.size, 0, none⟩ : Addr).add j) = some u := by
  intro j u h
  match j, h with
  | 0, h => simp at h; subst h; simp [Addr.add]
  | 1, h => simp at h; subst h; simp [Addr.add]
  | 2, h => simp at h; subst h; simp [Addr.add]
  | _ + 3, h => simp at h

theorem seven_at (w : World) (v0 v1 v2 v3 v4 v5 v6 : Value) (t : TypeId) : ∀ j u, [v0, v1, v2, v3, v4, v5, v6][j]? = some u → (w.alloc (.cells #[v0, v1, v2, v3, v4, v5, v6] t)).cell? ((⟨w.heap.size, 0, none⟩ : Addr).add j) = some u := by
  intro j u h
  match j, h with
  | 0, h => simp at h; subst h; simp [Addr.add]
  | 1, h => simp at h; subst h; simp [Addr.add]
  | 2, h => simp at h; subst h; simp [Addr.add]
  | 3, h => simp at h; subst h; simp [Addr.add]
  | 4, h => simp at h; subst h; simp [Addr.add]
  | 5, h => simp at h; subst h; simp [Addr.add]
  | 6, h => simp at h; subst h; simp [Addr.add]
  | _ + 7, h => simp at h

theorem ArrQ.form {w : World} {Q : Nat → Prop} {A : Tree} {c0 c1 c2 : Value} (h : ArrQ w Q A c0 c1 c2) : ∃ (S n nc m mc : Nat) (ao co : Option Addr), c0 = .int .u64 S ∧ c1 = .slice ao n nc ∧ c2 = .slice co m mc := by
  obtain _ | ⟨S, n, sh, m, L, K, C, N, k, sub⟩ := A
  · exact (ArrQ.leaf h).elim
  obtain ⟨rfl, _, ⟨ao, nc, rfl, _⟩, co, mc, rfl, _⟩ := h
  exact ⟨S, n, nc, m, mc, ao, co, rfl, rfl, rfl⟩

theorem own_form {w : World} {B size n : Nat} {e : TypeId} {v : Value} {xs : List Value} (h : w.ownsRow B e size v n xs) : ∃ ao cap, v = .slice ao n cap ∧ n ≤ cap ∧ cap ≤ 9223372036854775807 ∧ (n = 0 ∨ ∃ g, ao = some ⟨g, 0, none⟩ ∧ v.ownBlock = some g ∧ B ≤ g ∧ g < w.heap.size) := by
  rcases h.2 with ⟨rfl, rfl⟩ | ⟨g, cap, cur, rfl, hb, hg, hnc, hcm, hcs, ht⟩
  · exact ⟨none, 0, rfl, Nat.le_refl _, by omega, .inl rfl⟩
  · exact ⟨_, cap, rfl, hnc, by unfold maxLen at hcm; omega, .inr ⟨g, rfl, rfl, hb, (h.lt g rfl).2⟩⟩

theorem CovIn.rowQ {w : World} {D U u : Nat} {ds : Nat → List Value} {T : Nat → Tree} {ao : Option Addr} {cap : Nat} (h : CovIn w D U u (.slice ao u cap) ds T) :
    RowQ w (fun b => b < D ∨ U + 1 ≤ b) ao u (fun j d0 d1 d2 => ArrQ w (fun b => b < D ∨ U + 1 ≤ b) (T j) d0 d1 d2) := by
  obtain ⟨ao', cap', hv, _, _, hf⟩ := own_form h.row
  cases hv
  rcases hf with h0 | ⟨g, rfl, _, hg, _⟩
  · exact .inl h0
  · refine .inr ⟨g, 0, rfl, .inr hg, fun j hj => ?_⟩
    obtain ⟨d0, d1, d2, e, k⟩ := h.arrs j hj
    have hl : ∀ i, i < u → (ds i).length = 3 := fun i hi => by
      obtain ⟨d0, d1, d2, e, _⟩ := h.arrs i hi
      rw [e]; rfl
    have hc : ∀ q, q < 3 → w.cell? ⟨g, j * 3 + q, none⟩ = (ds j)[q]? := fun q hq => by
      have hlt : j * 3 + q < u * 3 := by omega
      rw [h.row.cellAt (j * 3 + q) hlt, rowsN_get u hl j q hj hq]
    refine ⟨d0, d1, d2, ?_, ?_, ?_, ArrQ.keep (fun _ _ _ => rfl) (fun b hq _ => hq.1) _ _ _ _ k⟩
    · rw [Nat.zero_add]; exact (hc 0 (by decide)).trans (by rw [e]; rfl)
    · rw [Nat.zero_add]; exact (hc 1 (by decide)).trans (by rw [e]; rfl)
    · rw [Nat.zero_add]; exact (hc 2 (by decide)).trans (by rw [e]; rfl)

/-- One array more in the row. -/
theorem CovIn.step {w2 w4 : World} {D U u s : Nat} {W : Value} {ds : Nat → List Value} {T : Nat → Tree} (h : CovIn w2 D U u W ds T) (hD : D ≤ U) (hs : ∀ g, W.ownBlock = some g → g < s) (hUs : U + 1 ≤ s) {f0 f1 f2 : Value} (hf : ArrQ w2 (fun b => b < D ∨ s ≤ b) (T u) f0 f1 f2) (o : Obj) {g cap : Nat}
    (hown : w4.ownsRow (U + 1) 26 3 (.slice (some ⟨g, 0, none⟩) (u + 1) cap) (u + 1) (rowsN ds u ++ [f0, f1, f2])) (hgr : (w2.alloc o).grownBy w4 W.ownBlock) (hat : W.ownBlock = some g ∨ g = w2.heap.size + 1) :
    CovIn w4 D U (u + 1) (.slice (some ⟨g, 0, none⟩) (u + 1) cap) (putL ds u [f0, f1, f2]) T := by
  have hk : ∀ b, some b ≠ W.ownBlock → b < w2.heap.size → w4.heap[b]? = w2.heap[b]? := fun b h1 h2 => (hgr.block b (by simp; omega) h1).trans (Lib.alloc_old w2 o b h2)
  have hg : ∀ b, some b ≠ W.ownBlock → b < w2.heap.size → some b ≠ (Value.slice (some ⟨g, 0, none⟩) (u + 1) cap).ownBlock := fun b h1 h2 e => by
    simp only [Value.ownBlock, Option.some.injEq] at e
    rcases hat with k | k
    · exact h1 (by rw [k, e])
    · omega
  rw [rowsN_snoc] at hown
  refine ⟨hown, fun y hy => ?_⟩
  by_cases e : y = u
  · subst e
    have hne : ∀ b, (b < D ∨ s ≤ b) → some b ≠ W.ownBlock := fun b hb k => by
      have k1 := hs b k.symm
      have k2 := (h.row.lt b k.symm).1
      omega
    refine ⟨f0, f1, f2, by unfold putL; rw [if_pos rfl], ArrQ.keep (fun b hq hb => hk b (hne b hq) hb) (fun b hq hb => ⟨?_, hg b (hne b hq) hb⟩) _ _ _ _ hf⟩
    rcases hq with hq | hq
    · exact .inl hq
    · exact .inr (by omega)
  · obtain ⟨d0, d1, d2, e1, k⟩ := h.arrs y (by omega)
    exact ⟨d0, d1, d2, by unfold putL; rw [if_neg e]; exact e1, ArrQ.keep (fun b hq hb => hk b hq.2 hb) (fun b hq hb => ⟨hq.1, hg b hq.2 hb⟩) _ _ _ _ k⟩

/-- One cell more. -/
theorem Cov.step {F : CellF} (hF : KeepF F) {D U : Nat} {w wk w5 : World} {a0 a1 a2 o0 : Value} {t : Nat} {V : Value} {es : Nat → List Value} (h : Cov F D U w wk a0 a1 a2 o0 t V es) (o : Obj) {g cap : Nat} {x : List Value} (hx : x.length = 7)
    (hown : w5.ownsRow (w.heap.size + 3) 32 7 (.slice (some ⟨g, 0, none⟩) (t + 1) cap) (t + 1) (rowsN es t ++ x)) (hgr : (wk.alloc o).grownBy w5 V.ownBlock) (hat : V.ownBlock = some g ∨ g = wk.heap.size + 1)
    (hnew : F t wk (fun b => b < D ∨ U + 1 ≤ b) (fun q => x.getD q undef)) :
    Cov F D w5.heap.size w (w5.setCell ⟨w.heap.size + 2, 2, none⟩ (.slice (some ⟨g, 0, none⟩) (t + 1) cap)) a0 a1 a2 o0 (t + 1) (.slice (some ⟨g, 0, none⟩) (t + 1) cap) (putL es t x) := by
  have hsU := h.sU; have hUw := h.Uw; have hdS := h.dS
  have hg3 : w.heap.size + 3 ≤ g ∧ g < w5.heap.size := hown.lt g rfl
  have hV : ∀ b, some b = V.ownBlock → w.heap.size + 3 ≤ b ∧ b < U := fun b e => ⟨(h.row.lt b e.symm).1, h.vU b e.symm⟩
  have hk1 : ∀ b, some b ≠ V.ownBlock → b < wk.heap.size → w5.heap[b]? = wk.heap[b]? := fun b h1 h2 => (hgr.block b (by simp; omega) h1).trans (Lib.alloc_old wk o b h2)
  have hk2 : ∀ b, b ≠ w.heap.size + 2 → (w5.setCell ⟨w.heap.size + 2, 2, none⟩ (.slice (some ⟨g, 0, none⟩) (t + 1) cap)).heap[b]? = w5.heap[b]? := fun b hb => Below.heap_setCell _ _ _ _ hb
  have hb3 : Below (w.heap.size + 3) wk w5 := ((Below.refl _ wk).alloc (by omega) o).grown hgr (by simp; omega) (fun q hq => (h.row.lt q hq).1)
  have hk : ∀ b, (b < D ∨ w.heap.size + 3 ≤ b) → some b ≠ V.ownBlock → b < wk.heap.size → (w5.setCell ⟨w.heap.size + 2, 2, none⟩ (.slice (some ⟨g, 0, none⟩) (t + 1) cap)).heap[b]? = wk.heap[b]? := fun b h1 h2 h3 => (hk2 b (by rcases h1 with h1 | h1 <;> omega)).trans (hk1 b h2 h3)
  have hng : ∀ b, some b ≠ V.ownBlock → b < wk.heap.size → some b ≠ (Value.slice (some ⟨g, 0, none⟩) (t + 1) cap).ownBlock := fun b h1 h2 e => by
    simp only [Value.ownBlock, Option.some.injEq] at e
    rcases hat with k | k
    · exact h1 (by rw [k, e])
    · omega
  have hsz : wk.heap.size ≤ w5.heap.size := hb3.size
  refine ⟨(h.box.below hb3 (by omega)).aside (by omega) _ _, (h.zer.below hb3 (by omega)).aside (by omega) _ _, ?_, own_but (by rw [rowsN_snoc] at hown; exact hown) hk2 (fun q hq => by have e : g = q := Option.some.inj hq; omega), fun y hy => ?_, (h.bel.trans (hb3.mono (by omega))).setCell (p := ⟨w.heap.size + 2, 2, none⟩) (by show w.heap.size ≤ w.heap.size + 2; omega) _, hdS, by omega, by simp [World.setCell], fun q hq => by cases hq; exact hg3.2⟩
  · have x3 := h.out.below hb3 (by omega)
    have ne : ∀ {j k : Nat}, j ≠ k → (⟨w.heap.size + 2, j, none⟩ : Addr) ≠ ⟨w.heap.size + 2, k, none⟩ := fun h e => h (by injection e)
    exact ⟨(cell_set_ne (ne (by decide))).trans x3.c0, (cell_set_ne (ne (by decide))).trans x3.c1, World.cell?_setCell_same _ _ _ x3.c2, fun j => by rw [World.frozen?_setCell]; exact x3.fr j⟩
  · by_cases e : y = t
    · subst e
      have hne : ∀ b, (b < D ∨ U + 1 ≤ b) → some b ≠ V.ownBlock := fun b hb k => by have := hV b k; omega
      unfold putL
      rw [if_pos rfl]
      exact ⟨hx, hF y _ _ _ _ _ hnew (fun b hq hb => hk b (by omega) (hne b hq) hb) fun b hq hb => ⟨by omega, hng b (hne b hq) hb, by omega⟩⟩
    · unfold putL
      rw [if_neg e]
      obtain ⟨k1, k2⟩ := h.cells y (by omega)
      exact ⟨k1, hF y _ _ _ _ _ k2 (fun b hq hb => hk b hq.1 hq.2.1 hb) fun b hq hb => ⟨hq.1, hng b hq.2.1 hb, by omega⟩⟩

/-- What has been made, as it lies. -/
theorem Cov.result {l : Nat} {er : Bool} {S n m nc : Nat} {sh : Nat → Int} {L : Nat → Nat} {K C : Nat → Int} {N : Nat → NumF} {k : Nat → Nat} {sub : Nat → Nat → Tree} {D U : Nat} {w wr : World} {a0 a2 : Value} {ao : Option Addr} {V : Value} {es : Nat → List Value}
    (h : Cov (coverF l er L K C N k sub) D U w wr a0 (.slice ao n nc) a2 (.int .u64 (labB er S l : Nat)) m V es) (hS : IsL (labB er S l)) (hn : IsN n nc) (hm : m ≤ 4000) (hsh : SlZQ w (· < D) ao n sh) (hz : ∀ j, j < n → IsZ (sh j)) :
    ArrQ wr (fun b => b < D ∨ w.heap.size + 3 ≤ b) (coverT (.arr S n sh m L K C N k sub) l er) (.int .u64 (labB er S l : Nat)) (.slice ao n nc) V := by
  have hdS := h.dS
  obtain ⟨co, cap, rfl, h1, h2, hf⟩ := own_form h.row
  refine ⟨rfl, hS, ⟨ao, nc, rfl, hn, hsh.keep (fun b _ hb => h.bel.block b hb) (fun b hq _ => .inl hq), hz⟩, co, cap, rfl, ⟨h1, h2, by omega⟩, ?_⟩
  rcases hf with h0 | ⟨g, rfl, hg0, hg, _⟩
  · exact .inl h0
  · refine .inr ⟨g, 0, rfl, .inr hg, fun i hi => ?_⟩
    obtain ⟨k1, k2⟩ := h.cells i hi
    refine ⟨fun q => (es i).getD q undef, fun q hq => ?_, coverF_keep l er L K C N k sub i _ _ _ _ _ k2 (fun _ _ _ => rfl) fun b hq _ => hq.1⟩
    have hlt : i * 7 + q < m * 7 := by omega
    rw [Nat.zero_add, h.row.cellAt (i * 7 + q) hlt, rowsN_get m (fun i hi => (h.cells i hi).1) i q hi hq]
    show (es i)[q]? = some ((es i).getD q undef)
    rw [List.getD_eq_getElem?_getD, List.getElem?_eq_getElem (by omega)]
    rfl

end Go.Proofs.Ytlfilpjiepdejaa

namespace Go.Proofs.Ytlfilpjiepdejaa
open Go.RowKit Num

/-- What a call that makes an array tells. -/
def TreePost (T : Tree) (w : World) (e : Ending) (w' : World) : Prop := ∃ d0 d1 d2, e = .returned (.agg #[d0, d1, d2]) ∧ ArrP w' T d0 d1 d2 ∧ Below w.heap.size w w'

/-- Two arrays match: they are the same without labels. -/
def MatchT (A B : Tree) : Prop := SameT (coverT A 0 true) (coverT B 0 true)

end Go.Proofs.Ytlfilpjiepdejaa

namespace Go.Proofs.Ytlfilpjiepdejaa
open Go.RowKit

def functionsZ : List Int := [43, 45, 215, 247, 8968, 8970, 124, 42, 33, 126, 60, 8804, 61, 8805, 62, 8800, 8743, 8744, 9076, 44, 9066, 9021, 8854, 9033, 8593, 8595, 8834, 8835, 8801, 8802, 9075, 8714, 8746, 8745, 9080, 9035, 9042, 8866, 8867]

def operatorsZ : List Int := [47, 9023, 92, 9024, 168, 9064, 9060, 9059, 8728, 46]

def marksZ : List Int := [40, 41, 91, 93, 123, 125, 59, 58, 8900, 8592, 9082, 9077, 8711, 9109, 9054, 39, 9053]

def ListPost (L : List Int) (w : World) (e : Ending) (w' : World) : Prop :=
  ∃ B, e = .returned (.slice (some ⟨B, 0, none⟩) L.length L.length) ∧ SlZ w' (some ⟨B, 0, none⟩) L.length (fun j => L.getD j 0) ∧ Below w.heap.size w w'

theorem memZ_list (L : List Int) (c : Int) : MemZ (fun j => L.getD j 0) L.length c ↔ c ∈ L := by
  unfold MemZ
  rw [List.mem_iff_getElem]
  constructor
  · rintro ⟨j, hj, h⟩
    refine ⟨j, hj, ?_⟩
    rw [← h]
    show L[j] = L.getD j 0
    rw [List.getD_eq_getElem?_getD, List.getElem?_eq_getElem hj]
    rfl
  · rintro ⟨j, hj, h⟩
    refine ⟨j, hj, ?_⟩
    show L.getD j 0 = c
    rw [← h, List.getD_eq_getElem?_getD, List.getElem?_eq_getElem hj]
    rfl

/-- A number's class, as chapter 6 says it. -/
def classZ (c : Int) : Int :=
  if c = 32 ∨ c = 9 then 1 else if (97 ≤ c ∧ c ≤ 122) ∨ (65 ≤ c ∧ c ≤ 90) ∨ c = 95 then 2 else if (48 ≤ c ∧ c ≤ 57) ∨ c = 175 then 3 else
  if c ∈ functionsZ then 4 else if c ∈ operatorsZ then 5 else if c ∈ marksZ then 6 else 0

/-- Is there such a character? -/
def mayZ (c : Int) : Bool := decide (0 ≤ c) && decide (c ≤ 1114111) && (decide (c < 55296) || decide (57343 < c))

end Go.Proofs.Ytlfilpjiepdejaa

namespace Go.Proofs.Ytlfilpjiepdejaa
open Go.RowKit

theorem class_1 {c : Int} (h : c = 32 ∨ c = 9) : classZ c = 1 := if_pos h

theorem class_2 {c : Int} (h : ¬ (c = 32 ∨ c = 9)) (k : (97 ≤ c ∧ c ≤ 122) ∨ (65 ≤ c ∧ c ≤ 90) ∨ c = 95) : classZ c = 2 := (if_neg h).trans (if_pos k)

theorem class_3 {c : Int} (h : ¬ (c = 32 ∨ c = 9)) (k : ¬ ((97 ≤ c ∧ c ≤ 122) ∨ (65 ≤ c ∧ c ≤ 90) ∨ c = 95)) (l : (48 ≤ c ∧ c ≤ 57) ∨ c = 175) : classZ c = 3 := (if_neg h).trans ((if_neg k).trans (if_pos l))

theorem class_4 {c : Int} (h : ¬ (c = 32 ∨ c = 9)) (k : ¬ ((97 ≤ c ∧ c ≤ 122) ∨ (65 ≤ c ∧ c ≤ 90) ∨ c = 95)) (l : ¬ ((48 ≤ c ∧ c ≤ 57) ∨ c = 175)) :
    classZ c = if c ∈ functionsZ then 4 else if c ∈ operatorsZ then 5 else if c ∈ marksZ then 6 else 0 := (if_neg h).trans ((if_neg k).trans (if_neg l))

end Go.Proofs.Ytlfilpjiepdejaa
