/-
  scrimref07.Places: the places of all cells, in order.
-/
import Derived.Test.YtolfbelhbnonpaaIc
namespace Go.Proofs.Ytolfbelhbnonpaa
open Go.RowKit

theorem prodZ_nonneg {f : Nat → Int} : ∀ n, (∀ j, j < n → 0 ≤ f j) → 0 ≤ prodZ f n
  | 0, _ => by show (0 : Int) ≤ 1; decide
  | n + 1, h => Int.mul_nonneg (prodZ_nonneg n fun j hj => h j (by omega)) (h n (by omega))

theorem Shape.nonneg {f : Nat → Int} {n : Nat} {N : Int} (h : Shape f n N) : 0 ≤ N := by rw [h.all]; exact prodZ_nonneg n h.low

/-- Of a shape with a cell no length is 0. -/
theorem Shape.pos {f : Nat → Int} {n : Nat} {N : Int} (h : Shape f n N) (k : 0 < N) : ∀ j, j < n → 0 < f j := by
  intro j hj
  have h1 := h.low j hj
  have h2 : f j ≠ 0 := fun e => by have := h.all; rw [prodZ_zero e n hj] at this; omega
  omega

theorem infoRow : (Try.prog.info? 22).map (fun i => (i.zero, i.size, i.bytes)) = some (some (.slice none 0 0), 1, 24) := by kernel_rfl

theorem made_zeros (n : Nat) : (madeCells #[Value.int .i64 0] n).toList = intCells (fun _ => 0) n := by
  rw [toList_madeCells_one]
  refine List.ext_getElem? fun j => ?_
  by_cases hj : j < n
  · rw [intCells_get _ _ _ hj]; simp [hj]
  · rw [List.getElem?_eq_none (by simp; omega), List.getElem?_eq_none (by rw [intCells_length]; omega)]

/-- Rows of two kinds lie apart. -/
theorem own_apart {w : World} {B C s1 s2 n m : Nat} {t u : TypeId} {v x : Value} {xs ys : List Value} (h : w.ownsRow B t s1 v n xs) (k : w.ownsRow C u s2 x m ys) (ne : t ≠ u) : v.ownBlock = none ∨ v.ownBlock ≠ x.ownBlock := by
  rcases h.2 with ⟨rfl, _⟩ | ⟨g, cap, cur, rfl, _, hg, _⟩
  · exact .inl rfl
  · rcases k.2 with ⟨rfl, _⟩ | ⟨g', cap', cur', rfl, _, hg', _⟩
    · exact .inr (by simp [Value.ownBlock])
    · refine .inr fun e => ?_
      simp only [Value.ownBlock, Option.some.injEq] at e
      subst e
      rw [hg] at hg'
      cases hg'
      exact ne rfl

/-- A row of values. -/
def valCells (vs : Nat → Value) (n : Nat) : List Value := (List.range n).map vs

theorem valCells_length (vs : Nat → Value) (n : Nat) : (valCells vs n).length = n := by simp [valCells]

theorem valCells_get (vs : Nat → Value) (n j : Nat) (h : j < n) : (valCells vs n)[j]? = some (vs j) := by simp [valCells, h]

def putV (vs : Nat → Value) (i : Nat) (x : Value) (j : Nat) : Value := if j = i then x else vs j

theorem valCells_snoc (vs : Nat → Value) (j : Nat) (x : Value) : valCells vs j ++ [x] = valCells (putV vs j x) (j + 1) := by
  unfold valCells
  rw [List.range_succ, List.map_append]
  congr 1
  · refine List.map_congr_left fun t ht => ?_
    have := List.mem_range.1 ht
    unfold putV
    rw [if_neg (by omega)]
  · simp [putV]

/-- A row that a call has made is the place of a cell. -/
def RowIs (B : Nat) (f : Nat → Int) (n : Nat) (w : World) (v : Value) (c : Int) : Prop := ∃ g, w.ownsRow B 3 1 v n (intCells g n) ∧ PlaceIs f g n c

/-- The places of all cells, or none: Count tells an error. -/
def PlacesPost (f : Nat → Int) (n : Nat) (w : World) (e : Ending) (w' : World) : Prop :=
  ∃ (ao : Option Addr) (N nc : Nat) (vs : Nat → Value), e = .returned (.slice ao N nc) ∧ N ≤ nc ∧ nc ≤ 9223372036854775807 ∧ ((N = 0 ∧ ∀ M, ¬ Shape f n M) ∨ Shape f n N) ∧
    (N = 0 ∨ ∃ g, ao = some ⟨g, 0, none⟩ ∧ ∀ j, j < N → w'.cell? ⟨g, j, none⟩ = some (vs j)) ∧ (∀ j, j < N → RowIs w.heap.size f n w' (vs j) j) ∧ Below w.heap.size w w'

theorem own_vals {w : World} {B n : Nat} {t : TypeId} {v : Value} {vs : Nat → Value} (h : w.ownsRow B t 1 v n (valCells vs n)) : ∃ ao cap, v = .slice ao n cap ∧ n ≤ cap ∧ cap ≤ 9223372036854775807 ∧ (n = 0 ∨ ∃ g, ao = some ⟨g, 0, none⟩ ∧ ∀ j, j < n → w.cell? ⟨g, j, none⟩ = some (vs j)) := by
  rcases h.2 with ⟨rfl, rfl⟩ | ⟨g, cap, cur, hv, hb, hg, hnc, hcm, hcs, ht⟩
  · exact ⟨none, 0, rfl, Nat.le_refl _, by omega, .inl rfl⟩
  · subst hv
    exact ⟨_, cap, rfl, hnc, by unfold maxLen at hcm; omega, .inr ⟨g, rfl, fun j hj => by rw [h.cellAt j (by omega), valCells_get vs n j hj]⟩⟩

theorem RowIs.kept {B n : Nat} {f : Nat → Int} {w w' : World} {v : Value} {c : Int} (h : RowIs B f n w v c) {C m : Nat} {x : Value} {ys : List Value} (hx : w.ownsRow C 22 1 x m ys) (hg : w.grownBy w' x.ownBlock) : RowIs B f n w' v c := by
  obtain ⟨g, h1, h2⟩ := h
  exact ⟨g, h1.kept hg (own_apart h1 hx (by decide)), h2⟩

theorem RowIs.later {B n : Nat} {f : Nat → Int} {w w' : World} {v : Value} {c : Int} (h : RowIs B f n w v c) (hb : Below w.heap.size w w') : RowIs B f n w' v c := by
  obtain ⟨g, h1, h2⟩ := h
  exact ⟨g, owns_later h1 hb, h2⟩

set_option maxRecDepth 20000 in
set_option maxHeartbeats 4000000 in
theorem places7_any (so : Option Addr) (n nc : Nat) (f : Nat → Int) (w : World) (hn : n ≤ 9223372036854775807) (hf : SlZ w so n f) :
    Calls Try.prog 13 #[.slice so n nc] w (PlacesPost f n w) := by
  obtain ⟨i64, hi0, hz0, hz1, hz2⟩ := info_parts info64
  obtain ⟨iR, hr0, hq0, hq1, hq2⟩ := info_parts infoRow
  have hf' := Lib.hid hf
  go_enter Try.func13, Try.ntmps13
  go_wp2_with fail
  refine (count7_any so n nc f w hn hf).mono ?_
  rintro e w1 ⟨⟨N, E, rfl, hC⟩, rfl⟩
  clear hf
  by_cases hE : E = 0
  · have hS := hC.shape hE
    subst hE
    have hS' := Lib.hid hS
    have hn6 := hS.rank
    have hN0 : 0 ≤ N := hS.nonneg
    obtain ⟨M, rfl⟩ := Int.eq_ofNat_of_zero_le hN0
    have hM : M ≤ 2048 := by have := hS.most; omega
    clear hS hC hN0
    go_wp2_with (at_make; refine wpList_make_full _ rfl (.tmp 16) (.tmp 16) 22 rfl w.heap.size 3 i64 (.int .i64 0) 1 Try.underlying22 hi0 hz0 hz1 .i64 .i64 _ _ n rfl rfl rfl rfl (by rw [hz2]; omega) (by unfold maxLen; omega) (Nat.le_refl _) ?_)
    intro w1 hown hgr
    have e1 := made_zeros n
    rw [e1] at hown
    clear e1
    have hb := Lib.hid ((Below.refl w.heap.size w).grown hgr (Nat.le_refl _) (fun q hq => by cases hq))
    have hown' := Lib.hid hown
    clear hown hgr
    go_wp2_with fail
    go_loopw [5, 6, 7] (fun out at' i wr => ∃ (j : Nat) (vs : Nat → Value) (h : Nat → Int), j ≤ M ∧ i = .int .i64 j ∧ Hid (wr.ownsRow w.heap.size 22 1 out j (valCells vs j)) ∧ Hid (∀ t, t < j → RowIs w.heap.size f n wr (vs t) t) ∧ Hid (wr.ownsRow w.heap.size 3 1 at' n (intCells h n)) ∧ Hid (j < M → PlaceIs f h n j) ∧ Hid (Below w.heap.size w wr)) (fun _ _ i _ => M - (intOfZ i).toNat)
    case atStart => exact ⟨0, fun _ => .bool false, fun _ => 0, Nat.zero_le _, rfl, Lib.hid (World.ownsRow_nil _ _ _ _), Lib.hid fun t h => by omega, hown', Lib.hid fun h => place_zero (hS'.out.pos (by omega)), hb⟩
    case round =>
      obtain ⟨j, vs, h, hj, rfl, ho, hrow, hat, hpl, hbr⟩ := hrel
      clear hown' hb
      by_cases hlt : j < M
      · obtain ⟨ao, cap, rfl, k1, k2, k3⟩ := owns_ints hat.out
        have hz3 := Lib.hid k3
        have hP := Lib.hid (hpl.out hlt)
        clear k3
        have hnews : ∀ (W : World) (u : Value), ∀ q x, [u][q]? = some x → (W.alloc (.cells #[u] 22)).cell? ((⟨W.heap.size, 0, none⟩ : Addr).add q) = some x := fun W u => newz_at W u _
        go_wp2_with (at_builtin; refine wpList_append_own _ rfl (.tmp 23) (.tmp 25) 35 rfl w.heap.size 22 iR (.slice none 0 0) 1 24 Try.underlying35 hr0 hq0 hq1 hq2 rfl (by decide) _ j (valCells vs j) rfl (ho.out.alloc _) ⟨wr.heap.size, 0, none⟩ 1 1 [.slice ao n cap] rfl rfl (hnews wr _) (by intro u hu; simp at hu; subst hu; rfl) (by unfold maxLen; omega) (by omega) (by have := hbr.out.size; simp; omega) ?_)
        intro v' w3 hown3 hgr hnil3
        rw [valCells_snoc] at hown3
        have ho3 := Lib.hid hown3
        have hrow3 := Lib.hid (show ∀ t, t < j + 1 → RowIs w.heap.size f n w3 (putV vs j (.slice ao n cap) t) t from fun t ht => by
          have hA := ho.out.alloc (.cells #[.slice ao n cap] 22)
          by_cases e : t = j
          · subst e
            unfold putV
            rw [if_pos rfl]
            exact RowIs.kept (w := wr.alloc (.cells #[.slice ao n cap] 22)) ⟨h, hat.out.alloc _, hP.out⟩ hA hgr
          · unfold putV
            rw [if_neg e]
            obtain ⟨g, r1, r2⟩ := hrow.out t (by omega)
            exact RowIs.kept (w := wr.alloc (.cells #[.slice ao n cap] 22)) ⟨g, r1.alloc _, r2⟩ hA hgr)
        have hb3 := Lib.hid ((hbr.out.alloc hbr.out.size _).grown hgr (by have := hbr.out.size; simp; omega) (fun q hq => (ho.out.lt q hq).1))
        have hat3 := Lib.hid ((hat.out.alloc (.cells #[.slice ao n cap] 22)).kept hgr (own_apart (hat.out.alloc (.cells #[.slice ao n cap] 22)) (ho.out.alloc (.cells #[.slice ao n cap] 22)) (by decide)))
        have hz4 := Lib.hid (own_slz hat3.out).2.2
        clear hown3 hgr hnil3 ho hrow hat hbr hz3
        go_wp2_with fail
        refine (next7_any so n nc f ao cap h w3 hn6 (hf'.out.below hb3.out) hz4.out hS'.out.high hP.out.1).mono ?_
        rintro e w4 ⟨v4, h4, rfl, ho4, hb4, hR⟩
        have hown5 := Lib.hid (owns_later ho3.out hb4)
        have hrow5 := Lib.hid (fun t ht => (hrow3.out t ht).later hb4)
        have hat5 := Lib.hid (own_base ho4 hb3.out.size)
        have hb5 := Lib.hid (hb3.out.trans (hb4.mono hb3.out.size))
        have hpl5 := Lib.hid (show j + 1 < M → PlaceIs f h4 n ((j + 1 : Nat) : Int) from fun hl => by
          have e2 := hP.out.2
          rw [e2] at hR
          have := hR (by have := hS'.out.all; omega)
          rw [show ((j + 1 : Nat) : Int) = (j : Int) + 1 by omega]
          exact this)
        clear ho4 hb4 hR ho3 hrow3 hat3 hb3 hz4
        go_wp2_with fail
        go_roundw
        case rel => exact ⟨j + 1, _, h4, by omega, by go_num, hown5, hrow5, hat5, hpl5, hb5⟩
        case measure => simp [intOfZ]; omega
      · obtain rfl : j = M := by omega
        obtain ⟨ao, cap, rfl, k1, k2, k3⟩ := own_vals ho.out
        have k3' := Lib.hid k3
        clear k3
        go_wp2_with fail
        go_ret
        exact ⟨ao, j, cap, vs, rfl, k1, k2, .inr hS'.out, k3'.out, hrow.out, hbr.out⟩
  · obtain ⟨rfl, he, hno⟩ := hC.none hE
    have hE' : (E != 0) = true := by rw [bne_iff_ne]; exact hE
    have hno' := Lib.hid hno
    clear hC he hno hE
    go_wp2_with fail
    go_ret
    exact ⟨none, 0, 0, fun _ => .bool false, rfl, Nat.le_refl _, by omega, .inl ⟨rfl, hno'.out⟩, .inl rfl, fun j hj => by omega, Below.refl _ _⟩

end Go.Proofs.Ytolfbelhbnonpaa
