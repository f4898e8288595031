/-
  Shapes, plain: how many cells there are, or the error; which place is which cell. scrimref07.Ints, Count.
-/
import Derived.Test.YtolfbelhbnonpaaHa
import Derived.Deep.RegionHeld3
namespace Go.Proofs.Ytolfbelhbnonpaa
open Go.RowKit

/-- The product of the first lengths. -/
def prodZ (f : Nat → Int) : Nat → Int
  | 0 => 1
  | n + 1 => prodZ f n * f n

theorem prodZ_pos {f : Nat → Int} : ∀ n, (∀ j, j < n → 1 ≤ f j) → 1 ≤ prodZ f n
  | 0, _ => by show (1 : Int) ≤ 1; decide
  | n + 1, h => by
    have a := prodZ_pos n fun j hj => h j (by omega)
    have b := h n (by omega)
    show 1 ≤ prodZ f n * f n
    have := Int.mul_le_mul a b (by decide) (by omega)
    omega

theorem prodZ_mono {f : Nat → Int} {m : Nat} : ∀ n, (∀ j, j < n → 1 ≤ f j) → m ≤ n → prodZ f m ≤ prodZ f n
  | 0, _, h => by
    obtain rfl : m = 0 := by omega
    exact Int.le_refl _
  | n + 1, h, hm => by
    by_cases e : m = n + 1
    · subst e; exact Int.le_refl _
    · have a := prodZ_mono (m := m) n (fun j hj => h j (by omega)) (by omega)
      have p := prodZ_pos n fun j hj => h j (by omega)
      have b := h n (by omega)
      show prodZ f m ≤ prodZ f n * f n
      have := Int.mul_le_mul_of_nonneg_left b (show 0 ≤ prodZ f n by omega)
      omega

theorem prodZ_zero {f : Nat → Int} {j : Nat} (hj : f j = 0) : ∀ n, j < n → prodZ f n = 0
  | 0, h => by omega
  | n + 1, h => by
    show prodZ f n * f n = 0
    by_cases e : j = n
    · rw [← e, hj, Int.mul_zero]
    · rw [prodZ_zero hj n (by omega), Int.zero_mul]

theorem prodZ_congr {f g : Nat → Int} : ∀ n, (∀ j, j < n → f j = g j) → prodZ f n = prodZ g n
  | 0, _ => rfl
  | n + 1, h => by
    show prodZ f n * f n = prodZ g n * g n
    rw [prodZ_congr n fun j hj => h j (by omega), h n (by omega)]

/-- How many cells a shape has, or the error (3: Domain, 7: Limit). -/
def CountIs (f : Nat → Int) (n : Nat) (N e : Int) : Prop :=
  (6 < n ∧ N = 0 ∧ e = 7) ∨ (n ≤ 6 ∧ (((∃ j, j < n ∧ f j < 0) ∧ N = 0 ∧ e = 3) ∨ ((∀ j, j < n → 0 ≤ f j) ∧
    (((∃ j, j < n ∧ 2048 < f j) ∧ N = 0 ∧ e = 7) ∨ ((∀ j, j < n → f j ≤ 2048) ∧ ((2048 < prodZ f n ∧ N = 0 ∧ e = 7) ∨ (prodZ f n ≤ 2048 ∧ N = prodZ f n ∧ e = 0)))))))

theorem CountIs.uniq {f g : Nat → Int} {n : Nat} {N M e d : Int} (a : CountIs f n N e) (h : ∀ j, j < n → f j = g j) (b : CountIs g n M d) : N = M ∧ e = d := by
  have hp := prodZ_congr n h
  rcases a with ⟨a1, a2, a3⟩ | ⟨a1, ⟨⟨j, hj, a2⟩, a3, a4⟩ | ⟨a2, ⟨⟨j, hj, a3⟩, a4, a5⟩ | ⟨a3, ⟨a4, a5, a6⟩ | ⟨a4, a5, a6⟩⟩⟩⟩ <;>
  rcases b with ⟨b1, b2, b3⟩ | ⟨b1, ⟨⟨k, hk, b2⟩, b3, b4⟩ | ⟨b2, ⟨⟨k, hk, b3⟩, b4, b5⟩ | ⟨b3, ⟨b4, b5, b6⟩ | ⟨b4, b5, b6⟩⟩⟩⟩ <;>
  first
  | omega
  | (have := b2 j hj; have := h j hj; omega)
  | (have := a2 k hk; have := h k hk; omega)
  | (have := b3 j hj; have := h j hj; omega)
  | (have := a3 k hk; have := h k hk; omega)

/-- A shape of which Count tells no error. -/
structure Shape (f : Nat → Int) (n : Nat) (N : Int) : Prop where
  rank : n ≤ 6
  low : ∀ j, j < n → 0 ≤ f j
  high : ∀ j, j < n → f j ≤ 2048
  all : N = prodZ f n
  most : N ≤ 2048

theorem CountIs.shape {f : Nat → Int} {n : Nat} {N e : Int} (a : CountIs f n N e) (h : e = 0) : Shape f n N := by
  rcases a with ⟨a1, a2, a3⟩ | ⟨a1, ⟨⟨j, hj, a2⟩, a3, a4⟩ | ⟨a2, ⟨⟨j, hj, a3⟩, a4, a5⟩ | ⟨a3, ⟨a4, a5, a6⟩ | ⟨a4, a5, a6⟩⟩⟩⟩
  any_goals omega
  exact ⟨a1, a2, a3, a5, by omega⟩

theorem CountIs.none {f : Nat → Int} {n : Nat} {N e : Int} (a : CountIs f n N e) (h : e ≠ 0) : N = 0 ∧ (e = 3 ∨ e = 7) ∧ ∀ M, ¬ Shape f n M := by
  rcases a with ⟨a1, a2, a3⟩ | ⟨a1, ⟨⟨j, hj, a2⟩, a3, a4⟩ | ⟨a2, ⟨⟨j, hj, a3⟩, a4, a5⟩ | ⟨a3, ⟨a4, a5, a6⟩ | ⟨a4, a5, a6⟩⟩⟩⟩
  · exact ⟨a2, .inr a3, fun M k => by have := k.rank; omega⟩
  · exact ⟨a3, .inl a4, fun M k => by have := k.low j hj; omega⟩
  · exact ⟨a4, .inr a5, fun M k => by have := k.high j hj; omega⟩
  · exact ⟨a5, .inr a6, fun M k => by have := k.all; have := k.most; omega⟩
  · exact absurd a6 h

theorem Shape.countIs {f : Nat → Int} {n : Nat} {N : Int} (a : Shape f n N) : CountIs f n N 0 :=
  .inr ⟨a.rank, .inr ⟨a.low, .inr ⟨a.high, .inr ⟨by have := a.all; have := a.most; omega, a.all, rfl⟩⟩⟩⟩

set_option maxRecDepth 20000 in
set_option maxHeartbeats 1000000 in
theorem ints7_any (ao bo : Option Addr) (n nc m mc : Nat) (f g : Nat → Int) (w : World) (hn : n ≤ 9223372036854775807) (hf : SlZ w ao n f) (hg : SlZ w bo m g) :
    Calls Try.prog 14 #[.slice ao n nc, .slice bo m mc] w fun e w' => (e = .returned (.bool true) ∧ SameZ n m f g ∨ e = .returned (.bool false) ∧ ¬ SameZ n m f g) ∧ Below w.heap.size w w' := by
  by_cases hnm : n = m
  · subst hnm
    go_enter Try.func14, Try.ntmps14
    go_wp2_with fail
    go_loopw [5] (fun i wr => ∃ j : Nat, j ≤ n ∧ i = .int .i64 j ∧ Hid (∀ t, t < j → f t = g t) ∧ ∃ q, wr = w.drewN q) (fun i _ => n - (intOfZ i).toNat)
    case atStart => exact ⟨0, Nat.zero_le _, rfl, Lib.hid fun t h => by omega, 0, rfl⟩
    case round =>
      obtain ⟨j, hj, rfl, hd, q, rfl⟩ := hrel
      by_cases hlt : j < n
      · rcases hf with h | ⟨b, off, rfl, hc⟩
        · omega
        rcases hg with h | ⟨b', off', rfl, hc'⟩
        · omega
        have c1 := hc j hlt
        have c2 := hc' j hlt
        clear hc hc'
        have i0 : (0 : Int) ≤ (j : Int) := by omega
        have i1 : (j : Int) < (n : Int) := by omega
        by_cases he : f j = g j
        · have heb : (f j != g j) = false := by rw [bne_eq_false_iff_eq]; exact he
          have he' := Lib.hid he
          clear he
          go_wp2_with fail
          go_quiet (fail)
          go_wp2_with fail
          go_roundw
          case rel =>
            refine ⟨j + 1, by omega, by go_num, Lib.hid fun t ht => ?_, _, rfl⟩
            by_cases e : t = j
            · rw [e]; exact he'.out
            · exact hd.out t (by omega)
          case measure => simp [intOfZ]; omega
        · have heb : (f j != g j) = true := by rw [bne_iff_ne]; exact he
          have he' := Lib.hid he
          clear he
          go_wp2_with fail
          go_quiet (fail)
          go_wp2_with fail
          go_ret
          exact ⟨.inr ⟨rfl, fun ⟨_, h⟩ => he'.out (h j hlt)⟩, below_drewN (below_drewN (Below.refl _ _) _) _⟩
      · obtain rfl : j = n := by omega
        go_wp2_with fail
        go_ret
        exact ⟨.inl ⟨rfl, rfl, hd.out⟩, below_drewN (Below.refl _ _) _⟩
  · have hnb : ((n : Int) != (m : Int)) = true := by rw [bne_iff_ne]; omega
    have hnm' := Lib.hid hnm
    have hnp : ¬ ((n : Int) = (m : Int)) := by omega
    clear hnm
    go_enter Try.func14, Try.ntmps14
    go_wp2_with fail
    go_ret
    exact ⟨.inr ⟨rfl, fun ⟨h, _⟩ => hnm'.out h⟩, Below.refl _ _⟩


set_option maxRecDepth 20000 in
set_option maxHeartbeats 4000000 in
theorem count7_any (ao : Option Addr) (n nc : Nat) (f : Nat → Int) (w : World) (hn : n ≤ 9223372036854775807) (hf : SlZ w ao n f) :
    Calls Try.prog 8 #[.slice ao n nc] w fun e w' => (∃ N E : Int, e = .returned (.tuple #[.int .i64 N, .int .i64 E]) ∧ CountIs f n N E) ∧ w = w' := by
  by_cases h6 : 6 < n
  · have h6' : (6 : Int) < (n : Int) := by omega
    go_enter Try.func8, Try.ntmps8
    go_wp2_with fail
    go_ret2
    exact ⟨⟨0, 7, rfl, .inl ⟨h6, rfl, rfl⟩⟩, rfl⟩
  · have h6' : ¬ (6 : Int) < (n : Int) := by omega
    have h6n : n ≤ 6 := by omega
    clear h6
    go_enter Try.func8, Try.ntmps8
    go_wp2_with fail
    go_loopw [4, 5, 6] (fun b z i wr => ∃ (j : Nat) (B Z : Bool), j ≤ n ∧ i = .int .i64 j ∧ b = .bool B ∧ z = .bool Z ∧ Hid (∀ t, t < j → 0 ≤ f t) ∧ Hid (B = true ↔ ∃ t, t < j ∧ 2048 < f t) ∧ Hid (Z = true ↔ ∃ t, t < j ∧ f t = 0) ∧ wr = w) (fun _ _ i _ => n - (intOfZ i).toNat)
    case atStart => exact ⟨0, false, false, Nat.zero_le _, rfl, rfl, rfl, Lib.hid fun t h => by omega, Lib.hid ⟨fun h => (Bool.false_ne_true h).elim, fun ⟨t, h, _⟩ => by omega⟩, Lib.hid ⟨fun h => (Bool.false_ne_true h).elim, fun ⟨t, h, _⟩ => by omega⟩, rfl⟩
    case round =>
      obtain ⟨j, B, Z, hj, rfl, rfl, rfl, hd, hB, hZ, rfl⟩ := hrel
      by_cases hlt : j < n
      · rcases hf with h | ⟨b, off, rfl, hc⟩
        · omega
        have c1 := hc j hlt
        clear hc
        by_cases hneg : f j < 0
        · have hneg' := Lib.hid hneg
          go_wp2_with fail
          go_ret2
          exact ⟨⟨0, 3, rfl, .inr ⟨h6n, .inl ⟨⟨j, hlt, hneg'.out⟩, rfl, rfl⟩⟩⟩, rfl⟩
        · have hd2 := Lib.hid (show ∀ t, t < j + 1 → 0 ≤ f t from fun t ht => by
            by_cases e : t = j
            · rw [e]; omega
            · exact hd.out t (by omega))
          have hB2 := Lib.hid (show (B || decide (2048 < f j)) = true ↔ ∃ t, t < j + 1 ∧ 2048 < f t from by
            rw [Bool.or_eq_true, hB.out, decide_eq_true_eq]
            constructor
            · rintro (⟨t, h1, h2⟩ | h)
              · exact ⟨t, by omega, h2⟩
              · exact ⟨j, by omega, h⟩
            · rintro ⟨t, h1, h2⟩
              by_cases e : t = j
              · rw [e] at h2; exact .inr h2
              · exact .inl ⟨t, by omega, h2⟩)
          have hZ2 := Lib.hid (show (Z || decide (f j = 0)) = true ↔ ∃ t, t < j + 1 ∧ f t = 0 from by
            rw [Bool.or_eq_true, hZ.out, decide_eq_true_eq]
            constructor
            · rintro (⟨t, h1, h2⟩ | h)
              · exact ⟨t, by omega, h2⟩
              · exact ⟨j, by omega, h⟩
            · rintro ⟨t, h1, h2⟩
              by_cases e : t = j
              · rw [e] at h2; exact .inr h2
              · exact .inl ⟨t, by omega, h2⟩)
          have hnn : ¬ f j < 0 := hneg
          clear hneg hd hB hZ
          cases B <;> cases Z <;>
          · go_wp2_with fail
            go_roundw
            case rel => exact ⟨j + 1, _, _, by omega, by go_num, rfl, rfl, hd2, hB2, hZ2, by trivial⟩
            case measure => simp [intOfZ]; omega
      · obtain rfl : j = n := by omega
        by_cases hBt : ∃ t, t < j ∧ 2048 < f t
        · obtain rfl : B = true := hB.out.2 hBt
          have hBt' := Lib.hid hBt
          clear hBt
          go_wp2_with fail
          go_ret2
          exact ⟨⟨0, 7, rfl, .inr ⟨h6n, .inr ⟨hd.out, .inl ⟨hBt'.out, rfl, rfl⟩⟩⟩⟩, rfl⟩
        · obtain rfl : B = false := by
            rcases Bool.eq_false_or_eq_true B with h | h
            · exact absurd (hB.out.1 h) hBt
            · exact h
          have hhi := Lib.hid (show ∀ t, t < j → f t ≤ 2048 from fun t ht => Int.not_lt.1 fun h => hBt ⟨t, ht, h⟩)
          clear hBt
          by_cases hZt : ∃ t, t < j ∧ f t = 0
          · obtain rfl : Z = true := hZ.out.2 hZt
            have hp := Lib.hid (show prodZ f j = 0 by obtain ⟨t, h1, h2⟩ := hZt; exact prodZ_zero h2 j h1)
            clear hZt
            go_wp2_with fail
            go_ret2
            exact ⟨⟨0, 0, rfl, .inr ⟨h6n, .inr ⟨hd.out, .inr ⟨hhi.out, .inr ⟨by rw [hp.out]; decide, hp.out.symm, rfl⟩⟩⟩⟩⟩, rfl⟩
          · obtain rfl : Z = false := by
              rcases Bool.eq_false_or_eq_true Z with h | h
              · exact absurd (hZ.out.1 h) hZt
              · exact h
            have hlo := Lib.hid (show ∀ t, t < j → 1 ≤ f t from fun t ht => by
              have := hd.out t ht
              have : f t ≠ 0 := fun h => hZt ⟨t, ht, h⟩
              omega)
            clear hZt hB hZ
            go_wp2_with fail
            go_loopw [7, 8] (fun p i wr' => ∃ k : Nat, k ≤ j ∧ i = .int .i64 k ∧ p = .int .i64 (prodZ f k) ∧ prodZ f k ≤ 2048 ∧ wr' = wr) (fun _ i _ => j - (intOfZ i).toNat)
            case atStart => exact ⟨0, Nat.zero_le _, rfl, rfl, by show (1 : Int) ≤ 2048; decide, rfl⟩
            case round =>
              obtain ⟨k, hk, rfl, rfl, hpk, rfl⟩ := hrel
              have p1 := prodZ_pos k fun t ht => hlo.out t (by omega)
              by_cases hlt2 : k < j
              · rcases hf with h | ⟨b, off, rfl, hc⟩
                · omega
                have c1 := hc k hlt2
                have k1 := hlo.out k hlt2
                have k2 := hhi.out k hlt2
                clear hc
                obtain ⟨x, hx⟩ : ∃ x, x = prodZ f k := ⟨_, rfl⟩
                obtain ⟨y, hy⟩ : ∃ y, y = f k := ⟨_, rfl⟩
                obtain ⟨z, hz⟩ : ∃ z, z = x * y := ⟨_, rfl⟩
                have hz1 : z ≤ 4194304 := by rw [hz]; rw [← hx] at hpk p1; rw [← hy] at k1 k2; exact Int.mul_le_mul hpk k2 (by omega) (by decide)
                have hz0 : 0 ≤ z := by rw [hz]; rw [← hx] at hpk p1; rw [← hy] at k1 k2; exact Int.mul_nonneg (by omega) (by omega)
                have hzn := Lib.hid (show prodZ f (k + 1) = z by rw [hz, hx, hy]; rfl)
                have hzm := Lib.hid (show prodZ f (k + 1) ≤ prodZ f j from prodZ_mono j hlo.out hlt2)
                rw [← hy] at c1
                rw [← hx]
                have hw : IntKind.i64.wrap (x * y) = z := by rw [← hz]; simp [IntKind.wrap, IntKind.bits, IntKind.signed]; omega
                clear hz hx hy hpk p1 k1 k2
                by_cases hbig : 2048 < z
                · have hbig' := Lib.hid hbig
                  go_wp2_with fail
                  go_ret2
                  exact ⟨⟨0, 7, rfl, .inr ⟨h6n, .inr ⟨hd.out, .inr ⟨hhi.out, .inl ⟨by have := hzn.out; have := hzm.out; have := hbig'.out; omega, rfl, rfl⟩⟩⟩⟩⟩, rfl⟩
                · have hsm := Lib.hid (show prodZ f (k + 1) ≤ 2048 by rw [hzn.out]; omega)
                  go_wp2_with fail
                  go_roundw
                  case rel => exact ⟨k + 1, by omega, by go_num, by rw [hzn.out], hsm.out, by trivial⟩
                  case measure => simp [intOfZ]; omega
              · obtain rfl : k = j := by omega
                go_wp2_with fail
                go_ret2
                exact ⟨⟨_, 0, rfl, .inr ⟨h6n, .inr ⟨hd.out, .inr ⟨hhi.out, .inr ⟨hpk, rfl, rfl⟩⟩⟩⟩⟩, rfl⟩

end Go.Proofs.Ytolfbelhbnonpaa
