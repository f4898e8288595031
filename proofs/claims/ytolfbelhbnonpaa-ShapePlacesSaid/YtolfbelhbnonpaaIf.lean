/-
  scrimref07.Around: the cells ahead of an axis, along it, and behind it.
-/
import Derived.Test.YtolfbelhbnonpaaIe
namespace Go.Proofs.Ytolfbelhbnonpaa
open Go.RowKit

/-- A product, if it may be. -/
def capZ (p : Int) : Int := if p ≤ 2048 then p else 0

/-- Ahead, along, behind; or there is no such axis. -/
def AroundIs (f : Nat → Int) (n : Nat) (axis b k a : Int) (ok : Bool) : Prop :=
  (∃ x : Nat, axis = x ∧ x < n ∧ (∃ N, Shape f n N) ∧ k = f x ∧ b = capZ (prodZ f x) ∧ a = capZ (prodZ (fun j => f (x + 1 + j)) (n - (x + 1))) ∧ ok = true) ∨
  (¬ ((∃ N, Shape f n N) ∧ 0 ≤ axis ∧ axis < n) ∧ b = 0 ∧ k = 0 ∧ a = 0 ∧ ok = false)

theorem AroundIs.uniq {f : Nat → Int} {n : Nat} {axis b k a c l d : Int} {p q : Bool} (h : AroundIs f n axis b k a p) (i : AroundIs f n axis c l d q) : b = c ∧ k = l ∧ a = d ∧ p = q := by
  rcases h with ⟨x, h1, h2, h3, h4, h5, h6, h7⟩ | ⟨h1, h2, h3, h4, h5⟩ <;> rcases i with ⟨y, i1, i2, i3, i4, i5, i6, i7⟩ | ⟨i1, i2, i3, i4, i5⟩
  · obtain rfl : x = y := by omega
    exact ⟨h5.trans i5.symm, h4.trans i4.symm, h6.trans i6.symm, h7.trans i7.symm⟩
  · exact absurd ⟨h3, by omega, by omega⟩ i1
  · exact absurd ⟨i3, by omega, by omega⟩ h1
  · exact ⟨h2.trans i2.symm, h3.trans i3.symm, h4.trans i4.symm, h5.trans i5.symm⟩

/-- Of a part of a shape only the product can be too great. -/
theorem CountIs.cap {g : Nat → Int} {m : Nat} {M e : Int} (hm : m ≤ 6) (hg : ∀ j, j < m → 0 ≤ g j ∧ g j ≤ 2048) (c : CountIs g m M e) : M = capZ (prodZ g m) := by
  unfold capZ
  rcases c with ⟨a1, a2, a3⟩ | ⟨a1, ⟨⟨j, hj, a2⟩, a3, a4⟩ | ⟨a2, ⟨⟨j, hj, a3⟩, a4, a5⟩ | ⟨a3, ⟨a4, a5, a6⟩ | ⟨a4, a5, a6⟩⟩⟩⟩
  · omega
  · have := hg j hj; omega
  · have := hg j hj; omega
  · rw [if_neg (by omega)]; exact a5
  · rw [if_pos a4]; exact a5

theorem results_tmp4 {fn : Func} {t u v x : Tmp} (h : fn.results = #[.tmp t, .tmp u, .tmp v, .tmp x]) (tmps : Array Value) (P : Program) (w : World) :
    (results fn tmps).run P w = .ok (.tuple #[tmps.getD t undef, tmps.getD u undef, tmps.getD v undef, tmps.getD x undef]) w := by simp [results, h]

set_option maxRecDepth 20000 in
set_option maxHeartbeats 1000000 in
theorem around7_any (so : Option Addr) (n nc : Nat) (f : Nat → Int) (axis : Int) (w : World) (hn : n ≤ nc) (hnc : nc ≤ 9223372036854775807) (hf : SlZ w so n f) (h0 : -9223372036854775808 ≤ axis) (h1 : axis ≤ 9223372036854775807) :
    Calls Try.prog 16 #[.slice so n nc, .int .i64 axis] w fun e w' => (∃ b k a ok, e = .returned (.tuple #[.int .i64 b, .int .i64 k, .int .i64 a, .bool ok]) ∧ AroundIs f n axis b k a ok) ∧ Below w.heap.size w w' := by
  go_enter Try.func16, Try.ntmps16
  go_wp2_with fail
  refine (count7_any so n nc f w (by omega) hf).mono ?_
  rintro e w1 ⟨⟨N, E, rfl, hC⟩, rfl⟩
  by_cases hE : E = 0
  · have hS := hC.shape hE
    have hS' := Lib.hid hS
    have hn6 := hS.rank
    have hEb : (E != 0) = false := by rw [hE]; rfl
    clear hC hS
    by_cases hx : 0 ≤ axis ∧ axis < n
    · obtain ⟨x, rfl⟩ := Int.eq_ofNat_of_zero_le hx.1
      have hxn : x < n := by omega
      clear hx hE
      rcases hf with h | ⟨b, off, rfl, hc⟩
      · omega
      have hc' := Lib.hid hc
      have c1 := hc x hxn
      clear hc
      go_wp2_with fail
      refine (count7_any _ x nc f w (by omega) (.inr ⟨b, off, rfl, fun j hj => hc'.out j (by omega)⟩)).mono ?_
      rintro e w1 ⟨⟨N1, E1, rfl, hC1⟩, rfl⟩
      have hb1 := Lib.hid (hC1.cap (by omega) fun j hj => ⟨hS'.out.low j (by omega), hS'.out.high j (by omega)⟩)
      have hz1 := Lib.hid (fun k => (hC1.none k).1)
      clear hC1
      have g1 : decide ((x : Int) < 0) = false := decide_eq_false (by omega)
      have g2 : decide ((n : Int) ≤ (x : Int)) = false := decide_eq_false (by omega)
      by_cases hcap : nc = x + 1
      all_goals
        go_wp2_with fail
        first
          | (have hnx : n - (x + 1) = 0 := by omega
             have hT := Lib.hid (count7_any (some ⟨b, off, none⟩) (n - (x + 1)) 0 (fun j => f (x + 1 + j)) w (by omega) (.inl hnx))
             clear hnx)
          | (have hT := Lib.hid (count7_any (some ⟨b, off + (x + 1), none⟩) (n - (x + 1)) (nc - (x + 1)) (fun j => f (x + 1 + j)) w (by omega) (.inr ⟨b, _, rfl, fun j hj => by rw [show off + (x + 1) + j = off + (x + 1 + j) by omega]; exact hc'.out _ (by omega)⟩)))
        refine hT.out.mono ?_
        clear hT
        rintro e w1 ⟨⟨N2, E2, rfl, hC2⟩, rfl⟩
        have hb2 := Lib.hid (hC2.cap (by omega) fun j hj => ⟨hS'.out.low _ (by omega), hS'.out.high _ (by omega)⟩)
        have hz2 := Lib.hid (fun k => (hC2.none k).1)
        clear hC2
        by_cases q1 : E1 = 0 <;> by_cases q2 : E2 = 0
        all_goals
          have r1 := Lib.hid q1
          have r2 := Lib.hid q2
          first | (have d1 : (E1 != 0) = true := by rw [bne_iff_ne]; exact q1) | (have d1 : (E1 != 0) = false := by rw [q1]; rfl)
          first | (have d2 : (E2 != 0) = true := by rw [bne_iff_ne]; exact q2) | (have d2 : (E2 != 0) = false := by rw [q2]; rfl)
          clear q1 q2
          go_wp2_with fail
          go_quiet (fail)
          go_wp2_with fail
          (try simp only [Exit.inBlock, Exit.then]); refine bodyPost_ret (results_tmp4 rfl _ _ _) rfl ?_
          refine ⟨⟨_, _, _, _, rfl, .inl ⟨x, rfl, hxn, ⟨N, hS'.out⟩, rfl, ?_, ?_, rfl⟩⟩, below_drewN (Below.refl _ _) _⟩
          · first | exact hb1.out | exact (hz1.out r1.out).symm.trans hb1.out
          · first | exact hb2.out | exact (hz2.out r2.out).symm.trans hb2.out
    · have hno : ¬ ((∃ N, Shape f n N) ∧ 0 ≤ axis ∧ axis < n) := fun h => hx h.2
      have hno' := Lib.hid hno
      by_cases hx0 : axis < 0
      · go_wp2_with fail
        (try simp only [Exit.inBlock, Exit.then]); refine bodyPost_ret (results_tmp4 rfl _ _ _) rfl ?_
        exact ⟨⟨_, _, _, _, rfl, .inr ⟨hno'.out, rfl, rfl, rfl, rfl⟩⟩, Below.refl _ _⟩
      · have hx1 : (n : Int) ≤ axis := by omega
        clear hx hno
        go_wp2_with fail
        (try simp only [Exit.inBlock, Exit.then]); refine bodyPost_ret (results_tmp4 rfl _ _ _) rfl ?_
        exact ⟨⟨_, _, _, _, rfl, .inr ⟨hno'.out, rfl, rfl, rfl, rfl⟩⟩, Below.refl _ _⟩
  · have hno := (hC.none hE).2.2
    have hno' := Lib.hid (show ¬ ((∃ N, Shape f n N) ∧ 0 ≤ axis ∧ axis < n) from fun ⟨⟨M, h⟩, _⟩ => hno M h)
    have hEb : (E != 0) = true := by rw [bne_iff_ne]; exact hE
    clear hC hno hE
    go_wp2_with fail
    (try simp only [Exit.inBlock, Exit.then]); refine bodyPost_ret (results_tmp4 rfl _ _ _) rfl ?_
    exact ⟨⟨_, _, _, _, rfl, .inr ⟨hno'.out, rfl, rfl, rfl, rfl⟩⟩, Below.refl _ _⟩

end Go.Proofs.Ytolfbelhbnonpaa
