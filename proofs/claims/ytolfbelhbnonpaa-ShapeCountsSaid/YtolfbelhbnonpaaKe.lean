/-
  shape.At.
-/
import Derived.Test.YtolfbelhbnonpaaKd
namespace Go.Proofs.Ytolfbelhbnonpaa
open Go.RowKit

set_option maxRecDepth 20000 in
set_option maxHeartbeats 4000000 in
theorem atW (so : Option Addr) (n nc : Nat) (f : Nat → Int) (c : Int) (w : World) (hf : SlZ w so n f) (hc0 : -9223372036854775808 ≤ c) (hc1 : c ≤ 9223372036854775807) :
    Calls Try.prog 12 #[.slice so n nc, .int .i64 c] w (MadeB (AtIs f n c) w) := by
  obtain ⟨i64, hi0, hz0, hz1, hz2⟩ := info_parts info64
  have hf' := Lib.hid hf
  go_enter Try.func12, Try.ntmps12
  go_wp2_with fail
  refine (countW so n nc f w hf).mono ?_
  rintro e w1 ⟨⟨N, E, rfl, hC⟩, rfl⟩
  clear hf
  by_cases hE : E = 0
  · have hS := Lib.hid (hC.shape hE)
    subst hE
    have hn6 := hS.out.rank
    clear hC
    by_cases hin : 0 ≤ c ∧ c < N
    · obtain ⟨q1, q2⟩ := hin
      have q3 : ¬ c < 0 := by omega
      have q4 : ¬ N ≤ c := by omega
      have hpos := Lib.hid (hS.out.pos (by omega))
      have hst := Lib.hid (divided_start (f := f) (g := fun _ => 0) (n := n) (c := c) q1 (by rw [← hS.out.all]; exact q2))
      have q1' := Lib.hid q1; have q2' := Lib.hid q2
      clear q1 q2
      go_wp2_with (at_make; refine wpList_make_full _ rfl (.tmp 27) (.tmp 27) 22 rfl w.heap.size 3 i64 (.int .i64 0) 1 Try.underlying22 hi0 hz0 hz1 .i64 .i64 _ _ n rfl rfl rfl rfl (by rw [hz2]; omega) (by unfold maxLen; omega) (Nat.le_refl _) ?_)
      intro w1 hown hgr
      have e1 := made_zeros n
      rw [e1] at hown
      clear e1
      have hb := Lib.hid ((Below.refl w.heap.size w).grown hgr (Nat.le_refl _) (fun q hq => by cases hq))
      have hown' := Lib.hid hown
      clear hown hgr q3 q4
      have hB : w.heap.size ≤ w.heap.size := Nat.le_refl _
      go_wp2_with fail
      go_loopw [1, 9] (fun x i wr => ∃ (k : Nat) (q : Int) (h : Nat → Int), k ≤ n ∧ x = .int .i64 q ∧ q ≤ 2048 ∧ i = .int .i64 ((k : Int) - 1) ∧ Hid (wr.ownsRow w.heap.size 3 1 (.slice (some ⟨w.heap.size, 0, none⟩) n n) n (intCells h n)) ∧ Hid (Divided f h n c q k) ∧ Hid (Below w.heap.size w wr)) (fun _ i _ => (intOfZ i + 1).toNat)
      case atStart => exact ⟨n, c, fun _ => 0, Nat.le_refl _, rfl, by have := hS.out.most; have := q2'.out; omega, by rfl, hown', hst, hb⟩
      case round =>
        obtain ⟨k, q, h, hk, rfl, hqm, rfl, ho, hd, hbr⟩ := hrel
        clear hown' hb hst
        cases k with
        | zero =>
          have e0 : (((0 : Nat) : Int) - 1) = -1 := rfl
          rw [e0]
          go_wp2_with fail
          go_ret2
          exact ⟨_, n, h, _, rfl, ho.out, hbr.out, .inl ⟨⟨N, hS.out, q1'.out, q2'.out⟩, rfl, divided_done hd.out, rfl⟩⟩
        | succ k =>
          have e0 : (((k + 1 : Nat) : Int) - 1) = (k : Int) := by omega
          rw [e0]
          have hyp := hpos.out k (by omega)
          have hstep := Lib.hid (divided_step hd.out hyp)
          have hd2 := hd.out.2.1
          have f1 : wr.frozen? ⟨w.heap.size, k, none⟩ = false := ho.out.frozenAt k
          have c1 : wr.cell? ⟨w.heap.size, k, none⟩ = some (.int .i64 (h k)) := by rw [ho.out.cellAt k (by omega), intCells_get h n k (by omega)]
          rcases hf'.out.below hbr.out with h0' | ⟨b, off, rfl, hcs⟩
          · omega
          have c3 := hcs k (by omega)
          obtain ⟨y, hy⟩ : ∃ y, y = f k := ⟨_, rfl⟩
          rw [← hy] at c3 hyp
          have hstep2 := Lib.hid (show Divided f (putZ h k (q % y)) n c (q / y) k by rw [hy]; exact hstep.out)
          have ho2 := Lib.hid (show (wr.setCell ⟨w.heap.size, k, none⟩ (.int .i64 (q % y))).ownsRow w.heap.size 3 1 (.slice (some ⟨w.heap.size, 0, none⟩) n n) n (intCells (putZ h k (q % y)) n) by rw [← intCells_put]; exact (ho.out.stored k (.int .i64 (q % y))).1)
          have hb2 := Lib.hid (show Below w.heap.size w (wr.setCell ⟨w.heap.size, k, none⟩ (.int .i64 (q % y))) from hbr.out.setCell (p := ⟨w.heap.size, k, none⟩) hB _)
          have r1 : q.tmod y = q % y := Int.tmod_eq_emod_of_nonneg hd2
          have r3 : 0 ≤ q / y := Int.ediv_nonneg hd2 (by omega)
          have r4 : q / y ≤ q := Int.ediv_le_self _ hd2
          have r2 : IntKind.i64.wrap (q.tdiv y) = q / y := by
            rw [Int.tdiv_eq_ediv_of_nonneg hd2]
            simp [IntKind.wrap, IntKind.bits, IntKind.signed]; omega
          have r5 := Lib.hid (show q / y ≤ 2048 by omega)
          have yne : ¬ y = 0 := by omega
          replace hy := Lib.hid hy
          clear hcs hstep hyp r3 r4 hd2 hqm
          go_upto_region 9 with fail
          refine told_wp (fun w' => w'.ownsRow w.heap.size 3 1 (.slice (some ⟨w.heap.size, 0, none⟩) n n) n (intCells (putZ h k (q % y)) n) ∧ Below w.heap.size w w') ⟨ho2.out, hb2.out⟩ ?_
          clear ho2 hb2 c1 f1 ho hbr c3
          rintro w2 ⟨ho2, hb2⟩
          rcases hf'.out.below hb2 with h0' | ⟨b', off', e', hcs⟩
          · omega
          cases e'
          have c3 := hcs k (by omega)
          rw [← hy.out] at c3
          have ho3 := Lib.hid ho2; have hb3 := Lib.hid hb2
          clear ho2 hb2 hcs hy r1
          go_wp2_with fail
          go_roundw
          case rel => exact ⟨k, q / y, putZ h k (q % y), by omega, rfl, r5.out, by go_num, ho3, hstep2, hb3⟩
          case measure => simp [intOfZ]
    · have hno := Lib.hid (show ¬ ∃ N, Shape f n N ∧ 0 ≤ c ∧ c < N from fun ⟨M, h1, h2, h3⟩ => hin (by
        have e1 := h1.all; have e2 := hS.out.all
        rw [← e2] at e1; subst e1; exact ⟨h2, h3⟩))
      by_cases hneg : c < 0
      · clear hin
        go_wp2_with fail
        go_ret2
        exact ⟨_, 0, fun _ => 0, _, rfl, World.ownsRow_nil _ _ _ _, Below.refl _ _, .inr ⟨rfl, rfl, hno.out⟩⟩
      · have hge : N ≤ c := by omega
        clear hin
        go_wp2_with fail
        go_ret2
        exact ⟨_, 0, fun _ => 0, _, rfl, World.ownsRow_nil _ _ _ _, Below.refl _ _, .inr ⟨rfl, rfl, hno.out⟩⟩
  · have hno := Lib.hid ((hC.none hE).2.2)
    have hEb : (E != 0) = true := by rw [bne_iff_ne]; exact hE
    clear hC hE
    go_wp2_with fail
    go_ret2
    exact ⟨_, 0, fun _ => 0, _, rfl, World.ownsRow_nil _ _ _ _, Below.refl _ _, .inr ⟨rfl, rfl, fun ⟨M, h, _⟩ => hno.out M h⟩⟩

theorem atC : AtC := fun ao n nc f c w _ _ hf h0 h1 => (atW ao n nc f c w hf h0 h1).mono fun _ _ h => h.some

end Go.Proofs.Ytolfbelhbnonpaa
