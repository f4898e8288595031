/-
  slices.Equal of any limbs; ratio.Int, Gcd; scrimref04.IsWhole, Gcd.
-/
import Derived.Test.YtnnipciifjpooaaQl
namespace Go.Proofs.Ytnnipciifjpooaa
open Go.RowKit Num

set_option maxHeartbeats 1000000 in
/-- Equal, of any limbs. -/
theorem eqB_any (ao bo : Option Addr) (n nc m mc : Nat) (f g : Nat → Nat) (w : World) (hn : n ≤ 9223372036854775807) (hf : Sl w ao n f) (hg : Sl w bo m g) :
    Calls Try.prog 87 #[.slice ao n nc, .slice bo m mc] w (SameBPost n m f g w) := by
  by_cases hnm : n = m
  · subst hnm
    go_enter Try.func87, Try.ntmps87
    go_wp2_with fail
    go_loopw [13] (fun i wr => ∃ j : Nat, j ≤ n ∧ i = .int .i64 j ∧ Hid (∀ i, i < j → f i = g i) ∧ ∃ q, wr = w.drewN q) (fun i _ => n - (intOf i).toNat)
    case atStart => exact ⟨0, Nat.zero_le _, rfl, Lib.hid (fun i hi => absurd hi (Nat.not_lt_zero _)), 0, rfl⟩
    case round =>
      obtain ⟨j, hj, rfl, heq, q, rfl⟩ := hrel
      by_cases hlt : j < n
      · rcases hf with h | ⟨b, off, rfl, hc⟩
        · omega
        rcases hg with h | ⟨b', off', rfl, hc'⟩
        · omega
        have c1 := hc j hlt
        have c2 := hc' j hlt
        clear hc hc'
        by_cases he : f j = g j
        · rw [← he] at c2
          have heq' : Hid (∀ i, i < j + 1 → f i = g i) := Lib.hid (fun i hi => by
            by_cases hij : i < j
            · exact heq.out i hij
            · have : i = j := by omega
              subst this; exact he)
          clear he heq
          go_wp2_with fail
          go_quiet (fail)
          go_wp2_with fail
          go_roundw
          case rel => exact ⟨j + 1, by omega, by go_num, heq', _, rfl⟩
          case measure => simp [intOf]; omega
        · have he' : ((f j : Int) == (g j : Int)) = false := by rw [beq_eq_false_iff_ne]; omega
          have hid := Lib.hid he
          have hlt' := Lib.hid hlt
          go_wp2_with fail
          go_quiet (fail)
          go_wp2_with fail
          go_ret
          exact ⟨false, rfl, ⟨(fun h => by cases h), fun h => absurd (h.2 j hlt'.out) hid.out⟩, below_drewN (below_drewN (Below.refl _ _) _) _⟩
      · have : j = n := by omega
        subst this
        go_wp2_with fail
        go_ret
        exact ⟨true, rfl, ⟨fun _ => ⟨rfl, heq.out⟩, fun _ => rfl⟩, below_drewN (Below.refl _ _) _⟩
  · have hd : ((n : Int) == (m : Int)) = false := by rw [beq_eq_false_iff_ne]; omega
    have hnm' := Lib.hid hnm
    clear hf hg
    go_enter Try.func87, Try.ntmps87
    go_wp2_with fail
    go_ret
    exact ⟨false, rfl, ⟨(fun h => by cases h), fun h => absurd h.1 hnm'.out⟩, Below.refl _ _⟩

attribute [local go_sem ↓] Go.wp_at_zero Go.wp_at_succ

/-- A number's bottom is 1, or it isn't: the limbs. -/
theorem one_or {w : World} {b : Bool} {ao : Option Addr} {n nc Q : Nat} (h : Right w b ao n nc (Q : Int)) : ∃ f, n ≤ nc ∧ nc ≤ 9223372036854775807 ∧ Sl w ao n f ∧ Lim f n ∧ ((Q = 1 ∧ n = 1 ∧ f 0 = 1) ∨ (Q ≠ 1 ∧ (n = 1 → f 0 ≠ 1))) := by
  obtain ⟨f, h1, h2, h3, h4, _⟩ := h.ex
  rw [Int.natAbs_natCast] at h4
  refine ⟨f, h1, h2, h3, h4.lim, ?_⟩
  have c1 : Canon 1 1 (fun _ => 1) := ⟨fun _ _ => (by decide : 1 < 4294967296), .inr (by decide), rfl⟩
  by_cases hQ : Q = 1
  · subst hQ
    have e := h4.len c1
    exact .inl ⟨rfl, e, by have := h4.eq c1 0 (by omega); exact this⟩
  · refine .inr ⟨hQ, fun e h0 => hQ ?_⟩
    have := h4.val
    rw [e] at this
    simpa [val, pw, h0] using this.symm

/-- What Int tells: the top, if the bottom is 1. -/
def IntOfPost (P : Int) (Q : Nat) (w : World) (e : Ending) (w' : World) : Prop :=
  ∃ b ao n nc, e = .returned (.tuple #[.agg #[.bool b, .slice ao n nc], .bool (decide (Q = 1))]) ∧ Right w' b ao n nc (if Q = 1 then P else 0) ∧ Below w.heap.size w w'

set_option maxHeartbeats 2000000 in
theorem int_any (ab : Bool) (ap aq : Option Addr) (an ac am ae : Nat) (P : Int) (Q : Nat) (w : World) (A : Rt w ab ap an ac aq am ae P Q) (lA : Low P Q) :
    Calls Try.prog 65 #[.agg #[.bool ab, .slice ap an ac, .slice aq am ae]] w (IntOfPost P Q w) := by
  obtain ⟨h, h1, h2, h3, h4, h5⟩ := one_or A.bot
  have lA' := Lib.hid lA
  have A' := Lib.hid A
  replace h3 := Lib.hid h3; replace h4 := Lib.hid h4; replace h5 := Lib.hid h5
  clear lA A
  go_enter Try.func65, Try.ntmps65
  go_upto_region 1 with fail
  refine gen_wp (fun w' => Below w.heap.size w w' ∧ Box3 w' w.heap.size (.bool ab) (.slice ap an ac) (.slice aq am ae) ∧ Box w' (w.heap.size + 1) (.bool false) (.slice none 0 0))
    ⟨(((Below.refl _ _).alloc (Nat.le_refl _) _).alloc (by first | (simp; done) | (simp; omega)) _), ((Box3.new _ _ _ _ rfl).alloc _), (Box.new _ _ _ (by first | (simp; done) | (simp; omega)))⟩ ?_
  rintro w0 ⟨bb, x0, x1⟩
  have p0 := x0.c2
  replace x0 := Lib.hid x0; replace x1 := Lib.hid x1; replace bb := Lib.hid bb
  go_wp2_with fail
  refine gen_calls (fun w' => Below w.heap.size w w' ∧ Box3 w' w.heap.size (.bool ab) (.slice ap an ac) (.slice aq am ae) ∧ Box w' (w.heap.size + 1) (.bool false) (.slice none 0 0) ∧ Sl w' (some ⟨w0.heap.size, 0, none⟩) 1 (fun _ => 1)) ⟨bb.out.alloc bb.out.size _, x0.out.alloc _, x1.out.alloc _, sl_new1 w0 _ _ _ rfl⟩ ?_
  clear bb x0 x1 p0
  rintro w1 ⟨bb, x0, x1, hs⟩
  refine (eqB_any aq (some ⟨w0.heap.size, 0, none⟩) am ae 1 1 h (fun _ => 1) _ (by omega) (h3.out.below bb) hs).mono ?_
  rintro e w2 ⟨r, rfl, hr, hb⟩
  replace hr := Lib.hid hr
  replace x0 := x0.later hb; replace x1 := Lib.hid (x1.later hb); replace bb := Lib.hid (below_then bb (Nat.le_refl _) hb)
  clear hb hs h1 h2
  rcases h5.out with ⟨hQ, he, hz⟩ | ⟨hQ, hz⟩
  · have : r = true := hr.out.2 ⟨he, fun j hj => (by have hj0 : j = 0 := (by omega); subst hj0; exact hz)⟩
    subst this hQ
    clear he hz hr h5
    have p0 := x0.c0; have p1 := x0.c1; have p2 := x0.c2
    clear x0
    go_wp2_with fail
    refine (upper_any ab ap aq an ac am ae _).mono ?_
    rintro e w3 ⟨rfl, hb⟩
    replace x1 := Lib.hid (x1.out.later hb); replace bb := Lib.hid (below_then bb.out (Nat.le_refl _) hb)
    clear hb p0 p1 p2
    go_wp2_with fail
    refine (wNorm_any ab ap an ac P _ ((A'.out.below bb.out).upper lA'.out)).mono ?_
    rintro e w4 ⟨eb, eo, en, ec, rfl, hR, hb⟩
    replace x1 := x1.out.later hb; replace bb := Lib.hid (below_then bb.out (Nat.le_refl _) hb)
    replace hR := Lib.hid hR
    have x1' := Lib.hid x1
    have q0 := x1.c0; have q1 := x1.c1; have q2 := x1.fr 0; have q3 := x1.fr 1
    have z := x1.set (.bool eb) (.slice eo en ec)
    have e0 := z.c0; have e1 := z.c1
    clear x1 hb z
    go_wp2_with fail
    refine bodyPost_ret (v := .tuple #[.agg #[.bool eb, .slice eo en ec], .bool true]) (by simp [results, Try.results65, go_sem, e0, e1]) rfl ?_
    exact ⟨eb, eo, en, ec, by simp, by rw [if_pos rfl]; exact hR.out.box x1'.out _ _, below_set bb.out (by omega) _ _⟩
  · have : r = false := by
      cases r
      · rfl
      · exact absurd ((hr.out.1 rfl).2 0 (by have := (hr.out.1 rfl).1; omega)) (hz (hr.out.1 rfl).1)
    subst this
    have hQ' := Lib.hid hQ
    clear hQ hz hr h5 x0
    replace x1 := x1.out
    have x1' := Lib.hid x1
    have q0 := x1.c0; have q1 := x1.c1; have q2 := x1.fr 0; have q3 := x1.fr 1
    have z := x1.set (.bool false) (.slice none 0 0)
    have e0 := z.c0; have e1 := z.c1
    clear x1 z
    go_wp2_with fail
    refine bodyPost_ret (v := .tuple #[.agg #[.bool false, .slice none 0 0], .bool false]) (by simp [results, Try.results65, go_sem, e0, e1]) rfl ?_
    exact ⟨false, none, 0, 0, by simp [hQ'.out], by rw [if_neg hQ'.out]; exact (zero_right _).box x1'.out _ _, below_set bb.out (by omega) _ _⟩

set_option maxHeartbeats 2000000 in
theorem isWhole_any (ab : Bool) (ap aq : Option Addr) (an ac am ae : Nat) (P : Int) (Q : Nat) (w : World) (A : Rt w ab ap an ac aq am ae P Q) :
    Calls Try.prog 67 #[.agg #[.bool ab, .slice ap an ac, .slice aq am ae]] w (Says (.bool (decide (Q = 1))) w) := by
  obtain ⟨h, h1, h2, h3, h4, h5⟩ := one_or A.bot
  clear A
  rcases h5 with ⟨hQ, rfl, hz⟩ | ⟨hQ, hz⟩
  · subst hQ
    rcases h3 with h | ⟨b, off, rfl, hc⟩
    · omega
    have c1 := hc 0 (by omega)
    rw [Nat.add_zero] at c1
    rw [hz] at c1
    have hl := World.block_lt_of_cell? w _ c1
    have hne : ∀ o : Obj, (w.alloc o).cell? ⟨b, off, none⟩ = some (.int .u32 ((1 : Nat) : Int)) := fun o => (((Below.refl _ w).alloc (Nat.le_refl _) o).cell hl).trans c1
    clear hc hz h4 h1 h2
    go_enter Try.func67, Try.ntmps67
    go_wp2_with fail
    go_ret
    exact ⟨by simp, (Below.refl _ w).alloc (Nat.le_refl _) _⟩
  · by_cases h0 : am = 1
    · subst h0
      rcases h3 with h | ⟨b, off, rfl, hc⟩
      · omega
      have c1 := hc 0 (by omega)
      rw [Nat.add_zero] at c1
      have hz' : ((h 0 : Int) == 1) = false := by rw [beq_eq_false_iff_ne]; have := hz rfl; omega
      have hl := World.block_lt_of_cell? w _ c1
      have hne : ∀ o : Obj, (w.alloc o).cell? ⟨b, off, none⟩ = some (.int .u32 (h 0)) := fun o => (((Below.refl _ w).alloc (Nat.le_refl _) o).cell hl).trans c1
      have hQ' := Lib.hid hQ
      clear hc hz h4 h1 h2 hQ
      go_enter Try.func67, Try.ntmps67
      go_wp2_with fail
      go_ret
      exact ⟨by simp [hQ'.out], (Below.refl _ w).alloc (Nat.le_refl _) _⟩
    · have hd : ((am : Int) == 1) = false := by rw [beq_eq_false_iff_ne]; omega
      have hQ' := Lib.hid hQ
      clear hz h3 h4 h1 h2 hQ h0
      go_enter Try.func67, Try.ntmps67
      go_wp2_with fail
      go_ret
      exact ⟨by simp [hQ'.out], (Below.refl _ w).alloc (Nat.le_refl _) _⟩

end Go.Proofs.Ytnnipciifjpooaa
