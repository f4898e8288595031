/-
  nat.Cmp: how two numbers stand.
-/
import Derived.Test.YtnnipciifjpooaaTrim
import Derived.Test.YtnnipciifjpooaaBits
import Derived.Test.YtnnipciifjpooaaBlk
import Derived.Test.YtnnipciifjpooaaNum2
namespace Go.Proofs.Ytnnipciifjpooaa
open Go.RowKit Num

theorem quiet_here {P : Program} {f : FuncId} {args : Array Value} {w : World} {n : Nat} {v : Value}
    (h : Calls P f args (w.drewN n) fun e w' => e = .returned v ∧ w.drewN n = w') : Calls P f args (w.drewN n) fun e w'' => e = .returned v ∧ ∃ m, w'' = w.drewN m :=
  h.mono fun _ _ ⟨he, hm⟩ => ⟨he, n, hm.symm⟩

theorem drewN_trans {w w2 : World} {a : Nat} (h : w2 = w.drewN a) (b : Nat) : ∃ q, w2.drewN b = w.drewN q := ⟨a + b, by rw [h, World.drewN_drewN]⟩

def CmpPost (x y : Nat) (w : World) (e : Ending) (w' : World) : Prop := e = .returned (.int .i64 (cmpI x y)) ∧ ∃ q, w' = w.drewN q

set_option maxHeartbeats 1000000 in
theorem cmp_any (ao bo : Option Addr) (n nc m mc : Nat) (f g : Nat → Nat) (w : World) (A : Arg w ao n nc f) (B : Arg w bo m mc g) :
    Calls Try.prog 84 #[.slice ao n nc, .slice bo m mc] w (CmpPost (val f n) (val g m) w) := by
  obtain ⟨hn, hnc, hnb, hf, lf⟩ := A
  obtain ⟨hm, hmc, hmb, hg, lg⟩ := B
  go_enter Try.func84, Try.ntmps84
  go_wp2_with fail
  refine (trim_any ao n nc f w hn (by omega) hf).mono ?_
  rintro e w' ⟨k, hk, rfl, htf0, hvf0, rfl⟩
  have htf := Lib.hid htf0; have hvf := Lib.hid hvf0; clear htf0 hvf0
  go_wp2_with fail
  refine (trim_any bo m mc g w hm (by omega) hg).mono ?_
  rintro e w' ⟨l, hl, rfl, htg0, hvg0, rfl⟩
  have htg := Lib.hid htg0; have hvg := Lib.hid hvg0; clear htg0 hvg0
  have hlf := Lib.hid (lf.mono hk); have hlg := Lib.hid (lg.mono hl)
  by_cases hkl : k = l
  · subst hkl
    go_wp2_with fail
    go_loopw [5] (fun i wr => ∃ j : Nat, j ≤ k ∧ i = .int .i64 ((j : Int) - 1) ∧ (∀ t, j ≤ t → t < k → f t = g t) ∧ ∃ q, wr = w.drewN q) (fun i _ => (intOf i + 1).toNat)
    case atStart => exact ⟨k, Nat.le_refl _, rfl, fun t h1 h2 => by omega, 0, rfl⟩
    case round =>
      obtain ⟨j, hj, rfl, hsame0, q, rfl⟩ := hrel
      have hsame := Lib.hid hsame0; clear hsame0
      by_cases h0 : j = 0
      · subst h0
        go_wp2_with fail
        go_ret
        refine ⟨ret_num ?_, q, rfl⟩
        rw [cmpI_eq]
        rw [← hvf.out, ← hvg.out, val_congr fun t ht => hsame.out t (Nat.zero_le _) ht]
      · rcases hf with h | ⟨b, off, rfl, hc⟩
        · omega
        rcases hg with h | ⟨b', off', rfl, hc'⟩
        · omega
        have c1 := hc (j - 1) (by omega)
        have c2 := hc' (j - 1) (by omega)
        have p0 : 0 < j := by omega
        have p1 : 0 ≤ (j : Int) - 1 := by omega
        clear hc hc'
        by_cases he : f (j - 1) = g (j - 1)
        · have t1 : ((f (j - 1) : Int) != (g (j - 1) : Int)) = false := by simp [he]
          have he' := Lib.hid he; clear he
          go_wp2_with fail
          go_quiet (fail)
          go_wp2_with fail
          go_roundw
          case rel =>
            refine ⟨j - 1, by omega, int_eq (by omega), fun t h1 h2 => ?_, _, rfl⟩
            by_cases ht : t = j - 1
            · rw [ht]; exact he'.out
            · exact hsame.out t (by omega) h2
          case measure => simp [intOf]; omega
        · have t1 : ((f (j - 1) : Int) != (g (j - 1) : Int)) = true := by rw [bne_iff_ne]; omega
          go_wp2_with fail
          go_quiet (fail)
          go_wp2_with fail
          rw [World.drewN_drewN]
          obtain ⟨w2, hw2⟩ : ∃ w2, w2 = w.drewN (q + nq) := ⟨_, rfl⟩
          have d1 : w2.cell? ⟨b, off + (j - 1), none⟩ = some (.int .u32 (f (j - 1))) := by rw [hw2]; exact c1
          have d2 : w2.cell? ⟨b', off' + (j - 1), none⟩ = some (.int .u32 (g (j - 1))) := by rw [hw2]; exact c2
          rw [← hw2]
          have hw := Lib.hid hw2
          clear hw2 c1 c2
          go_quiet ((go_at_call 105; exact quiet_here (cmp_u32 _ _ _)))
          go_wp2_with fail
          go_ret
          refine ⟨ret_num ?_, drewN_trans hw.out _⟩
          rw [← hvf.out, ← hvg.out]
          rcases Nat.lt_or_gt_of_ne he with h | h
          · rw [cmpI_lt (by omega), cmpI_lt]
            exact Int.ofNat_lt.2 (val_lt_of_top hlf.out (j - 1) (by omega) (fun t h1 h2 => hsame.out t (by omega) h2) h)
          · rw [cmpI_gt (by omega), cmpI_gt]
            exact Int.ofNat_lt.2 (val_lt_of_top hlg.out (j - 1) (by omega) (fun t h1 h2 => (hsame.out t (by omega) h2).symm) h)
  · have hd : ((k : Int) != (l : Int)) = true := by rw [bne_iff_ne]; omega
    go_wp2_with fail
    refine (cmp_int k l w).mono ?_
    rintro e w' ⟨rfl, rfl⟩
    go_wp2_with fail
    go_ret
    refine ⟨ret_num ?_, 0, rfl⟩
    rw [← hvf.out, ← hvg.out]
    rcases Nat.lt_or_gt_of_ne hkl with h | h
    · rw [cmpI_lt (by omega), cmpI_lt]
      exact Int.ofNat_lt.2 (val_lt_of_len hlf.out htg.out h)
    · rw [cmpI_gt (by omega), cmpI_gt]
      exact Int.ofNat_lt.2 (val_lt_of_len hlg.out htf.out h)

end Go.Proofs.Ytnnipciifjpooaa
