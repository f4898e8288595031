/-
  scrimref02.longer, limb, Cmp, Add, Sub, twice and Bit: the document's answers, as they are reckoned.
-/
import Derived.Test.YtnnipciifjpooaaRef
import Derived.Test.YtnnipciifjpooaaNum5
namespace Go.Proofs.Ytnnipciifjpooaa
open Go.RowKit Num
set_option maxRecDepth 20000

set_option maxHeartbeats 400000 in
theorem longer_any (ao bo : Option Addr) (n nc m mc : Nat) (w : World) :
    Calls Try.prog 102 #[.slice ao n nc, .slice bo m mc] w fun e w' => e = .returned (.int .i64 (max n m : Nat)) ∧ w = w' := by
  by_cases h : m < n
  · rw [Nat.max_eq_left (by omega)]
    go_enter Try.func102, Try.ntmps102
    go_wp2_with fail
    go_ret
    exact ⟨rfl, rfl⟩
  · rw [Nat.max_eq_right (by omega)]
    go_enter Try.func102, Try.ntmps102
    go_wp2_with fail
    go_ret
    exact ⟨rfl, rfl⟩

set_option maxHeartbeats 400000 in
theorem refLimb_any (ao : Option Addr) (n cap : Nat) (i : Int) (f : Nat → Nat) (w : World) (h0 : 0 ≤ i) (hs : Sl w ao n f) (lf : Lim f n) :
    Calls Try.prog 103 #[.slice ao n cap, .int .i64 i] w fun e w' => e = .returned (.int .u64 (at0 f n i.toNat)) ∧ w = w' := by
  obtain ⟨i, rfl⟩ := Int.eq_ofNat_of_zero_le h0
  rw [Int.toNat_natCast]
  by_cases h : i < n
  · rw [at0_in h]
    rcases hs with rfl | ⟨b, off, rfl, hc⟩
    · omega
    · have hcell := hc i h
      have hl := lf i h
      clear hc
      go_enter Try.func103, Try.ntmps103
      go_wp2
      go_ret
      exact ⟨rfl, rfl⟩
  · rw [at0_out (by omega)]
    clear hs
    go_enter Try.func103, Try.ntmps103
    go_wp2
    go_ret
    exact ⟨rfl, rfl⟩

set_option maxHeartbeats 1000000 in
theorem refCmp_any (ao bo : Option Addr) (n nc m mc : Nat) (f g : Nat → Nat) (w : World) (A : Arg w ao n nc f) (B : Arg w bo m mc g) :
    Calls Try.prog 79 #[.slice ao n nc, .slice bo m mc] w fun e w' => e = .returned (.int .i64 (cmpI (val f n) (val g m))) ∧ w = w' := by
  obtain ⟨hn, hnc, hnb, hf, lf⟩ := A
  obtain ⟨hm, hmc, hmb, hg, lg⟩ := B
  obtain ⟨N, hN0⟩ : ∃ N, N = max n m := ⟨_, rfl⟩
  have hnN : n ≤ N := by omega
  have hmN : m ≤ N := by omega
  have hNb : N ≤ 1000000 := by omega
  have hN := Lib.hid hN0
  have hlf := Lib.hid lf; have hlg := Lib.hid lg; have hsf := Lib.hid hf; have hsg := Lib.hid hg
  clear hN0 hf hg lf lg
  go_enter Try.func79, Try.ntmps79
  go_wp2_with fail
  refine (longer_any ao bo n nc m mc w).mono ?_
  rw [← hN.out]
  rintro e w' ⟨rfl, rfl⟩
  go_wp2_with fail
  go_loop [5] (fun i => ∃ j : Nat, j ≤ N ∧ i = .int .i64 ((j : Int) - 1) ∧ (∀ t, j ≤ t → t < N → at0 f n t = at0 g m t)) (fun i => (intOf i + 1).toNat)
  case atStart => exact ⟨N, Nat.le_refl _, rfl, fun t h1 h2 => by omega⟩
  case round =>
    obtain ⟨j, hj, rfl, hsame0⟩ := hrel
    have hsame := Lib.hid hsame0
    clear hsame0
    by_cases h0 : j = 0
    · subst h0
      go_wp2_with fail
      go_ret
      refine ⟨ret_num ?_, rfl⟩
      rw [cmpI_eq]
      rw [← val_at0_ge hnN, ← val_at0_ge hmN, val_congr fun t ht => hsame.out t (Nat.zero_le _) ht]
    · have p1 : 0 ≤ (j : Int) - 1 := by omega
      have ej : ((j : Int) - 1).toNat = j - 1 := by omega
      have ej' := Lib.hid ej
      clear ej
      go_wp2_with fail
      refine (refLimb_any ao n nc _ f w (by omega) hsf.out hlf.out).mono ?_
      rw [ej'.out]
      rintro e w' ⟨rfl, rfl⟩
      go_wp2_with fail
      refine (refLimb_any bo m mc _ g w (by omega) hsg.out hlg.out).mono ?_
      rw [ej'.out]
      rintro e w' ⟨rfl, rfl⟩
      by_cases h1 : at0 f n (j - 1) < at0 g m (j - 1)
      · go_wp2_with fail
        go_ret
        refine ⟨ret_num ?_, rfl⟩
        rw [cmpI_lt]
        rw [← val_at0_ge hnN, ← val_at0_ge hmN]
        exact Int.ofNat_lt.2 (val_lt_of_top (at0_lim hlf.out N) (j - 1) (by omega) (fun t a b => hsame.out t (by omega) b) h1)
      · go_wp2_with fail
        refine (refLimb_any ao n nc _ f w (by omega) hsf.out hlf.out).mono ?_
        rw [ej'.out]
        rintro e w' ⟨rfl, rfl⟩
        go_wp2_with fail
        refine (refLimb_any bo m mc _ g w (by omega) hsg.out hlg.out).mono ?_
        rw [ej'.out]
        rintro e w' ⟨rfl, rfl⟩
        by_cases h2 : at0 g m (j - 1) < at0 f n (j - 1)
        · go_wp2_with fail
          go_ret
          refine ⟨ret_num ?_, rfl⟩
          rw [cmpI_gt]
          rw [← val_at0_ge hnN, ← val_at0_ge hmN]
          exact Int.ofNat_lt.2 (val_lt_of_top (at0_lim hlg.out N) (j - 1) (by omega) (fun t a b => (hsame.out t (by omega) b).symm) h2)
        · go_wp2_with fail
          go_round
          case rel =>
            refine ⟨j - 1, by omega, int_eq (by omega), fun t a b => ?_⟩
            by_cases ht : t = j - 1
            · rw [ht]; omega
            · exact hsame.out t (by omega) b
          case measure => simp [intOf]; omega

theorem cells_snoc (F : Nat → Nat) (j x : Nat) (v : Int) (h : v = (x : Int)) : limbCells F j ++ [Value.int .u32 v] = limbCells (put F j x) (j + 1) := by
  subst h
  unfold limbCells
  rw [List.range_succ, List.map_append]
  congr 1
  · exact List.map_congr_left fun t ht => by rw [put_ne (by have := List.mem_range.1 ht; omega)]
  · simp [put_at]

theorem put_snoc_lim {F : Nat → Nat} {j x : Nat} (h : Lim F j) (hx : x < 4294967296) : Lim (put F j x) (j + 1) := by
  intro t ht
  by_cases c : t = j
  · rw [c, put_at]; exact hx
  · rw [put_ne c]; exact h t (by omega)

theorem one_at (w : World) (v : Value) (t : TypeId) : ∀ j u, [v][j]? = some u → (w.alloc (.cells #[v] t)).cell? ((⟨w.heap.size, 0, none⟩ : Addr).add j) = some u := by
  intro j u h
  match j, h with
  | 0, h =>
    simp at h
    subst h
    simp [Addr.add]

/-- One limb more behind those that the call's own slice holds. -/
theorem wpList_append_limb {P : Program} {w0 : World} {ops : Array Oper} {rest : List Oper} {o : Oper} {a : Act} {Q : Exit → Act → World → Prop} (hgd : o.guard = none) (s x : Operand) (t : TypeId)
    (ho : o.op = .call { callee := .builtin .append, args := #[s, x], argTypes := #[t, t] }) (base : Nat) (e : TypeId) (i : TypeInfo) (ht : P.underlying t = some (.slice e)) (hi : P.info? e = some i)
    (hz : i.zero = some (Value.int .u32 0)) (h1 : i.size = 1) (h4 : i.bytes = 4) (v : Value) (n : Nat) (F : Nat → Nat) (tt : TypeId) (z : Int) (y : Nat) (hs : a.eval s = v) (hx : a.eval x = .slice (some ⟨w0.heap.size, 0, none⟩) 1 1)
    (hown : w0.ownsRow base e 1 v n (limbCells F n)) (hzy : z = (y : Int)) (hn : n ≤ 1000000) (hb : base ≤ w0.heap.size)
    (h : ∀ v' w', w'.ownsRow base e 1 v' (n + 1) (limbCells (put F n y) (n + 1)) → Below base w0 w' → wpList P ops Q rest (a.put o.dst v') w') :
    wpList P ops Q (o :: rest) a (w0.alloc (.cells #[.int .u32 z] tt)) := by
  refine wpList_append_own _ hgd s x t ho base e i (.int .u32 0) 1 4 ht hi hz h1 h4 rfl (by decide) v n (limbCells F n) hs (hown.alloc _) ⟨w0.heap.size, 0, none⟩ 1 1 [.int .u32 z] hx rfl (one_at w0 _ tt) ?_ (by unfold maxLen; omega) (by omega) (by simp; omega) ?_
  · intro u hu
    simp at hu
    subst hu
    rfl
  · intro v' w' hown' hgr _
    rw [cells_snoc F n y z hzy] at hown'
    refine h v' w' hown' ?_
    exact ((Below.refl base w0).alloc hb _).grown hgr (by simp; omega) (fun k hk => (hown.lt k hk).1)

set_option maxHeartbeats 1000000 in
theorem refAdd_any (ao bo : Option Addr) (n nc m mc : Nat) (f g : Nat → Nat) (w : World) (A : Arg w ao n nc f) (B : Arg w bo m mc g) (hsum : max n m < 1000000) :
    Calls Try.prog 78 #[.slice ao n nc, .slice bo m mc] w (NumPost (val f n + val g m) w) := by
  obtain ⟨i32, hi, hz0, hz1, hz2⟩ := info_parts info32
  obtain ⟨hn, hnc, hnb, hf, lf⟩ := A
  obtain ⟨hm, hmc, hmb, hg, lg⟩ := B
  obtain ⟨N, hN0⟩ : ∃ N, N = max n m := ⟨_, rfl⟩
  have hnN : n ≤ N := by omega
  have hmN : m ≤ N := by omega
  have hNb : N < 1000000 := by omega
  have hN := Lib.hid hN0
  have hlf := Lib.hid lf; have hlg := Lib.hid lg; have hsf := Lib.hid hf; have hsg := Lib.hid hg
  clear hN0 hf hg lf lg hsum
  go_enter Try.func78, Try.ntmps78
  go_wp2_with fail
  go_loopw [5, 6, 7] (fun v c i wr => ∃ (j : Nat) (F : Nat → Nat) (cn : Nat), j ≤ N + 1 ∧ i = .int .i64 j ∧ c = .int .u64 cn ∧ cn ≤ 1 ∧ wr.ownsRow w.heap.size 47 1 v j (limbCells F j) ∧ Lim F j ∧
      val F j + cn * pw j = val (at0 f n) j + val (at0 g m) j ∧ Below w.heap.size w wr) (fun _ _ i _ => N + 1 - (intOf i).toNat)
  case atStart => exact ⟨0, fun _ => 0, 0, Nat.zero_le _, rfl, rfl, by omega, World.ownsRow_nil _ _ _ _, fun j h => by omega, rfl, Below.refl _ _⟩
  case round =>
    obtain ⟨j, F, cn, hj, rfl, rfl, hc, hown0, hlim0, hval0, hbel0⟩ := hrel
    have hown := Lib.hid hown0; have hlim := Lib.hid hlim0; have hval := Lib.hid hval0; have hbel := Lib.hid hbel0
    clear hown0 hlim0 hval0 hbel0
    have bf := at0_lt hlf.out j
    have bg := at0_lt hlg.out j
    go_wp2_with fail
    refine (longer_any ao bo n nc m mc _).mono ?_
    rw [← hN.out]
    rintro e w' ⟨rfl, rfl⟩
    by_cases hlt : j < N + 1
    · go_wp2_with fail
      refine (refLimb_any ao n nc j f wr (by omega) (hsf.out.below hbel.out) hlf.out).mono ?_
      rw [Int.toNat_natCast]
      rintro e w' ⟨rfl, rfl⟩
      go_wp2_with fail
      refine (refLimb_any bo m mc j g wr (by omega) (hsg.out.below hbel.out) hlg.out).mono ?_
      rw [Int.toNat_natCast]
      rintro e w' ⟨rfl, rfl⟩
      go_wp2_with (at_builtin; refine wpList_append_limb rfl (.tmp 25) (.tmp 29) 22 rfl w.heap.size 47 i32 Try.underlying22 hi hz0 hz1 hz2 _ j F _ _ ((at0 f n j + at0 g m j + cn) % 4294967296) rfl rfl hown.out (by omega) (by omega) hbel.out.size ?_)
      intro v' w1 hown1 hb1
      have hown' := Lib.hid hown1; have hbel' := Lib.hid (hbel.out.trans hb1)
      clear hown1 hb1
      go_wp2_with fail
      go_roundw
      case rel =>
        refine ⟨j + 1, put F j ((at0 f n j + at0 g m j + cn) % 4294967296), (at0 f n j + at0 g m j + cn) / 4294967296, by omega, by go_num, int_eq (by omega), by omega, hown'.out, ?_, ?_, hbel'.out⟩
        · exact put_snoc_lim hlim.out (Nat.mod_lt _ (by decide))
        · rw [val_put_succ, val_succ, val_succ, pw_succ]
          exact sum_step hval.out (by omega)
      case measure => simp [intOf]; omega
    · obtain rfl : j = N + 1 := by omega
      obtain ⟨ao', cap', rfl, g1, g2, g3⟩ := owns_slice hown.out
      have A' := Lib.hid (show Arg wr ao' (N + 1) cap' F from ⟨g1, g2, by omega, g3, hlim.out⟩)
      have hown' := Lib.hid hown.out
      clear g3
      go_wp2_with fail
      refine (refNorm_any ao' (N + 1) cap' F wr A'.out).mono ?_
      rintro e w2 ⟨bo', p, pc, h, rfl, hp, hpc, hsp, hcp, hb⟩
      have hsp' := Lib.hid hsp; have hcp' := Lib.hid hcp; have hbel' := Lib.hid (hbel.out.trans (hb.mono hbel.out.size))
      clear hsp hcp hb
      go_wp2_with fail
      go_ret
      refine ⟨bo', p, pc, h, rfl, hp, hpc, hsp'.out, ?_, hbel'.out⟩
      have e1 := hval.out
      rw [val_at0_ge (by omega), val_at0_ge (by omega)] at e1
      have a1 : val f n < pw N := Nat.lt_of_lt_of_le (val_lt hlf.out) (pw_le hnN)
      have a2 : val g m < pw N := Nat.lt_of_lt_of_le (val_lt hlg.out) (pw_le hmN)
      rw [← (sum_end e1 a1 a2).1]
      exact hcp'.out

end Go.Proofs.Ytnnipciifjpooaa
