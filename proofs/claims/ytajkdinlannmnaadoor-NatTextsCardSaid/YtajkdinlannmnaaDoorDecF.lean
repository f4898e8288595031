/-
  scrimref02.Text.
-/
import Derived.Test.YtajkdinlannmnaaDoorDecB
import Derived.Test.YtajkdinlannmnaaDoorRefA
import Derived.Laws.AppendOwnNone
namespace Go.Proofs.YtajkdinlannmnaaDoor
open Go.RowKit Num

/-- One limb ahead of others. -/
def pre (x : Nat) (f : Nat → Nat) (j : Nat) : Nat := if j = 0 then x else f (j - 1)
theorem pre_zero (x : Nat) (f : Nat → Nat) : pre x f 0 = x := rfl
theorem pre_succ (x : Nat) (f : Nat → Nat) (j : Nat) : pre x f (j + 1) = f j := rfl
theorem pre_lim {x n : Nat} {f : Nat → Nat} (h : Lim f n) (hx : x < 4294967296) : Lim (pre x f) (n + 1) := by
  intro j hj
  cases j with
  | zero => exact hx
  | succ j => exact h j (by omega)
theorem val_pre (x n : Nat) (f : Nat → Nat) : val (pre x f) (n + 1) = x + 4294967296 * val f n := by
  have e := val_cons' (pre x f) 0 n
  rw [val_congr (f := fun t => pre x f (0 + t)) (g := pre x f) (fun t _ => by rw [Nat.zero_add]), val_congr (f := fun t => pre x f (0 + 1 + t)) (g := f) (fun t _ => by rw [Nat.zero_add, Nat.add_comm 1 t]; rfl)] at e
  exact e
theorem cells_pre (x n : Nat) (f : Nat → Nat) : Value.int .u32 (x : Int) :: limbCells f n = limbCells (pre x f) (n + 1) := by
  unfold limbCells
  rw [List.range_succ_eq_map, List.map_cons, List.map_map]
  rfl

theorem owns_new (w : World) (v : Value) (t : TypeId) (base : Nat) (hb : base ≤ w.heap.size) : (w.alloc (.cells #[v] t)).ownsRow base t 1 (.slice (some ⟨w.heap.size, 0, none⟩) 1 1) 1 [v] := by
  refine ⟨rfl, .inr ⟨w.heap.size, 1, #[v], rfl, hb, ?_, Nat.le_refl _, by decide, rfl, rfl⟩⟩
  show (w.heap.push _)[w.heap.size]? = _
  simp

/-- The limbs of the call's own behind a new one. -/
theorem wpList_prepend {P : Program} {w0 : World} {ops : Array Oper} {rest : List Oper} {o : Oper} {a : Act} {Q : Exit → Act → World → Prop} (hgd : o.guard = none) (s x : Operand) (t : TypeId)
    (ho : o.op = .call { callee := .builtin .append, args := #[s, x], argTypes := #[t, t] }) (base : Nat) (e : TypeId) (i : TypeInfo) (ht : P.underlying t = some (.slice e)) (hi : P.info? e = some i)
    (hz : i.zero = some (Value.int .u32 0)) (h1 : i.size = 1) (h4 : i.bytes = 4) (v : Value) (n : Nat) (H : Nat → Nat) (z : Int) (q : Nat) (hs : a.eval s = .slice (some ⟨w0.heap.size, 0, none⟩) 1 1) (hx : a.eval x = v)
    (hown : w0.ownsRow base e 1 v n (limbCells H n)) (hzq : z = (q : Int)) (hn : n ≤ 1000000) (hb : base ≤ w0.heap.size)
    (h : ∀ v' w', w'.ownsRow base e 1 v' (n + 1) (limbCells (pre q H) (n + 1)) → Below base w0 w' → wpList P ops Q rest (a.put o.dst v') w') :
    wpList P ops Q (o :: rest) a (w0.alloc (.cells #[.int .u32 z] e)) := by
  subst hzq
  have hnew := owns_new w0 (.int .u32 (q : Int)) e base hb
  have hbel := (Below.refl base w0).alloc hb (.cells #[.int .u32 (q : Int)] e)
  rcases hown.2 with ⟨rfl, rfl⟩ | ⟨g, cap, cur, rfl, _⟩
  · exact wpList_append_own_none hgd s x t ho base e i 1 ht hi _ 1 _ hs hnew hx (h _ _ (by rw [← cells_pre]; exact hnew) hbel)
  · have hown2 := hown.alloc (.cells #[.int .u32 (q : Int)] e)
    refine wpList_append_own _ hgd s x t ho base e i (.int .u32 0) 1 4 ht hi hz h1 h4 rfl (by decide) _ 1 _ hs hnew ⟨g, 0, none⟩ n cap (limbCells H n) hx (by rw [limbCells_length, Nat.mul_one])
      (limbCells_at (b := g) (off := 0) (n := n) (f := H) (fun j hj => by rw [Nat.zero_add, hown2.cellAt j (by omega), limbCells_get H n j hj])) (limbCells_one H n) (by unfold maxLen; omega) (by omega) (by simp; omega) ?_
    intro v' w' hown' hgr _
    refine h v' w' ?_ (hbel.grown hgr (by simp; omega) (fun k hk => (hnew.lt k hk).1))
    rw [← cells_pre, Nat.add_comm n 1]
    exact hown'

theorem digit_ahead (R : Nat) (hR : R < 10) (s : ByteArray) : ((ByteArray.mk #[48, 49, 50, 51, 52, 53, 54, 55, 56, 57]).extract R (R + 1) ++ s).data.toList = UInt8.ofNat (48 + R) :: s.data.toList := by
  have : ((ByteArray.mk #[48, 49, 50, 51, 52, 53, 54, 55, 56, 57]).extract R (R + 1)).data.toList = [UInt8.ofNat (48 + R)] := by
    match R, hR with
    | 0, _ => rfl
    | 1, _ => rfl
    | 2, _ => rfl
    | 3, _ => rfl
    | 4, _ => rfl
    | 5, _ => rfl
    | 6, _ => rfl
    | 7, _ => rfl
    | 8, _ => rfl
    | 9, _ => rfl
  rw [ByteArray.data_append, Array.toList_append, this]
  rfl

theorem digBytes_snoc (d : Nat → Nat) (L R : Nat) : UInt8.ofNat (48 + R) :: digBytes d L = digBytes (put d L R) (L + 1) := by
  unfold digBytes
  rw [List.range_succ_eq_map, List.map_cons, List.map_map]
  congr 1
  · rw [show L + 1 - 1 - 0 = L by omega, put_at]
  · exact List.map_congr_left fun j hj => by
      have := List.mem_range.1 hj
      show _ = UInt8.ofNat (48 + put d L R (L + 1 - 1 - (j + 1)))
      rw [put_ne (by omega), show L + 1 - 1 - (j + 1) = L - 1 - j by omega]

set_option maxHeartbeats 4000000 in
theorem refText_any (ao : Option Addr) (n nc : Nat) (f : Nat → Nat) (w : World) (A : Arg w ao n nc f) (h40 : n ≤ 40) :
    Calls Tryd.prog 7 #[.slice ao n nc] w (TextPost (val f n) w) := by
  obtain ⟨i32, hi, hz0, hz1, hz2⟩ := info_parts info32
  have hV0 : val f n < pw 40 := Nat.lt_of_lt_of_le (val_lt A.lim) (pw_le h40)
  have hA := Lib.hid A
  clear A
  obtain ⟨V0, hV⟩ : ∃ V0, V0 = val f n := ⟨_, rfl⟩
  rw [← hV] at hV0 ⊢
  have hV' := Lib.hid hV; have hVs := Lib.hid hV0
  clear hV hV0
  go_enter Tryd.func7, Tryd.ntmps7
  go_wp2_with fail
  refine (refNorm_any ao n nc f w hA.out).mono ?_
  rw [← hV'.out]
  rintro e w1 ⟨xo, k, kc, F0, rfl, hk, hkc, hs0, hc0, hb0⟩
  have hs1 := Lib.hid hs0; have hc1 := Lib.hid hc0; have hb1 := Lib.hid hb0
  have hk40 : k ≤ 40 := hc0.len_le hVs.out
  clear hs0 hc0 hb0
  by_cases h0 : k = 0
  · subst h0
    have hv0 : V0 = 0 := hc1.out.ne_zero.1 rfl
    subst hv0
    go_wp2_with fail
    go_ret
    exact ⟨0, fun _ => 0, _, rfl, ⟨fun j h => by omega, .inl rfl, rfl⟩, rfl, hb1.out⟩
  · have hkz : ((k : Int) == 0) = false := by rw [beq_eq_false_iff_ne]; omega
    have hVp := Lib.hid (Nat.pos_of_ne_zero (fun e => h0 (hc1.out.ne_zero.2 e)))
    clear h0
    go_wp2_with fail
    go_loopg [3, 4] V0 (fun V xv sv wr => ∃ (L k : Nat) (xo : Option Addr) (kc : Nat) (F d : Nat → Nat) (s : ByteArray), xv = .slice xo k kc ∧ sv = .string s ∧ k ≤ 40 ∧ k ≤ kc ∧ kc ≤ 9223372036854775807 ∧ Sl wr xo k F ∧ Canon V k F ∧ s.data.toList = digBytes d L ∧ Dig d L ∧
      dval d L + 10 ^ L * V = V0 ∧ (V = 0 → 0 < L ∧ Top d L) ∧ Below w.heap.size w wr ∧ w1.heap.size ≤ wr.heap.size)
    case atStart =>
      exact ⟨0, k, xo, kc, F0, fun _ => 0, _, rfl, rfl, hk40, hk, hkc, hs1.out, hc1.out, rfl, fun j h => by omega, by simp [dval], fun h => absurd h (Nat.ne_of_gt hVp.out), hb1.out, Nat.le_refl _⟩
    case round =>
      clear hs1 hc1 hkz hVp
      obtain ⟨L, k, xo, kc, F, d, s, rfl, rfl, hk40, hk, hkc, hs0, hc0, hst0, hdig0, hval0, htop0, hbel0, hsz⟩ := hrel
      have hs := Lib.hid hs0; have hc := Lib.hid hc0; have hst := Lib.hid hst0; have hdig := Lib.hid hdig0; have hval := Lib.hid hval0; have htop := Lib.hid htop0; have hbel := Lib.hid hbel0
      clear hs0 hc0 hst0 hdig0 hval0 htop0 hbel0
      by_cases h0 : k = 0
      · subst h0
        have hv0 : gk = 0 := hc.out.ne_zero.1 rfl
        go_wp2_with fail
        go_ret
        refine ⟨L, d, _, rfl, ⟨hdig.out, (htop.out hv0).2, ?_⟩, ?_, hbel.out⟩
        · have := hval.out
          rw [hv0, Nat.mul_zero] at this
          exact this
        · unfold decText
          rw [if_neg (Nat.ne_of_gt (htop.out hv0).1)]
          exact hst.out
      · have hVp := Lib.hid (Nat.pos_of_ne_zero (fun e => h0 (hc.out.ne_zero.2 e)))
        have hL := dec_few (M := 40) hval.out hVp.out hVs.out
        have hlim := Lib.hid hc.out.lim
        have hss : s.size = L := by
          have := congrArg List.length hst.out
          simpa [digBytes] using this
        rename World => wo
        rcases hs.out with hk | ⟨b, off, rfl, hcl0⟩
        · omega
        have hcl := Lib.hid hcl0
        clear hcl0
        go_wp2_with fail
        simp only [Nat.pos_of_ne_zero h0, decide_true]
        go_loopw [5, 6, 7] (fun ov rv iv wi => ∃ (c j R : Nat) (H : Nat → Nat), c + j = k ∧ iv = .int .i64 ((j : Int) - 1) ∧ rv = .int .u64 R ∧ R < 10 ∧ wi.ownsRow wo.heap.size 31 1 ov c (limbCells H c) ∧ Lim H c ∧
            val (fun t => F (j + t)) c = 10 * val H c + R ∧ Below wo.heap.size wo wi) (fun _ _ iv _ => (intOf iv + 1).toNat)
        case atStart =>
          refine ⟨0, k, 0, fun _ => 0, by omega, rfl, rfl, by omega, World.ownsRow_nil _ _ _ _, fun j h => by omega, ?_, Below.refl _ _⟩
          rw [val_zero, val_zero]
        case round =>
          obtain ⟨c, j, R, H, hcj, rfl, rfl, hR, hown0, hlimH0, hval0, hbel0⟩ := hrel
          have hown := Lib.hid hown0; have hlimH := Lib.hid hlimH0; have hvalH := Lib.hid hval0; have hbelH := Lib.hid hbel0
          clear hown0 hlimH0 hval0 hbel0
          by_cases hj0 : j = 0
          · subst hj0
            obtain rfl : c = k := by omega
            obtain ⟨ao', cap', rfl, g1, g2, g3⟩ := owns_slice hown.out
            have A' := Lib.hid (show Arg wr ao' c cap' H from ⟨g1, g2, by omega, g3, hlimH.out⟩)
            clear g3
            go_wp2_with fail
            refine (refNorm_any ao' c cap' H wr A'.out).mono ?_
            rintro e w2 ⟨bo', p, pc, h, rfl, hp, hpc, hsp, hcp, hb⟩
            have hsp' := Lib.hid hsp; have hcp' := Lib.hid hcp; have hbel' := Lib.hid ((hbel.out.trans (hbelH.out.mono hbel.out.size)).trans (hb.mono (Nat.le_trans hbel.out.size hbelH.out.size)))
            have hsz' := Nat.le_trans hbelH.out.size hb.size
            have hVe := Lib.hid (show gk = 10 * val H c + R by rw [← hc.out.val, ← hvalH.out]; exact val_congr fun t _ => by rw [Nat.zero_add])
            have hp40 : p ≤ 40 := hcp.len_le (Nat.lt_of_le_of_lt (show val H c ≤ V0 by
              have e1 := hval.out
              have e2 : 1 * gk ≤ 10 ^ L * gk := Nat.mul_le_mul_right _ (ten_pos L)
              have := hVe.out
              omega) hVs.out)
            clear hsp hcp hb
            go_wp2_with fail
            go_roundg (val H c)
            case measure =>
              have := hVe.out
              have := hVp.out
              omega
            case rel =>
              refine ⟨L + 1, p, bo', pc, h, put d L R, _, rfl, rfl, hp40, hp, hpc, hsp'.out, hcp'.out, ?_, put_dig hdig.out hR, ?_, fun h0 => ⟨by omega, .inr ?_⟩, hbel'.out, Nat.le_trans hsz hsz'⟩
              · rw [digit_ahead R hR, hst.out, digBytes_snoc]
              · have e := group_step (T := 0) hval.out
                rw [hVe.out, show (10 * val H c + R) % 10 = R by omega, show (10 * val H c + R) / 10 = val H c by omega] at e
                exact e
              · rw [Nat.add_sub_cancel, put_at]
                have := hVe.out
                have := hVp.out
                omega
          · obtain ⟨t, rfl⟩ : ∃ t, j = t + 1 := ⟨j - 1, by omega⟩
            have hcell := (hbelH.out.cell (World.block_lt_of_cell? wo _ (hcl.out t (by omega)))).trans (hcl.out t (by omega))
            have hx := hlim.out t (by omega)
            have hq : (R * 4294967296 + F t) / 10 < 4294967296 := by omega
            clear hj0
            go_wp2_with (at_builtin; refine wpList_prepend rfl (.tmp 35) (.tmp 36) 22 rfl wo.heap.size 31 i32 Tryd.underlying22 hi hz0 hz1 hz2 _ c H _ ((R * 4294967296 + F t) / 10) rfl rfl hown.out (by omega) (by omega) hbelH.out.size ?_)
            intro v' w4 hown1 hb1
            have hown4 := Lib.hid hown1; have hbel4 := Lib.hid (hbelH.out.trans hb1)
            clear hown1 hb1
            go_wp2_with fail
            go_roundw
            case rel =>
              refine ⟨c + 1, t, (R * 4294967296 + F t) % 10, pre ((R * 4294967296 + F t) / 10) H, by omega, int_eq (by omega), int_eq (by omega), by omega, hown4.out, pre_lim hlimH.out hq, ?_, hbel4.out⟩
              rw [val_cons', hvalH.out, val_pre]
              omega
            case measure => simp [intOf]

end Go.Proofs.YtajkdinlannmnaaDoor
