/-
  nat.Text: the decimal digits.
-/
import Derived.Test.YtajkdinlannmnaaDoorDecA
import Derived.Deep.LoopGhost
import Derived.Laws.BytesArg
namespace Go.Proofs.YtajkdinlannmnaaDoor
open Go.RowKit Num

theorem info8 : (Tryd.prog.info? 5).map (fun i => (i.zero, i.size, i.bytes)) = some (some (.int .u8 0), 1, 1) := by kernel_rfl

/-- n bytes as cells. -/
def byteCells (F : Nat → Nat) (n : Nat) : List Value := (List.range n).map fun j => .int .u8 (F j)
theorem byteCells_length (F : Nat → Nat) (n : Nat) : (byteCells F n).length = n := by simp [byteCells]
theorem byteCells_get (F : Nat → Nat) (n j : Nat) (h : j < n) : (byteCells F n)[j]? = some (.int .u8 (F j)) := by simp [byteCells, h]
theorem byteCells_snoc (F : Nat → Nat) (j x : Nat) (v : Int) (h : v = (x : Int)) : byteCells F j ++ [Value.int .u8 v] = byteCells (put F j x) (j + 1) := by
  subst h
  unfold byteCells
  rw [List.range_succ, List.map_append]
  congr 1
  · exact List.map_congr_left fun t ht => by rw [put_ne (by have := List.mem_range.1 ht; omega)]
  · simp [put_at]
theorem byteCells_congr {F G : Nat → Nat} {n : Nat} (h : ∀ j, j < n → F j = G j) : byteCells F n = byteCells G n :=
  List.map_congr_left fun j hj => by rw [h j (List.mem_range.1 hj)]

theorem new_at (w : World) (v : Value) (t : TypeId) : ∀ j u, [v][j]? = some u → (w.alloc (.cells #[v] t)).cell? ((⟨w.heap.size, 0, none⟩ : Addr).add j) = some u := by
  intro j u h
  match j, h with
  | 0, h =>
    simp at h
    subst h
    simp [Addr.add]

/-- One byte more behind those that the call's own slice holds. -/
theorem wpList_append_byte {P : Program} {w0 : World} {ops : Array Oper} {rest : List Oper} {o : Oper} {a : Act} {Q : Exit → Act → World → Prop} (hgd : o.guard = none) (s x : Operand) (t : TypeId)
    (ho : o.op = .call { callee := .builtin .append, args := #[s, x], argTypes := #[t, t] }) (base : Nat) (e : TypeId) (i : TypeInfo) (ht : P.underlying t = some (.slice e)) (hi : P.info? e = some i)
    (hz : i.zero = some (Value.int .u8 0)) (h1 : i.size = 1) (h4 : i.bytes = 1) (v : Value) (n : Nat) (F : Nat → Nat) (tt : TypeId) (z : Int) (y : Nat) (hs : a.eval s = v) (hx : a.eval x = .slice (some ⟨w0.heap.size, 0, none⟩) 1 1)
    (hown : w0.ownsRow base e 1 v n (byteCells F n)) (hzy : z = (y : Int)) (hn : n ≤ 1000000) (hb : base ≤ w0.heap.size)
    (h : ∀ v' w', w'.ownsRow base e 1 v' (n + 1) (byteCells (put F n y) (n + 1)) → Below base w0 w' → wpList P ops Q rest (a.put o.dst v') w') :
    wpList P ops Q (o :: rest) a (w0.alloc (.cells #[.int .u8 z] tt)) := by
  refine wpList_append_own _ hgd s x t ho base e i (.int .u8 0) 1 1 ht hi hz h1 h4 rfl (by decide) v n (byteCells F n) hs (hown.alloc _) ⟨w0.heap.size, 0, none⟩ 1 1 [.int .u8 z] hx rfl (new_at w0 _ tt) ?_ (by unfold maxLen; omega) (by omega) (by simp; omega) ?_
  · intro u hu
    simp at hu
    subst hu
    rfl
  · intro v' w' hown' hgr _
    rw [byteCells_snoc F n y z hzy] at hown'
    refine h v' w' hown' ?_
    exact ((Below.refl base w0).alloc hb _).grown hgr (by simp; omega) (fun k hk => (hown.lt k hk).1)

theorem owns_kept {w w' : World} {base n b : Nat} {t : TypeId} {v : Value} {xs : List Value} (h : w.ownsRow base t 1 v n xs) (hg : w.grownBy w' (some b)) (hb : b < base) : w'.ownsRow base t 1 v n xs := by
  refine h.kept hg ?_
  cases hv : v.ownBlock with
  | none => exact .inl rfl
  | some k =>
    refine .inr (fun e => ?_)
    cases e
    have := (h.lt b hv).1
    omega

theorem owns_bytes {w : World} {base n : Nat} {t : TypeId} {v : Value} {F : Nat → Nat} (h : w.ownsRow base t 1 v n (byteCells F n)) (hn : 0 < n) :
    ∃ g cap, v = .slice (some ⟨g, 0, none⟩) n cap ∧ n ≤ cap ∧ cap ≤ 9223372036854775807 ∧ base ≤ g ∧ Byt w g n F := by
  rcases h.2 with ⟨_, hn0⟩ | ⟨g, cap, cur, hv, hb, hg, hnc, hcm, hcs, ht⟩
  · omega
  · subst hv
    exact ⟨g, cap, rfl, hnc, by unfold maxLen at hcm; omega, hb, fun j hj => by rw [h.cellAt j (by omega), byteCells_get F n j hj], fun j => h.frozenAt j⟩

theorem Num.dval_trim {d : Nat → Nat} {k L : Nat} (hk : k ≤ L) (hz : ∀ t, k ≤ t → t < L → d t = 0) : dval d L = dval d k := by
  induction L with
  | zero => obtain rfl : k = 0 := by omega
            rfl
  | succ L ih =>
    by_cases c : k = L + 1
    · rw [c]
    · rw [dval_nought (hz L (by omega) (by omega)), ih (by omega) (fun t a b => hz t a (by omega))]

theorem Num.group_step {d : Nat → Nat} {M G T V : Nat} (h : dval d M + 10 ^ M * G + T = V) : dval (put d M (G % 10)) (M + 1) + 10 ^ (M + 1) * (G / 10) + T = V := by
  rw [dval_put_succ, ten_succ]
  have e := Nat.mod_add_div G 10
  have e1 : 10 ^ M * G = G % 10 * 10 ^ M + 10 * 10 ^ M * (G / 10) := by
    have : 10 ^ M * G = 10 ^ M * (G % 10 + 10 * (G / 10)) := by rw [e]
    rw [this, Nat.mul_add, Nat.mul_comm (10 ^ M) (G % 10), ← Nat.mul_assoc, Nat.mul_comm (10 ^ M) 10]
  omega

theorem Num.ten_few {L M : Nat} (h : 10 ^ L < pw M) : L < 32 * M := by
  rw [pw_two'] at h
  have b : (2 : Nat) ^ (32 * M) ≤ 10 ^ (32 * M) := Nat.pow_le_pow_left (by decide) _
  exact (Nat.pow_lt_pow_iff_right (by decide)).1 (Nat.lt_of_lt_of_le h b)

theorem Num.dec_few {d : Nat → Nat} {L V V0 M : Nat} (h : dval d L + 10 ^ L * V = V0) (hV : 0 < V) (h0 : V0 < pw M) : L < 32 * M := by
  have a : 10 ^ L * 1 ≤ 10 ^ L * V := Nat.mul_le_mul_left _ hV
  exact ten_few (by omega)

theorem byteCells_put (d : Nat → Nat) (n x : Nat) : byteCells (put (fun j => 48 + d j) n (48 + x)) (n + 1) = byteCells (fun j => 48 + put d n x j) (n + 1) :=
  byteCells_congr fun j _ => by
    by_cases c : j = n
    · rw [c, put_at, put_at]
    · rw [put_ne c, put_ne c]

def TextPost (V : Nat) (w : World) (e : Ending) (w' : World) : Prop :=
  ∃ (k : Nat) (d : Nat → Nat) (s : ByteArray), e = .returned (.string s) ∧ Dcan V k d ∧ s.data.toList = decText d k ∧ Below w.heap.size w w'

set_option maxHeartbeats 4000000 in
theorem text_any (ao : Option Addr) (n nc : Nat) (f : Nat → Nat) (w : World) (A : Arg w ao n nc f) (M : Nat) (h40 : n ≤ M) (hM : M ≤ 400) :
    Calls Tryd.prog 5 #[.slice ao n nc] w (TextPost (val f n) w) := by
  obtain ⟨i8, hi, hz0, hz1, hz2⟩ := info_parts info8
  have hV0 : val f n < pw M := Nat.lt_of_lt_of_le (val_lt A.lim) (pw_le h40)
  have hA := Lib.hid A
  clear A
  obtain ⟨V0, hV⟩ : ∃ V0, V0 = val f n := ⟨_, rfl⟩
  rw [← hV] at hV0 ⊢
  have hV' := Lib.hid hV; have hVs := Lib.hid hV0
  clear hV hV0
  go_enter Tryd.func5, Tryd.ntmps5
  go_wp2_with fail
  refine (norm_own ao n nc f w hA.out).mono ?_
  rw [← hV'.out]
  rintro e w1 ⟨B, K, F0, rfl, hB, hB1, hblk0, hcan0, hbel0⟩
  have hblk1 := Lib.hid hblk0; have hcan1 := Lib.hid hcan0; have hbel1 := Lib.hid hbel0
  have hK : K ≤ M := hcan0.len_le hVs.out
  clear hblk0 hcan0 hbel0
  go_wp2_with fail
  go_loopg [3, 4] V0 (fun V dv rv wr => ∃ (L k : Nat) (F d : Nat → Nat), rv = .slice (some ⟨B, 0, none⟩) k K ∧ k ≤ K ∧ Blk wr B k F ∧ Canon V k F ∧ wr.ownsRow w1.heap.size 5 1 dv L (byteCells (fun j => 48 + d j) L) ∧ Dig d L ∧
      dval d L + 10 ^ L * V = V0 ∧ (L = 0 → dv = .slice none 0 0) ∧ Below w.heap.size w wr ∧ w1.heap.size ≤ wr.heap.size)
  case atStart =>
    exact ⟨0, K, F0, fun _ => 0, rfl, Nat.le_refl _, hblk1.out, hcan1.out, World.ownsRow_nil _ _ _ _, fun j h => by omega, by simp [dval], fun _ => rfl, hbel1.out, Nat.le_refl _⟩
  case round =>
    obtain ⟨L, k, F, d, rfl, hk, hblk0, hcan0, hown0, hdig0, hval0, hnil0, hbel0, hsz⟩ := hrel
    have hblk := Lib.hid hblk0; have hcan := Lib.hid hcan0; have hown := Lib.hid hown0; have hdig := Lib.hid hdig0; have hval := Lib.hid hval0; have hnil := Lib.hid hnil0; have hbel := Lib.hid hbel0
    clear hblk0 hcan0 hown0 hdig0 hval0 hnil0 hbel0
    by_cases h0 : k = 0
    · subst h0
      have hg0 : gk = 0 := hcan.out.ne_zero.1 rfl
      have hd1 := Lib.hid (show dval d L = V0 by have := hval.out; rw [hg0, Nat.mul_zero] at this; exact this)
      by_cases hL0 : L = 0
      · subst hL0
        have hu := hnil.out rfl
        subst hu
        go_wp2_with fail
        refine (trimRight_none wr).mono ?_
        rintro e w' ⟨rfl, rfl⟩
        go_wp2_with fail
        go_ret
        exact ⟨0, d, _, rfl, ⟨fun j h => by omega, .inl rfl, hd1.out⟩, rfl, hbel.out⟩
      · obtain ⟨g, cap, rfl, hcap, hmax, hg, hbyt0⟩ := owns_bytes hown.out (Nat.pos_of_ne_zero hL0)
        have hbyt := Lib.hid hbyt0
        clear hbyt0
        go_wp2_with fail
        refine (trimRight_any g L cap _ wr hcap hmax hbyt.out.cell (Nat.pos_of_ne_zero hL0)).mono ?_
        rintro e w' ⟨k, hk', rfl, ht0, hz0, rfl⟩
        have hval2 := Lib.hid ((dval_trim hk' (fun t a b => by have := hz0 t a b; omega)).symm.trans hd1.out)
        have htop : Top d k := ht0.imp id (fun h => by omega)
        have hdig2 := Lib.hid (hdig.out.mono hk')
        clear hz0
        by_cases hk0 : k = 0
        · subst hk0
          go_wp2_with fail
          go_ret
          exact ⟨0, d, _, rfl, ⟨hdig2.out, .inl rfl, hval2.out⟩, rfl, hbel.out⟩
        · have hkl : k - 1 < 32 * M := ten_few (Nat.lt_of_le_of_lt (dval_ge (n := k - 1) (htop.resolve_left hk0)) (by rw [show k - 1 + 1 = k by omega, hval2.out]; exact hVs.out))
          have htop' := Lib.hid htop
          have hkz : ((k : Int) == 0) = false := by rw [beq_eq_false_iff_ne]; omega
          clear htop ht0
          go_wp2_with fail
          refine (reverse_any g k cap _ wr (by omega) ⟨fun j hj => hbyt.out.cell j (by omega), hbyt.out.free⟩).mono ?_
          rintro e w5 ⟨G, rfl, hbyt5, hG, hgr5⟩
          have hb5 := Lib.hid hbyt5; have hG' := Lib.hid hG
          have hbel5 := Lib.hid (hbel.out.grown hgr5 hbel.out.size (fun q hq => by cases hq; omega))
          clear hbyt5 hG hgr5
          have hconv := run_convert_bytes_arg (P := Tryd.prog) w5 30 5 Tryd.underlying30 Tryd.underlying5 g 0 k cap ((List.range k).map fun j => (G j : Int)) (by simp) (fun i hi => by simp [hi]; exact hb5.out.cell i hi) 9 Tryd.underlying9
          go_wp2_with fail
          go_ret
          refine ⟨k, d, _, rfl, ⟨hdig2.out, htop'.out, hval2.out⟩, ?_, hbel5.out⟩
          rw [strOfNums_data]
          unfold decText digBytes
          rw [if_neg hk0, List.map_map]
          exact List.map_congr_left fun j hj => by
            simp only [Function.comp, Int.toNat_natCast]
            rw [hG'.out j (List.mem_range.1 hj)]
    · have hg0 : 0 < gk := Nat.pos_of_ne_zero (fun e => h0 (hcan.out.ne_zero.2 e))
      have hL := dec_few (M := M) hval.out hg0 hVs.out
      have hkp : 0 < k := by omega
      go_wp2_with fail
      refine (takeGroup_any B k K F wr (by omega) hblk.out hcan.out.lim).mono ?_
      rw [hcan.out.val]
      rintro e w2 ⟨r, F', hr0, rfl, hblk0, hlim0, hval0, hgr0⟩
      have hr := Lib.hid hr0; have hblk2 := Lib.hid hblk0; have hlim2 := Lib.hid hlim0; have hval2 := Lib.hid hval0; have hgr2 := Lib.hid hgr0
      have hrl : r < 1000000000 := by rw [hr0]; exact Nat.mod_lt _ (by decide)
      have hown2 := Lib.hid (owns_kept hown.out hgr0 hB1)
      have hbel2 := Lib.hid (hbel.out.grown hgr0 hbel.out.size (fun q hq => by cases hq; exact hB))
      have hsz2 : w1.heap.size ≤ w2.heap.size := Nat.le_trans hsz hgr0.size
      clear hr0 hblk0 hlim0 hval0 hgr0
      go_wp2_with fail
      obtain ⟨wo, hwo⟩ : ∃ wo : World, wo = wr := ⟨_, rfl⟩
      obtain ⟨q, hq0⟩ : ∃ q, q = gk / 1000000000 := ⟨_, rfl⟩
      have hq := Lib.hid hq0
      clear hwo hq0
      go_loopw [3, 5, 15] (fun dv gv iv wr => ∃ (c G : Nat) (e : Nat → Nat), c ≤ 9 ∧ iv = .int .i64 c ∧ gv = .int .u32 G ∧ G < 10 ^ (9 - c) ∧ wr.ownsRow w1.heap.size 5 1 dv (L + c) (byteCells (fun j => 48 + e j) (L + c)) ∧ Dig e (L + c) ∧
          dval e (L + c) + 10 ^ (L + c) * G + 10 ^ (L + 9) * q = V0 ∧ Below w1.heap.size w2 wr) (fun _ _ iv _ => 9 - (intOf iv).toNat)
      case atStart =>
        refine ⟨0, r, d, by omega, rfl, rfl, hrl, hown2.out, hdig.out, ?_, Below.refl _ _⟩
        have e1 := hval.out
        have e2 := Nat.mod_add_div gk 1000000000
        rw [← hr.out, ← hq.out] at e2
        rw [← e2, Nat.mul_add, ← Nat.mul_assoc] at e1
        rw [Nat.add_zero, Nat.pow_add, show (10 : Nat) ^ 9 = 1000000000 from rfl]
        omega
      case round =>
        obtain ⟨c, G, e, hc, rfl, rfl, hG, hown0, hdig0, hval0, hbel0⟩ := hrel
        have hown3 := Lib.hid hown0; have hdig3 := Lib.hid hdig0; have hval3 := Lib.hid hval0; have hbel3 := Lib.hid hbel0; have hG' := Lib.hid hG
        have hGl : G < 1000000000 := by
          have : (10 : Nat) ^ (9 - c) ≤ 10 ^ 9 := ten_le (by omega)
          have e9 : (10 : Nat) ^ 9 = 1000000000 := rfl
          omega
        clear hown0 hdig0 hval0 hbel0 hG
        by_cases hlt : c < 9
        · go_wp2_with (at_builtin; refine wpList_append_byte rfl (.tmp 17) (.tmp 22) 30 rfl w1.heap.size 5 i8 Tryd.underlying30 hi hz0 hz1 hz2 _ (L + c) (fun j => 48 + e j) _ _ (48 + G % 10) rfl rfl hown3.out (by omega) (by omega) (Nat.le_trans hsz2 hbel3.out.size) ?_)
          intro v' w4 hown1 hb1
          rw [byteCells_put] at hown1
          have hown4 := Lib.hid hown1; have hbel4 := Lib.hid (hbel3.out.trans hb1)
          clear hown1 hb1
          go_wp2_with fail
          go_roundw
          case rel =>
            refine ⟨c + 1, G / 10, put e (L + c) (G % 10), by omega, by go_num, int_eq (by omega), ?_, hown4.out, put_dig hdig3.out (Nat.mod_lt _ (by decide)), group_step hval3.out, hbel4.out⟩
            have h1 := hG'.out
            rw [show 9 - c = 9 - (c + 1) + 1 by omega, ten_succ] at h1
            omega
          case measure => simp [intOf]; omega
        · obtain rfl : c = 9 := by omega
          have hG0 := Lib.hid (show G = 0 by have := hG'.out; simp at this; exact this)
          have hblk3 := Lib.hid (hblk2.out.below hbel3.out hB1)
          go_wp2_with fail
          refine (trim_any (some ⟨B, 0, none⟩) k K F' _ hk (by omega) (Sl.of_blk0 hblk3.out k (Nat.le_refl _))).mono ?_
          rintro e' w' ⟨p, hp, rfl, htp0, hvp0, rfl⟩
          have htp := Lib.hid htp0; have hvp := Lib.hid hvp0; clear htp0 hvp0
          go_wp2_with fail
          go_roundg q
          case measure => rw [hq.out]; exact Nat.div_lt_self hg0 (by decide)
          case rel =>
            refine ⟨L + 9, p, F', e, rfl, by omega, hblk3.out.mono hp, ⟨hlim2.out.mono hp, htp.out, ?_⟩, hown3.out, hdig3.out, ?_, fun h => by omega, hbel2.out.trans (hbel3.out.mono hbel1.out.size), Nat.le_trans hsz2 hbel3.out.size⟩
            · rw [hvp.out, hval2.out, hq.out]
            · have e1 := hval3.out
              rw [hG0.out, Nat.mul_zero, Nat.add_zero] at e1
              exact e1

end Go.Proofs.YtajkdinlannmnaaDoor
