/-
  nat.appendDigits.
-/
import Derived.Test.YtajkdinlannmnaaDoorDecD
namespace Go.Proofs.YtajkdinlannmnaaDoor
open Go.RowKit Num

/-- Digits alone. -/
def DigT (s : ByteArray) : Prop := ∀ j, j < s.size → 48 ≤ byt s j ∧ byt s j ≤ 57

theorem sval_lt {s : ByteArray} (h : DigT s) : ∀ j, j ≤ s.size → sval s j < 10 ^ j
  | 0, _ => Nat.zero_lt_one
  | j + 1, hj => by
    have a := sval_lt h j (by omega)
    have b := h j (by omega)
    have e : sval s (j + 1) = sval s j * 10 + (byt s j - 48) := rfl
    rw [ten_succ, e]
    omega

def DigPost (base W : Nat) (w : World) (e : Ending) (w' : World) : Prop :=
  ∃ (v : Value) (n : Nat) (F : Nat → Nat), e = .returned v ∧ w'.ownsRow base 31 1 v n (limbCells F n) ∧ Canon W n F ∧ Below base w w'

set_option maxHeartbeats 2000000 in
theorem appendDigits_some (base n g cap : Nat) (F : Nat → Nat) (V : Nat) (gs : ByteArray) (w : World) (hown : w.ownsRow base 31 1 (.slice (some ⟨g, 0, none⟩) n cap) n (limbCells F n)) (hc : Canon V n F) (hb : base ≤ w.heap.size) (hgb : base ≤ g)
    (hnc : n ≤ cap) (_hcm : cap ≤ 9223372036854775807) (hn : n ≤ 100000) (hd : DigT gs) (h9 : gs.size ≤ 9) :
    Calls Tryd.prog 18 #[.slice (some ⟨g, 0, none⟩) n cap, .string gs] w (DigPost base (V * 10 ^ gs.size + sval gs gs.size) w) := by
  obtain ⟨i32, hi, hz0, hz1, hz2⟩ := info_parts info32
  have hown' := Lib.hid hown; have hc' := Lib.hid hc; have hd' := Lib.hid hd
  clear hown hc hd
  go_enter Tryd.func18, Tryd.ntmps18
  go_wp2_with fail
  go_loop [5, 6, 12] (fun sc cr i => ∃ j p q : Nat, j ≤ gs.size ∧ i = .int .i64 j ∧ sc = .int .u64 p ∧ cr = .int .u64 q ∧ p = 10 ^ j ∧ q = sval gs j) (fun _ _ i => gs.size - (intOf i).toNat)
  case atStart => exact ⟨0, 1, 0, Nat.zero_le _, rfl, rfl, rfl, rfl, rfl⟩
  case round =>
    obtain ⟨j, p, q, hj, rfl, rfl, rfl, hp0, hq0⟩ := hrel
    have hql : q < p := by rw [hp0, hq0]; exact sval_lt hd'.out j hj
    have hp := Lib.hid hp0; have hq := Lib.hid hq0
    have hpl : p ≤ 1000000000 := by rw [hp0]; exact ten_le (m := 9) (by omega)
    by_cases hlt : j < gs.size
    · have hbt := byt_at gs j hlt
      have hb1 := (hd'.out j hlt).1
      have hb2 := (hd'.out j hlt).2
      clear hp0 hq0
      go_wp2_with fail
      go_round
      case rel =>
        refine ⟨j + 1, p * 10, q * 10 + (byt gs j - 48), by omega, by go_num, int_eq (by omega), int_eq (by omega), ?_, ?_⟩
        · rw [ten_succ, hp.out, Nat.mul_comm]
        · rw [hq.out]; rfl
      case measure => simp [intOf]; omega
    · obtain rfl : j = gs.size := by omega
      clear hp0 hq0
      go_wp2_with fail
      go_loopw [6, 28] (fun cr i wr => ∃ (j c : Nat) (G : Nat → Nat), j ≤ n ∧ i = .int .i64 j ∧ cr = .int .u64 c ∧ c < 4294967296 ∧ wr.ownsRow base 31 1 (.slice (some ⟨g, 0, none⟩) n cap) n (limbCells G n) ∧ Lim G n ∧ (∀ t, j ≤ t → G t = F t) ∧
          val G j + c * pw j = val F j * p + q ∧ w.grownBy wr (some g)) (fun _ i _ => n - (intOf i).toNat)
      case atStart =>
        exact ⟨0, q, F, Nat.zero_le _, rfl, rfl, by omega, hown'.out, hc'.out.lim, fun _ _ => rfl, by simp [val, pw], grown_refl _ _⟩
      case round =>
        obtain ⟨j, c, G, hj, rfl, rfl, hc0, hown0, hlim0, hz0', hval0, hgr0⟩ := hrel
        have hown2 := Lib.hid hown0; have hlim := Lib.hid hlim0; have hz := Lib.hid hz0'; have hval := Lib.hid hval0; have hgr := Lib.hid hgr0
        clear hown0 hlim0 hz0' hval0 hgr0
        by_cases hlt : j < n
        · have hcell : wr.cell? ⟨g, j, none⟩ = some (.int .u32 (G j)) := by rw [hown2.out.cellAt j (by omega), limbCells_get G n j hlt]
          have hfree := hown2.out.frozenAt j
          have bG := hlim.out j hlt
          have hy : G j * p ≤ 4294967295 * 1000000000 := Nat.mul_le_mul (by omega) hpl
          go_wp2_with fail
          go_roundw
          case rel =>
            refine ⟨j + 1, (c + G j * p) / 4294967296, put G j ((c + G j * p) % 4294967296), by omega, by go_num, int_eq (by omega), by omega, owns_set hown2.out j _ _ (by omega), put_lim hlim.out (Nat.mod_lt _ (by decide)), ?_, ?_, ?_⟩
            · intro t ht
              rw [put_ne (by omega)]
              exact hz.out t (by omega)
            · rw [val_put_succ, val_succ, pw_succ, ← hz.out j (Nat.le_refl _)]
              exact scale_step hval.out (by omega)
            · exact grown_setCell hgr.out _ _
          case measure => simp [intOf]; omega
        · obtain rfl : j = n := by omega
          have hW := scale_end hc'.out hlim.out (W := V * 10 ^ gs.size + sval gs gs.size) (c := c) (by rw [hval.out, hc'.out.val, hp.out, hq.out]) (Nat.le_add_right_of_le (Nat.le_mul_of_pos_right _ (ten_pos _)))
          by_cases c0 : c = 0
          · have hW1 := Lib.hid (hW.1 c0)
            have cz : ((c : Int) == 0) = true := by simp [c0]
            clear hW
            go_wp2_with fail
            go_ret
            exact ⟨_, _, G, rfl, hown2.out, hW1.out, grown_below hgr.out hgb hb⟩
          · have hW1 := Lib.hid (hW.2 c0 hc0)
            have cz : ((c : Int) == 0) = false := by simp [c0]
            have hbelr := Lib.hid (grown_below hgr.out hgb hb)
            clear hW
            go_wp2_with (at_builtin; refine wpList_append_limb rfl (.tmp 49) (.tmp 52) 22 rfl base 31 i32 Tryd.underlying22 hi hz0 hz1 hz2 _ j G _ _ c rfl rfl hown2.out (by omega) (by omega) (Nat.le_trans hb hbelr.out.size) ?_)
            intro v' w1 hown1 hb1
            have hown3 := Lib.hid hown1; have hbel3 := Lib.hid (hbelr.out.trans hb1)
            clear hown1 hb1
            go_wp2_with fail
            go_ret
            exact ⟨_, _, _, rfl, hown3.out, hW1.out, hbel3.out⟩

set_option maxHeartbeats 2000000 in
theorem appendDigits_none (base : Nat) (F : Nat → Nat) (gs : ByteArray) (w : World) (hb : base ≤ w.heap.size) (hd : DigT gs) (h9 : gs.size ≤ 9) :
    Calls Tryd.prog 18 #[.slice none 0 0, .string gs] w (DigPost base (sval gs gs.size) w) := by
  obtain ⟨i32, hi, hz0, hz1, hz2⟩ := info_parts info32
  have hd' := Lib.hid hd
  clear hd
  go_enter Tryd.func18, Tryd.ntmps18
  go_wp2_with fail
  go_loop [5, 6, 12] (fun sc cr i => ∃ j p q : Nat, j ≤ gs.size ∧ i = .int .i64 j ∧ sc = .int .u64 p ∧ cr = .int .u64 q ∧ p = 10 ^ j ∧ q = sval gs j) (fun _ _ i => gs.size - (intOf i).toNat)
  case atStart => exact ⟨0, 1, 0, Nat.zero_le _, rfl, rfl, rfl, rfl, rfl⟩
  case round =>
    obtain ⟨j, p, q, hj, rfl, rfl, rfl, hp0, hq0⟩ := hrel
    have hql : q < p := by rw [hp0, hq0]; exact sval_lt hd'.out j hj
    have hp := Lib.hid hp0; have hq := Lib.hid hq0
    have hpl : p ≤ 1000000000 := by rw [hp0]; exact ten_le (m := 9) (by omega)
    by_cases hlt : j < gs.size
    · have hbt := byt_at gs j hlt
      have hb1 := (hd'.out j hlt).1
      have hb2 := (hd'.out j hlt).2
      clear hp0 hq0
      go_wp2_with fail
      go_round
      case rel =>
        refine ⟨j + 1, p * 10, q * 10 + (byt gs j - 48), by omega, by go_num, int_eq (by omega), int_eq (by omega), ?_, ?_⟩
        · rw [ten_succ, hp.out, Nat.mul_comm]
        · rw [hq.out]; rfl
      case measure => simp [intOf]; omega
    · obtain rfl : j = gs.size := by omega
      clear hp0 hq0
      have hqs := Lib.hid hq.out.symm
      have hW := scale_end (canon_zero F) (canon_zero F).lim (V := 0) (W := sval gs gs.size) (c := q) (by rw [hqs.out]; simp [val, pw]) (Nat.zero_le _)
      go_wp2_with fail
      go_loop [6, 28] (fun c i => c = .int .u64 q ∧ i = .int .i64 0) (fun _ i => (intOf i).toNat)
      case atStart => exact ⟨rfl, rfl⟩
      case round =>
        obtain ⟨rfl, rfl⟩ := hrel
        by_cases c0 : q = 0
        · have hW1 := Lib.hid (hW.1 c0)
          have cz : ((q : Int) == 0) = true := by simp [c0]
          clear hW
          go_wp2_with fail
          go_ret
          exact ⟨_, 0, F, rfl, World.ownsRow_nil _ _ _ _, hW1.out, Below.refl _ _⟩
        · have hW1 := Lib.hid (hW.2 c0 (by omega))
          have cz : ((q : Int) == 0) = false := by simp [c0]
          clear hW
          go_wp2_with (at_builtin; refine wpList_append_limb rfl (.tmp 49) (.tmp 52) 22 rfl base 31 i32 Tryd.underlying22 hi hz0 hz1 hz2 _ 0 F _ _ q rfl rfl (World.ownsRow_nil _ _ _ _) (by omega) (by omega) hb ?_)
          intro v' w1 hown1 hb1
          have hown3 := Lib.hid hown1; have hbel3 := Lib.hid hb1
          clear hown1 hb1
          go_wp2_with fail
          go_ret
          exact ⟨_, _, _, rfl, hown3.out, hW1.out, hbel3.out⟩

theorem appendDigits_any (base n : Nat) (v : Value) (F : Nat → Nat) (V : Nat) (gs : ByteArray) (w : World) (hown : w.ownsRow base 31 1 v n (limbCells F n)) (hc : Canon V n F) (hb : base ≤ w.heap.size)
    (hn : n ≤ 100000) (hd : DigT gs) (h9 : gs.size ≤ 9) :
    Calls Tryd.prog 18 #[v, .string gs] w (DigPost base (V * 10 ^ gs.size + sval gs gs.size) w) := by
  rcases hown.2 with ⟨rfl, rfl⟩ | ⟨g, cap, cur, rfl, hbg, _, hnc, hcm, _⟩
  · have hV : V = 0 := hc.ne_zero.1 rfl
    subst hV
    rw [Nat.zero_mul, Nat.zero_add]
    exact appendDigits_none base F gs w hb hd h9
  · exact appendDigits_some base n g cap F V gs w hown hc hb hbg hnc (by unfold maxLen at hcm; omega) hn hd h9

end Go.Proofs.YtajkdinlannmnaaDoor
