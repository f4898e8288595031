/-
  scrimref02.Parse.
-/
import Derived.Test.YtajkdinlannmnaaDoorDecH
namespace Go.Proofs.YtajkdinlannmnaaDoor
open Go.RowKit Num

set_option maxHeartbeats 4000000 in
theorem refParse_any (s : ByteArray) (hs : s.size ≤ 2000) (w : World) : Calls Tryd.prog 10 #[.string s] w (ParsePost s w) := by
  obtain ⟨i32, hi, hz0, hz1, hz2⟩ := info_parts info32
  rcases (show s.size = 0 ∨ (1 < s.size ∧ byt s 0 = 48) ∨ s.size = 1 ∨ (1 < s.size ∧ byt s 0 ≠ 48) by omega) with e | ⟨c1, e⟩ | e | ⟨c1, e⟩
  · have hz : ((s.size : Int) == 0) = true := by simp [e]
    have hne := Lib.hid (show ¬ IsT s from fun h => by have := h.1; omega)
    go_enter Tryd.func10, Tryd.ntmps10
    go_wp2_with fail
    go_ret2
    exact ⟨Below.refl _ _, .inl ⟨hne.out, rfl⟩⟩
  · have hz : ((s.size : Int) == 0) = false := by rw [beq_eq_false_iff_ne]; omega
    have h3 := byt_at s 0 (by omega)
    have h4 : ((byt s 0 : Int) == 48) = true := by simp [e]
    have hne := Lib.hid (show ¬ IsT s from fun h => by rcases h.2.2 with g | g <;> omega)
    go_enter Tryd.func10, Tryd.ntmps10
    go_wp2_with fail
    go_ret2
    exact ⟨Below.refl _ _, .inl ⟨hne.out, rfl⟩⟩
  all_goals
    have hz : ((s.size : Int) == 0) = false := by rw [beq_eq_false_iff_ne]; omega
    have hgood := Lib.hid (show 0 < s.size ∧ (s.size = 1 ∨ byt s 0 ≠ 48) by omega)
    first
    | have c1 : ¬ (1 < s.size) := by omega
    | have h3 := byt_at s 0 (by omega)
    have h4 : (1 < s.size) → ((byt s 0 : Int) == 48) = false := by intro h; rw [beq_eq_false_iff_ne]; omega
    clear e
    go_enter Tryd.func10, Tryd.ntmps10
    go_wp2_with fail
    clear h4 hz
    try clear h3
    try clear c1
    first
    | (rename ((s.size : Int) ≤ 1) => hh; clear hh)
    | (rename ((1 : Int) < (s.size : Int)) => hh; clear hh)
    go_loopw [4, 5] (fun av iv wr => ∃ (i n : Nat) (F : Nat → Nat), i ≤ s.size ∧ iv = .int .i64 i ∧ wr.ownsRow w.heap.size 31 1 av n (limbCells F n) ∧ Canon (sval s i) n F ∧ n ≤ i ∧ (∀ t, t < i → 48 ≤ byt s t ∧ byt s t ≤ 57) ∧ Below w.heap.size w wr) (fun _ iv _ => s.size - (intOf iv).toNat)
    case atStart => exact ⟨0, 0, fun _ => 0, Nat.zero_le _, rfl, World.ownsRow_nil _ _ _ _, canon_zero _, Nat.le_refl _, fun t h => by omega, Below.refl _ _⟩
    case round =>
      obtain ⟨i, n, F, hi', rfl, hown0, hc0, hni, hd0, hb0⟩ := hrel
      have hown := Lib.hid hown0; have hc := Lib.hid hc0; have hd := Lib.hid hd0; have hb := Lib.hid hb0
      clear hown0 hc0 hd0 hb0
      by_cases hlt : i < s.size
      · have h3 := byt_at s i hlt
        by_cases c2 : byt s i < 48
        · have hne := Lib.hid (show ¬ IsT s from fun h => by have := h.2.1 i hlt; omega)
          go_wp2_with fail
          go_ret2
          exact ⟨hb.out, .inl ⟨hne.out, rfl⟩⟩
        · by_cases c3 : 57 < byt s i
          · have hne := Lib.hid (show ¬ IsT s from fun h => by have := h.2.1 i hlt; omega)
            go_wp2_with fail
            go_ret2
            exact ⟨hb.out, .inl ⟨hne.out, rfl⟩⟩
          · have hd2 := Lib.hid (show ∀ t, t < i + 1 → 48 ≤ byt s t ∧ byt s t ≤ 57 from fun t ht => by
              by_cases e' : t = i
              · rw [e']; omega
              · exact hd.out t (by omega))
            obtain ⟨q, hq⟩ : ∃ q, q = byt s i - 48 := ⟨_, rfl⟩
            have hqe : ((byt s i : Int) - 48) = (q : Int) := by omega
            have hq' := Lib.hid hq
            have hq9 : q ≤ 9 := by omega
            clear hq
            rename World => wo
            rcases hown.out.2 with ⟨rfl, rfl⟩ | ⟨g, cap, cur, rfl, hbg, _, hnc, hcm, _⟩
            · have hV : sval s i = 0 := hc.out.ne_zero.1 rfl
              have hW := scale_end (canon_zero F) (canon_zero F).lim (V := 0) (W := sval s (i + 1)) (c := q) (by
                show val F 0 + q * 1 = sval s i * 10 + (byt s i - 48)
                rw [hV, hq'.out]
                simp [val]) (Nat.zero_le _)
              go_wp2_with fail
              go_loop [6, 7] (fun c k => c = .int .u64 q ∧ k = .int .i64 0) (fun _ k => (intOf k).toNat)
              case atStart => exact ⟨rfl, rfl⟩
              case round =>
                obtain ⟨rfl, rfl⟩ := hrel
                by_cases c0 : q = 0
                · have hW1 := Lib.hid (hW.1 c0)
                  clear hW
                  subst c0
                  go_wp2_with fail
                  go_roundw
                  case rel => exact ⟨i + 1, 0, F, by omega, by go_num, World.ownsRow_nil _ _ _ _, hW1.out, by omega, hd2.out, hb.out⟩
                  case measure => simp [intOf]; omega
                · have hW1 := Lib.hid (hW.2 c0 (by omega))
                  have cz : 0 < q := by omega
                  clear hW
                  go_wp2_with (at_builtin; refine wpList_append_limb rfl (.tmp 67) (.tmp 70) 22 rfl w.heap.size 31 i32 Tryd.underlying22 hi hz0 hz1 hz2 _ 0 F _ _ q rfl rfl (World.ownsRow_nil _ _ _ _) (by omega) (by omega) hb.out.size ?_)
                  intro v' w1 hown1 hb1
                  have hown3 := Lib.hid hown1; have hbel3 := Lib.hid (hb.out.trans hb1)
                  clear hown1 hb1
                  go_wp2_with fail
                  go_roundw
                  case rel => exact ⟨i + 1, 1, _, by omega, by go_num, hown3.out, hW1.out, by omega, hd2.out, hbel3.out⟩
                  case measure => simp [intOf]; omega
            · go_wp2_with fail
              go_loopw [6, 7] (fun cv kv wr => ∃ (k c : Nat) (G : Nat → Nat), k ≤ n ∧ kv = .int .i64 k ∧ cv = .int .u64 c ∧ c ≤ 9 ∧ wr.ownsRow w.heap.size 31 1 (.slice (some ⟨g, 0, none⟩) n cap) n (limbCells G n) ∧ Lim G n ∧ (∀ t, k ≤ t → G t = F t) ∧
                  val G k + c * pw k = val F k * 10 + q ∧ wo.grownBy wr (some g)) (fun _ kv _ => n - (intOf kv).toNat)
              case atStart => exact ⟨0, q, F, Nat.zero_le _, rfl, rfl, hq9, hown.out, hc.out.lim, fun _ _ => rfl, by simp [val, pw], grown_refl _ _⟩
              case round =>
                obtain ⟨k, c, G, hk, rfl, rfl, hc9, hown0, hlim0, hz0', hval0, hgr0⟩ := hrel
                have hown2 := Lib.hid hown0; have hlim := Lib.hid hlim0; have hz := Lib.hid hz0'; have hval := Lib.hid hval0; have hgr := Lib.hid hgr0
                clear hown0 hlim0 hz0' hval0 hgr0
                by_cases hkn : k < n
                · have hcell : wr.cell? ⟨g, k, none⟩ = some (.int .u32 (G k)) := by rw [hown2.out.cellAt k (by omega), limbCells_get G n k hkn]
                  have hfree := hown2.out.frozenAt k
                  have bG := hlim.out k hkn
                  go_wp2_with fail
                  go_roundw
                  case rel =>
                    refine ⟨k + 1, (c + G k * 10) / 4294967296, put G k ((c + G k * 10) % 4294967296), by omega, by go_num, int_eq (by omega), by omega, owns_set hown2.out k _ _ (by omega), put_lim hlim.out (Nat.mod_lt _ (by decide)), ?_, ?_, ?_⟩
                    · intro t ht
                      rw [put_ne (by omega)]
                      exact hz.out t (by omega)
                    · rw [val_put_succ, val_succ, pw_succ, ← hz.out k (Nat.le_refl _)]
                      exact scale_step hval.out (by omega)
                    · exact grown_setCell hgr.out _ _
                  case measure => simp [intOf]; omega
                · obtain rfl : k = n := by omega
                  have hW := scale_end hc.out hlim.out (W := sval s (i + 1)) (c := c) (by
                    show _ = sval s i * 10 + (byt s i - 48)
                    rw [hval.out, hc.out.val, hq'.out]) (by show sval s i ≤ sval s i * 10 + (byt s i - 48); omega)
                  have hbr := Lib.hid (hb.out.trans (grown_below hgr.out hbg hb.out.size))
                  by_cases c0 : c = 0
                  · have hW1 := Lib.hid (hW.1 c0)
                    clear hW
                    subst c0
                    go_wp2_with fail
                    go_roundw
                    case rel => exact ⟨i + 1, k, G, by omega, by go_num, hown2.out, hW1.out, by omega, hd2.out, hbr.out⟩
                    case measure => simp [intOf]; omega
                  · have hW1 := Lib.hid (hW.2 c0 (by omega))
                    have cz : 0 < c := by omega
                    clear hW
                    go_wp2_with (at_builtin; refine wpList_append_limb rfl (.tmp 67) (.tmp 70) 22 rfl w.heap.size 31 i32 Tryd.underlying22 hi hz0 hz1 hz2 _ k G _ _ c rfl rfl hown2.out (by omega) (by omega) hbr.out.size ?_)
                    intro v' w1 hown1 hb1
                    have hown3 := Lib.hid hown1; have hbel3 := Lib.hid (hbr.out.trans hb1)
                    clear hown1 hb1
                    go_wp2_with fail
                    go_roundw
                    case rel => exact ⟨i + 1, k + 1, _, by omega, by go_num, hown3.out, hW1.out, by omega, hd2.out, hbel3.out⟩
                    case measure => simp [intOf]; omega
      · obtain rfl : i = s.size := by omega
        obtain ⟨ao, cap, rfl, g1, g2, g3⟩ := owns_slice hown.out
        have g3' := Lib.hid g3
        clear g3
        go_wp2_with fail
        go_ret2
        exact ⟨hb.out, .inr ⟨⟨hgood.out.1, hd.out, hgood.out.2⟩, ao, n, cap, F, rfl, g1, g2, g3'.out, hc.out⟩⟩

end Go.Proofs.YtajkdinlannmnaaDoor
