/-
  glyph.Decode: a range over the text tells the characters one behind the other.
-/
import Derived.Test.YtgaombefigjilaaHj
import Derived.Test.YtgaombefigjilaaHh
import Derived.Test.YtgaombefigjilaaHi
import Derived.Lib.OthersKept
namespace Go.Proofs.Ytgaombefigjilaa
open Go.RowKit

theorem own_iter {w : World} {B e size n : Nat} {v : Value} {xs : List Value} {k : Nat} {s : ByteArray} {pos : Nat} (h : w.ownsRow B e size v n xs) (hk : w.heap[k]? = some (.stringIter s pos)) (pos' : Nat) : (w.iterAt k s pos').ownsRow B e size v n xs := by
  refine ⟨h.1, ?_⟩
  rcases h.2 with h0 | ⟨g, cap, cur, hv, hb, hg, rest⟩
  · exact .inl h0
  · refine .inr ⟨g, cap, cur, hv, hb, ?_, rest⟩
    rw [Lib.iterAt_other _ _ _ _ _ (fun e => by subst e; rw [hk] at hg; cases hg)]
    exact hg

theorem iter_ne_own {w : World} {B e size n : Nat} {v : Value} {xs : List Value} {k : Nat} {s : ByteArray} {pos : Nat} (h : w.ownsRow B e size v n xs) (hk : w.heap[k]? = some (.stringIter s pos)) : some k ≠ v.ownBlock := by
  rcases h.2 with ⟨rfl, _⟩ | ⟨g, cap, cur, rfl, hb, hg, rest⟩
  · simp [Value.ownBlock]
  · intro e
    simp only [Value.ownBlock, Option.some.injEq] at e
    subst e
    rw [hk] at hg
    cases hg

/-- The three bytes of FFFD stand at a place. -/
def Bad3 (s : ByteArray) (i : Nat) : Prop := i + 3 ≤ s.size ∧ bt s i = 239 ∧ bt s (i + 1) = 191 ∧ bt s (i + 2) = 189

theorem drop_three {s : ByteArray} {i : Nat} (h : i + 3 ≤ s.size) : ∃ r, s.data.toList.drop i = s.data.toList[i]'(by simp; omega) :: s.data.toList[i + 1]'(by simp; omega) :: s.data.toList[i + 2]'(by simp; omega) :: r := by
  have hl : s.data.toList.length = s.size := by simp
  exact ⟨s.data.toList.drop (i + 3), by
    rw [List.drop_eq_getElem_cons (by omega : i < s.data.toList.length), List.drop_eq_getElem_cons (by omega : i + 1 < s.data.toList.length), List.drop_eq_getElem_cons (by omega : i + 1 + 1 < s.data.toList.length)]⟩

theorem bad3_iff {s : ByteArray} {i : Nat} (_hi : i < s.size) : Lib.hasPrefix (s.extract i s.size).data.toList [239, 191, 189] = true ↔ Bad3 s i := by
  have hl : s.data.toList.length = s.size := by simp
  have e2 : (s.extract i s.size).data.toList = s.data.toList.drop i := by
    rw [ByteArray.data_extract, Array.toList_extract, List.extract_eq_take_drop]
    exact List.take_of_length_le (by rw [List.length_drop]; omega)
  rw [e2]
  unfold Lib.hasPrefix
  rw [List.isPrefixOf_iff_prefix]
  constructor
  · rintro ⟨r, hr⟩
    have h3 : i + 3 ≤ s.size := by
      have := congrArg List.length hr
      simp at this
      omega
    obtain ⟨r', hr'⟩ := drop_three h3
    rw [hr'] at hr
    simp only [List.cons_append, List.nil_append, List.cons.injEq] at hr
    obtain ⟨a, b, c, _⟩ := hr
    refine ⟨h3, ?_, ?_, ?_⟩
    · rw [← bt_list s i (by omega), ← a]; rfl
    · rw [← bt_list s (i + 1) (by omega), ← b]; rfl
    · rw [← bt_list s (i + 2) (by omega), ← c]; rfl
  · rintro ⟨h3, a, b, c⟩
    obtain ⟨r', hr'⟩ := drop_three h3
    refine ⟨r', ?_⟩
    rw [hr']
    rw [← bt_list s i (by omega)] at a
    rw [← bt_list s (i + 1) (by omega)] at b
    rw [← bt_list s (i + 2) (by omega)] at c
    simp only [List.cons_append, List.nil_append, List.cons.injEq]
    exact ⟨UInt8.toNat_inj.1 a.symm, UInt8.toNat_inj.1 b.symm, UInt8.toNat_inj.1 c.symm, trivial⟩

/-- Where a range tells FFFD, its own three bytes stand, or no character's. -/
theorem bad3_dec {s : ByteArray} {i : Nat} (h : Bad3 s i) : Utf8.decode s i = (65533, 3) := by
  obtain ⟨h3, a, b, c⟩ := h
  have e : three s i = 65533 := by unfold three; rw [a, b, c]
  rw [dec_3 (by omega) (by omega) ⟨by omega, by omega⟩ ⟨by omega, by omega⟩, e]
  rfl

theorem ch_cases (s : ByteArray) (i : Nat) (hi : i < s.size) : (∃ c m, Utf8.decode s i = (c, m) ∧ chAt s i = some (c, m) ∧ 1 ≤ m ∧ i + m ≤ s.size ∧ c ≤ 1114111 ∧ (c = 65533 → Bad3 s i)) ∨ (Utf8.decode s i = (65533, 1) ∧ chAt s i = none ∧ ¬ Bad3 s i) := by
  by_cases h : Utf8.decode s i = (65533, 1)
  · exact .inr ⟨h, ch_none h, fun k => by rw [bad3_dec k] at h; cases h⟩
  · refine .inl ⟨(Utf8.decode s i).1, (Utf8.decode s i).2, rfl, ?_⟩
    have hc : chAt s i = some ((Utf8.decode s i).1, (Utf8.decode s i).2) := by unfold chAt; rw [if_neg h]
    obtain ⟨h1, h2, h3, h4, h5, h6, h7, h8⟩ := ch_room hi hc
    have h9 := may_range h4
    refine ⟨hc, h1, h3, by omega, fun e => ?_⟩
    rw [e] at h8
    have hm : (Utf8.decode s i).2 = 3 := h8.1.symm
    have k := h8.2
    rw [hm] at k h3
    exact ⟨h3, (k 0 (by omega)).symm, (k 1 (by omega)).symm, (k 2 (by omega)).symm⟩

theorem hasPrefixP_any (s : ByteArray) (i : Nat) (hi : i < s.size) (w : World) (b : Bool) (hb : b = true ↔ Bad3 s i) :
    Calls Try.prog 16 #[.string (s.extract i s.size), .string { data := #[239, 191, 189] }] w fun e w' => e = .returned (.bool b) ∧ w = w' :=
  (prefix_any _ _ w).mono fun e w' ⟨h1, h2⟩ => ⟨by rw [h1]; exact congrArg (fun b => Ending.returned (.bool b)) (Bool.eq_iff_iff.2 ((bad3_iff hi).trans hb.symm)), h2.symm⟩

set_option maxRecDepth 20000 in
set_option maxHeartbeats 4000000 in
theorem decodeP_any (s : ByteArray) (hs : s.size ≤ 100000) (w : World) : Calls Try.prog 6 #[.string s] w (DecPost s w) := by
  obtain ⟨i64, hi, hz0, hz1, hz2⟩ := info_parts info64
  have hit0 : (w.iter s 0).heap[w.heap.size]? = some (.stringIter s 0) := World.iter_heap w s 0
  have hb0 : Below w.heap.size w (w.iter s 0) := (Below.refl _ w).alloc (Nat.le_refl _) _
  go_enter Try.func6, Try.ntmps6
  go_wp2_with fail
  go_loopw [4] (fun v wr => ∃ (j : Nat) (f : Nat → Int), posAt s j ≤ s.size ∧ wr.heap[w.heap.size]? = some (.stringIter s (posAt s j)) ∧ Hid (∀ t, t < j → posAt s t < s.size ∧ ∃ c m : Nat, chAt s (posAt s t) = some (c, m) ∧ f t = (c : Int)) ∧ wr.ownsRow w.heap.size 3 1 v j (intCells f j) ∧ j ≤ posAt s j ∧ Below w.heap.size w wr) (fun _ wr => s.size - wr.iterPos w.heap.size)
  case atStart => exact ⟨0, fun _ => 0, Nat.zero_le _, hit0, Lib.hid fun t h => by omega, World.ownsRow_nil _ _ _ _, Nat.le_refl _, hb0⟩
  case round =>
    obtain ⟨j, f, hp, hit, hd, hown0, hjp, hbr⟩ := hrel
    clear hit0 hb0
    have hown := Lib.hid hown0; have hb := Lib.hid hbr
    clear hown0 hbr
    obtain ⟨i, hie⟩ : ∃ i, i = posAt s j := ⟨_, rfl⟩
    rw [← hie] at hp hjp hit
    have hie' := Lib.hid hie
    clear hie
    have hmu : wr.iterPos w.heap.size = i := by simp [World.iterPos, hit]
    by_cases hlt : i < s.size
    · have hnext : ∀ ty, (Instr.next (.pointer (some ⟨w.heap.size, 0, none⟩)) true ty).run Try.prog wr = _ := fun ty => Lib.run_next_any_at wr w.heap.size s i ty hit hlt
      rcases ch_cases s i hlt with ⟨c, m, hdec, hch, hm1, hm2, hc3, hbad⟩ | ⟨hdec, hch, hbad⟩
      · rw [hdec] at hnext
        have hown1 := Lib.hid (own_iter hown.out hit (i + m))
        have hit1 := Lib.iterAt_heap wr w.heap.size s i (i + m) hit
        have hb1 := Lib.hid (Lib.below_iterAt hb.out (Nat.le_refl _) s (i + m))
        generalize wr.iterAt w.heap.size s (i + m) = W1 at hnext hown1 hit1 hb1
        have hit1' := Lib.hid hit1; have hmu' := Lib.hid hmu; have hch' := Lib.hid hch
        clear hit hit1 hmu hch hdec
        by_cases h65 : c = 65533
        · have hpre := Lib.hid (hasPrefixP_any s i hlt W1 true ⟨fun _ => hbad h65, fun _ => rfl⟩)
          subst h65
          clear hbad
          go_wp2_with (first | (go_at_call 16; refine hpre.out.mono ?_; rintro e w' ⟨rfl, rfl⟩) | (at_builtin; refine wpList_append_own _ rfl (.tmp 24) (.tmp 27) 22 rfl w.heap.size 3 i64 (.int .i64 0) 1 8 Try.underlying22 hi hz0 hz1 hz2 rfl (by decide) _ j (intCells f j) rfl (hown1.out.alloc _) ⟨W1.heap.size, 0, none⟩ 1 1 [.int .i64 65533] rfl rfl (newz_at W1 _ _) (by intro u hu; simp at hu; subst hu; rfl) (by unfold maxLen; omega) (by omega) (by have := hb1.out.size; simp; omega) ?_))
          intro v' w3 hown3 hgr hnil3
          rw [intCells_snoc] at hown3
          have hown4 := Lib.hid hown3
          have hb4 := Lib.hid ((hb1.out.alloc hb1.out.size _).grown hgr (by have := hb1.out.size; simp; omega) (fun q hq => (hown1.out.lt q hq).1))
          have hit4 := Lib.hid ((hgr.block w.heap.size (by have := (Array.getElem?_eq_some_iff.1 hit1'.out).1; simp; omega) (iter_ne_own hown1.out hit1'.out)).trans ((Lib.alloc_old W1 _ w.heap.size (Array.getElem?_eq_some_iff.1 hit1'.out).1).trans hit1'.out))
          have hpos := Lib.hid (show posAt s (j + 1) = i + m by have hch := hch'.out; rw [hie'.out] at hch ⊢; exact pos_step hch)
          clear hown3 hgr hnil3
          go_wp2_with fail
          go_roundw
          case rel =>
            refine ⟨j + 1, putZ f j 65533, by rw [hpos.out]; exact hm2, by rw [hpos.out]; exact hit4.out, Lib.hid fun t ht => ?_, hown4.out, by rw [hpos.out]; omega, hb4.out⟩
            by_cases e : t = j
            · subst e
              rw [← hie'.out]
              exact ⟨hlt, 65533, m, hch'.out, (if_pos rfl : putZ f t _ t = _)⟩
            · obtain ⟨h1, c1, k1, h2, h3⟩ := hd.out t (by omega)
              exact ⟨h1, c1, k1, h2, by unfold putZ; rw [if_neg e]; exact h3⟩
          case measure =>
            have e1 : w3.iterPos w.heap.size = i + m := by have := hit4.out; simp [World.iterPos, this]
            have e2 := hmu'.out
            omega
        · have b65 : ((c : Int) == 65533) = false := by rw [beq_eq_false_iff_ne]; omega
          clear hbad h65
          go_wp2_with (at_builtin; refine wpList_append_own _ rfl (.tmp 24) (.tmp 27) 22 rfl w.heap.size 3 i64 (.int .i64 0) 1 8 Try.underlying22 hi hz0 hz1 hz2 rfl (by decide) _ j (intCells f j) rfl (hown1.out.alloc _) ⟨W1.heap.size, 0, none⟩ 1 1 [.int .i64 c] rfl rfl (newz_at W1 _ _) (by intro u hu; simp at hu; subst hu; rfl) (by unfold maxLen; omega) (by omega) (by have := hb1.out.size; simp; omega) ?_)
          intro v' w3 hown3 hgr hnil3
          rw [intCells_snoc] at hown3
          have hown4 := Lib.hid hown3
          have hb4 := Lib.hid ((hb1.out.alloc hb1.out.size _).grown hgr (by have := hb1.out.size; simp; omega) (fun q hq => (hown1.out.lt q hq).1))
          have hit4 := Lib.hid ((hgr.block w.heap.size (by have := (Array.getElem?_eq_some_iff.1 hit1'.out).1; simp; omega) (iter_ne_own hown1.out hit1'.out)).trans ((Lib.alloc_old W1 _ w.heap.size (Array.getElem?_eq_some_iff.1 hit1'.out).1).trans hit1'.out))
          have hpos := Lib.hid (show posAt s (j + 1) = i + m by have hch := hch'.out; rw [hie'.out] at hch ⊢; exact pos_step hch)
          clear hown3 hgr hnil3
          go_wp2_with fail
          go_roundw
          case rel =>
            refine ⟨j + 1, putZ f j c, by rw [hpos.out]; exact hm2, by rw [hpos.out]; exact hit4.out, Lib.hid fun t ht => ?_, hown4.out, by rw [hpos.out]; omega, hb4.out⟩
            by_cases e : t = j
            · subst e
              rw [← hie'.out]
              exact ⟨hlt, c, m, hch'.out, (if_pos rfl : putZ f t _ t = _)⟩
            · obtain ⟨h1, c1, k1, h2, h3⟩ := hd.out t (by omega)
              exact ⟨h1, c1, k1, h2, by unfold putZ; rw [if_neg e]; exact h3⟩
          case measure =>
            have e1 : w3.iterPos w.heap.size = i + m := by have := hit4.out; simp [World.iterPos, this]
            have e2 := hmu'.out
            omega
      · rw [hdec] at hnext
        have hown1 := Lib.hid (own_iter hown.out hit (i + 1))
        have hb1 := Lib.hid (Lib.below_iterAt hb.out (Nat.le_refl _) s (i + 1))
        generalize wr.iterAt w.heap.size s (i + 1) = W1 at hnext hown1 hb1
        have hch' := Lib.hid hch
        have hpre := Lib.hid (hasPrefixP_any s i hlt W1 false ⟨fun k => (Bool.false_ne_true k).elim, fun k => absurd k hbad⟩)
        obtain ⟨ao, cap, rfl, k1, k2, k3⟩ := owns_ints hown1.out
        have k3' := Lib.hid k3
        clear k3 hit hmu hch hdec hbad
        go_wp2_with (go_at_call 16; refine hpre.out.mono ?_; rintro e w' ⟨rfl, rfl⟩)
        go_ret2
        exact ⟨ao, j, cap, f, _, rfl, k1, k2, k3'.out, ⟨hd.out, .inr ⟨by rw [← hie'.out]; exact hlt, by rw [← hie'.out]; exact hch'.out, by rw [← hie'.out]⟩⟩, hb1.out⟩
    · have hend : ∀ ty, (Instr.next (.pointer (some ⟨w.heap.size, 0, none⟩)) true ty).run Try.prog wr = _ := fun ty => Lib.run_next_end_at wr w.heap.size s i ty hit hlt
      have e : posAt s j = s.size := by have := hie'.out; omega
      obtain ⟨ao, cap, rfl, k1, k2, k3⟩ := owns_ints hown.out
      have k3' := Lib.hid k3; have e' := Lib.hid e
      clear k3 e hit hmu
      go_wp2_with fail
      go_ret2
      exact ⟨ao, j, cap, f, _, rfl, k1, k2, k3'.out, ⟨hd.out, .inl ⟨by have := e'.out; omega, rfl⟩⟩, hb.out⟩
end Go.Proofs.Ytgaombefigjilaa
