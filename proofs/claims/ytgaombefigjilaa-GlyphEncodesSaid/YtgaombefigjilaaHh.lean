/-
  scrimref06.Decode.
-/
import Derived.Test.YtgaombefigjilaaHg
import Derived.BigQuiet
import Derived.Deep.RegionHeld3
namespace Go.Proofs.Ytgaombefigjilaa
open Go.RowKit

/-- Where the t-th character begins. -/
def posAt (s : ByteArray) : Nat → Nat
  | 0 => 0
  | t + 1 => match chAt s (posAt s t) with
    | some (_, m) => posAt s t + m
    | none => posAt s t

theorem pos_step {s : ByteArray} {t c m : Nat} (h : chAt s (posAt s t) = some (c, m)) : posAt s (t + 1) = posAt s t + m := by
  show (match chAt s (posAt s t) with | some (_, m) => posAt s t + m | none => posAt s t) = _
  rw [h]

/-- n characters f have been read of a text, and r tells how it ended. -/
def Dec (s : ByteArray) (n : Nat) (f : Nat → Int) (r : Int) : Prop :=
  (∀ t, t < n → posAt s t < s.size ∧ ∃ c m : Nat, chAt s (posAt s t) = some (c, m) ∧ f t = (c : Int)) ∧
  ((s.size ≤ posAt s n ∧ r = -1) ∨ (posAt s n < s.size ∧ chAt s (posAt s n) = none ∧ r = (posAt s n : Int)))

theorem Dec.le {s : ByteArray} {n m : Nat} {f g : Nat → Int} {r q : Int} (a : Dec s n f r) (b : Dec s m g q) : m ≤ n := by
  refine Nat.le_of_not_lt fun h => ?_
  obtain ⟨h1, c, k, h2, _⟩ := b.1 n h
  rcases a.2 with ⟨h3, _⟩ | ⟨_, h3, _⟩
  · omega
  · rw [h2] at h3; cases h3

theorem Dec.uniq {s : ByteArray} {n m : Nat} {f g : Nat → Int} {r q : Int} (a : Dec s n f r) (b : Dec s m g q) : n = m ∧ r = q ∧ ∀ t, t < n → f t = g t := by
  obtain rfl : n = m := Nat.le_antisymm (b.le a) (a.le b)
  refine ⟨rfl, ?_, fun t ht => ?_⟩
  · rcases a.2 with ⟨h1, h2⟩ | ⟨h1, h2, h3⟩ <;> rcases b.2 with ⟨k1, k2⟩ | ⟨k1, k2, k3⟩
    · rw [h2, k2]
    · omega
    · omega
    · rw [h3, k3]
  · obtain ⟨_, c, k, h2, h3⟩ := a.1 t ht
    obtain ⟨_, c', k', h2', h3'⟩ := b.1 t ht
    rw [h2] at h2'
    cases h2'
    rw [h3, h3']

theorem ch_room {s : ByteArray} {i c m : Nat} (hi : i < s.size) (h : chAt s i = some (c, m)) : 1 ≤ m ∧ m ≤ 4 ∧ i + m ≤ s.size ∧ mayZ (c : Int) = true ∧ c = guessC s i ∧ m = lead (bt s i) ∧ Good s i ∧ Match s i c m := by
  by_cases k : Good s i ∧ mayZ ((guessC s i : Nat) : Int) = true ∧ Match s i (guessC s i) (lead (bt s i))
  · have e := ch_good k.1 k.2.1 k.2.2
    rw [h] at e
    cases e
    obtain ⟨g, k2, k3⟩ := k
    have g1 := g.1; have g2 := g.2.1
    have := encL_len (guessC s i)
    have := k3.1
    exact ⟨g1, by omega, by omega, k2, rfl, rfl, g, k3⟩
  · rw [ch_bad hi k] at h; cases h

def intCells (f : Nat → Int) (n : Nat) : List Value := (List.range n).map fun j => Value.int .i64 (f j)

theorem intCells_length (f : Nat → Int) (n : Nat) : (intCells f n).length = n := by simp [intCells]

theorem intCells_get (f : Nat → Int) (n j : Nat) (h : j < n) : (intCells f n)[j]? = some (.int .i64 (f j)) := by simp [intCells, h]

def putZ (f : Nat → Int) (i : Nat) (x : Int) (j : Nat) : Int := if j = i then x else f j

theorem intCells_snoc (f : Nat → Int) (j : Nat) (x : Int) : intCells f j ++ [Value.int .i64 x] = intCells (putZ f j x) (j + 1) := by
  unfold intCells
  rw [List.range_succ, List.map_append]
  congr 1
  · refine List.map_congr_left fun t ht => ?_
    have := List.mem_range.1 ht
    unfold putZ
    rw [if_neg (by omega)]
  · simp [putZ]

theorem owns_ints {w : World} {base n : Nat} {t : TypeId} {v : Value} {f : Nat → Int} (h : w.ownsRow base t 1 v n (intCells f n)) : ∃ ao cap, v = .slice ao n cap ∧ n ≤ cap ∧ cap ≤ 9223372036854775807 ∧ SlZ w ao n f := by
  rcases h.2 with ⟨rfl, rfl⟩ | ⟨g, cap, cur, hv, hb, hg, hnc, hcm, hcs, ht⟩
  · exact ⟨none, 0, rfl, Nat.le_refl _, by omega, .inl rfl⟩
  · subst hv
    exact ⟨_, cap, rfl, hnc, by unfold maxLen at hcm; omega, .inr ⟨g, 0, rfl, fun j hj => by rw [Nat.zero_add, h.cellAt j (by omega), intCells_get f n j hj]⟩⟩

theorem info64 : (Try.prog.info? 3).map (fun i => (i.zero, i.size, i.bytes)) = some (some (.int .i64 0), 1, 8) := by kernel_rfl

theorem newz_at (w : World) (v : Value) (t : TypeId) : ∀ j u, [v][j]? = some u → (w.alloc (.cells #[v] t)).cell? ((⟨w.heap.size, 0, none⟩ : Addr).add j) = some u := by
  intro j u h
  match j, h with
  | 0, h =>
    simp at h
    subst h
    simp [Addr.add]
  | _ + 1, h => simp at h

/-- The characters of a text, and where it ends to be one. -/
def DecPost (s : ByteArray) (w : World) (e : Ending) (w' : World) : Prop :=
  ∃ ao n nc f r, e = .returned (.tuple #[.slice ao n nc, .int .i64 r]) ∧ n ≤ nc ∧ nc ≤ 9223372036854775807 ∧ SlZ w' ao n f ∧ Dec s n f r ∧ Below w.heap.size w w'

theorem may6_no (c : Int) (h : mayZ c = false) (w : World) : Calls Try.prog 15 #[.int .i64 c] w fun e w' => e = .returned (.bool false) ∧ w' = w :=
  (may6_any c w).mono fun _ _ ⟨he, hw⟩ => ⟨by rw [he, h], hw.symm⟩

theorem bytes_toList {a b : ByteArray} (h : a.toList = b.toList) : a = b := by
  rw [ByteArray.toList_eq, ByteArray.toList_eq] at h
  cases a with | mk x => cases b with | mk y => exact congrArg ByteArray.mk (Array.toList_inj.1 h)

theorem bt_list (s : ByteArray) (j : Nat) (h : j < s.data.toList.length) : (s.data.toList[j]'h).toNat = bt s j := by
  have h' : j < s.size := by simpa using h
  rw [← bt_at s j h']
  rfl

theorem match_str {s : ByteArray} {i c m : Nat} (hr : i + m ≤ s.size) (hc : c ≤ 1114111) : strOfNums ((encL c).map fun x : Nat => (x : Int)) = s.extract i (i + m) ↔ Match s i c m := by
  have e1 : (strOfNums ((encL c).map fun x : Nat => (x : Int))).data.toList = (encL c).map UInt8.ofNat := by
    rw [strOfNums_data, List.map_map]
    exact List.map_congr_left fun x _ => by simp
  have e2 : (s.extract i (i + m)).data.toList = (s.data.toList.drop i).take m := by
    rw [ByteArray.data_extract, Array.toList_extract, List.extract_eq_take_drop, Nat.add_sub_cancel_left]
  have hl : s.data.toList.length = s.size := by simp
  have e3 : ((s.data.toList.drop i).take m).length = m := by rw [List.length_take, List.length_drop]; omega
  constructor
  · intro h
    have h1 : (encL c).map UInt8.ofNat = (s.data.toList.drop i).take m := by rw [← e1, ← e2, h]
    have h2 : (encL c).length = m := by
      have := congrArg List.length h1
      rw [List.length_map, e3] at this
      exact this
    refine ⟨h2, fun t ht => ?_⟩
    have hb := encL_byte hc ((encL c)[t]'(by omega)) (List.getElem_mem _)
    have h3 : UInt8.ofNat ((encL c)[t]'(by omega)) = s.data.toList[i + t]'(by omega) := by
      have h4 : ((encL c).map UInt8.ofNat)[t]? = ((s.data.toList.drop i).take m)[t]? := by rw [h1]
      rw [List.getElem?_map, List.getElem?_eq_getElem (by omega : t < (encL c).length), List.getElem?_take, if_pos ht, List.getElem?_drop, List.getElem?_eq_getElem (by omega : i + t < s.data.toList.length)] at h4
      simpa using h4
    rw [← bt_list s (i + t) (by omega), ← h3, List.getD_eq_getElem?_getD, List.getElem?_eq_getElem (by omega : t < (encL c).length)]
    show (encL c)[t] = (UInt8.ofNat (encL c)[t]).toNat
    rw [UInt8.toNat_ofNat']
    omega
  · rintro ⟨h1, h2⟩
    have h3 : (encL c).map UInt8.ofNat = (s.data.toList.drop i).take m := by
      refine List.ext_getElem (by rw [List.length_map, e3, h1]) fun t a b => ?_
      rw [List.getElem_map, List.getElem_take, List.getElem_drop]
      have ht : t < m := by rw [e3] at b; exact b
      have h4 := h2 t ht
      rw [List.getD_eq_getElem?_getD, List.getElem?_eq_getElem (by omega : t < (encL c).length)] at h4
      have h5 : (encL c)[t]'(by omega) = bt s (i + t) := h4
      rw [h5, ← bt_list s (i + t) (by omega)]
      simp
    refine bytes_toList ?_
    rw [ByteArray.toList_eq, ByteArray.toList_eq, e1, e2, h3]

set_option maxRecDepth 20000 in
set_option maxHeartbeats 4000000 in
theorem refDecode_any (s : ByteArray) (hs : s.size ≤ 100000) (w : World) : Calls Try.prog 7 #[.string s] w (DecPost s w) := by
  obtain ⟨i64, hi, hz0, hz1, hz2⟩ := info_parts info64
  go_enter Try.func7, Try.ntmps7
  go_wp2_with fail
  go_loopw [4, 5] (fun v p wr => ∃ (j : Nat) (f : Nat → Int), posAt s j ≤ s.size ∧ p = .int .i64 (posAt s j) ∧ Hid (∀ t, t < j → posAt s t < s.size ∧ ∃ c m : Nat, chAt s (posAt s t) = some (c, m) ∧ f t = (c : Int)) ∧ wr.ownsRow w.heap.size 3 1 v j (intCells f j) ∧ j ≤ posAt s j ∧ Below w.heap.size w wr) (fun _ p _ => s.size - (intOfZ p).toNat)
  case atStart => exact ⟨0, fun _ => 0, Nat.zero_le _, rfl, Lib.hid fun t h => by omega, World.ownsRow_nil _ _ _ _, Nat.le_refl _, Below.refl _ _⟩
  case round =>
    obtain ⟨j, f, hp, rfl, hd, hown0, hjp, hb0⟩ := hrel
    have hown := Lib.hid hown0; have hb := Lib.hid hb0
    clear hown0 hb0
    obtain ⟨i, hie⟩ : ∃ i, i = posAt s j := ⟨_, rfl⟩
    rw [← hie] at hp hjp ⊢
    have hie' := Lib.hid hie
    clear hie
    by_cases hlt : i < s.size
    · go_wp2_with fail
      refine (guess6_any s i hs hlt _).mono ?_
      rintro e w' ⟨rfl, ⟨hg, rfl⟩ | ⟨hg, rfl⟩⟩
      · by_cases hm : mayZ ((guessC s i : Nat) : Int) = true
        · have hr := may_range hm
          obtain ⟨c, hc⟩ : ∃ c, c = guessC s i := ⟨_, rfl⟩
          obtain ⟨m, hme⟩ : ∃ m, m = lead (bt s i) := ⟨_, rfl⟩
          have hg' := Lib.hid hg
          have hc3 : c ≤ 1114111 := by omega
          have m1 : 1 ≤ m := by have := hg.1; omega
          have m2 : i + m ≤ s.size := by have := hg.2.1; omega
          rw [← hc] at hm ⊢
          rw [← hme]
          have hc' := Lib.hid hc; have hme' := Lib.hid hme; have hm' := Lib.hid hm
          clear hg hr hc hme hm
          have g1 : IntKind.i64.wrap ((i : Int) + (m : Int)) = (i : Int) + (m : Int) := by simp [IntKind.wrap, IntKind.bits, IntKind.signed]; omega
          have g2 : (0 : Int) ≤ (i : Int) := by omega
          have g3 : (i : Int) ≤ (i : Int) + (m : Int) := by omega
          have g4 : (i : Int) + (m : Int) ≤ (s.size : Int) := by omega
          have g5 : ((m : Int) == 0) = false := by rw [beq_eq_false_iff_ne]; omega
          have g6 : ((i : Int) + (m : Int)).toNat = i + m := by omega
          by_cases hM : strOfNums ((encL c).map fun x : Nat => (x : Int)) = s.extract i (i + m)
          · have hM' := Lib.hid hM
            clear hM
            go_wp2_with fail
            have hb := hb.out.drew; have hown := Lib.hid (owns_later hown.out (Below.refl _ _).drew)
            refine wp_region_noPanic ?_
            refine wp_region_held_drew (S := fun _ => True) (by kernel_rfl) trivial (fun _ => ?_)
            refine wpAnyH_take (i := 0) (v := (.int .i64 m)) rfl (by kernel_rfl) (by kernel_rfl) (by kernel_rfl) (fun _ _ _ h => h) (Or.inl ⟨by rfl, ?_⟩) trivial (show wpAnyH _ _ _ _ _ _ _ (Act.put _ (some 18) _) _ from ?_)
            · intro w hSw; go_simp
            simp only [Act.put, List.setIfInBounds_toArray, List.set_cons_zero, List.set_cons_succ]
            refine wpAnyH_take (i := 1) (v := (.bool false)) rfl (by kernel_rfl) (by kernel_rfl) (by kernel_rfl) (fun _ _ _ h => h) (Or.inl ⟨by rfl, ?_⟩) trivial (show wpAnyH _ _ _ _ _ _ _ (Act.put _ (some 19) _) _ from ?_)
            · intro w hSw; go_simp
            simp only [Act.put, List.setIfInBounds_toArray, List.set_cons_zero, List.set_cons_succ]
            refine wpAnyH_take (i := 2) (v := (.bool false)) rfl (by kernel_rfl) (by kernel_rfl) (by kernel_rfl) (fun _ _ _ h => h) (Or.inl ⟨by rfl, ?_⟩) trivial (show wpAnyH _ _ _ _ _ _ _ (Act.put _ (some 20) _) _ from ?_)
            · intro w hSw; go_simp
            simp only [Act.put, List.setIfInBounds_toArray, List.set_cons_zero, List.set_cons_succ]
            refine wpAnyH_take (i := 3) (v := (.int .i64 c)) rfl (by kernel_rfl) (by kernel_rfl) (by kernel_rfl) (fun _ _ _ h => h) (Or.inl ⟨by rfl, ?_⟩) trivial (show wpAnyH _ _ _ _ _ _ _ (Act.put _ (some 21) _) _ from ?_)
            · intro w hSw; go_simp
            simp only [Act.put, List.setIfInBounds_toArray, List.set_cons_zero, List.set_cons_succ]
            refine wpAnyH_ready (rs := [4]) (by kernel_rfl) (by simp) ?_
            refine AllReadyH.cons rfl (fun K hK => ?_) AllReadyH.nil
            go_simp
            refine (may6_any c _).mono ?_
            rintro e w' ⟨rfl, rfl⟩
            rw [hm'.out]
            go_wp2_with fail
            refine hK.out _ _ trivial (fun _ => ?_)
            clear hK K
            refine wpAnyH_take (i := 5) (v := (.bool false)) rfl (by kernel_rfl) (by kernel_rfl) (by kernel_rfl) (fun _ _ _ h => h) (Or.inl ⟨by rfl, ?_⟩) trivial (show wpAnyH _ _ _ _ _ _ _ (Act.put _ (some 23) _) _ from ?_)
            · intro w hSw; go_simp
            simp only [Act.put, List.setIfInBounds_toArray, List.set_cons_zero, List.set_cons_succ]
            refine wpAnyH_take (i := 6) (v := (.bool false)) rfl (by kernel_rfl) (by kernel_rfl) (by kernel_rfl) (fun _ _ _ h => h) (Or.inl ⟨by rfl, ?_⟩) trivial (show wpAnyH _ _ _ _ _ _ _ (Act.put _ (some 24) _) _ from ?_)
            · intro w hSw; go_simp
            simp only [Act.put, List.setIfInBounds_toArray, List.set_cons_zero, List.set_cons_succ]
            refine wpAnyH_take (i := 7) (v := (.bool false)) rfl (by kernel_rfl) (by kernel_rfl) (by kernel_rfl) (fun _ _ _ h => h) (Or.inl ⟨by rfl, ?_⟩) trivial (show wpAnyH _ _ _ _ _ _ _ (Act.put _ (some 25) _) _ from ?_)
            · intro w hSw; go_simp
            simp only [Act.put, List.setIfInBounds_toArray, List.set_cons_zero, List.set_cons_succ]
            refine wpAnyH_take (i := 8) (v := (.int .i64 c)) rfl (by kernel_rfl) (by kernel_rfl) (by kernel_rfl) (fun _ _ _ h => h) (Or.inl ⟨by rfl, ?_⟩) trivial (show wpAnyH _ _ _ _ _ _ _ (Act.put _ (some 26) _) _ from ?_)
            · intro w hSw; go_simp
            simp only [Act.put, List.setIfInBounds_toArray, List.set_cons_zero, List.set_cons_succ]
            refine wpAnyH_take (i := 11) (v := (.string s)) rfl (by kernel_rfl) (by kernel_rfl) (by kernel_rfl) (fun _ _ _ h => h) (Or.inl ⟨by rfl, ?_⟩) trivial (show wpAnyH _ _ _ _ _ _ _ (Act.put _ (some 29) _) _ from ?_)
            · intro w hSw; go_simp
            simp only [Act.put, List.setIfInBounds_toArray, List.set_cons_zero, List.set_cons_succ]
            refine wpAnyH_take (i := 12) (v := (.int .i64 i)) rfl (by kernel_rfl) (by kernel_rfl) (by kernel_rfl) (fun _ _ _ h => h) (Or.inl ⟨by rfl, ?_⟩) trivial (show wpAnyH _ _ _ _ _ _ _ (Act.put _ (some 30) _) _ from ?_)
            · intro w hSw; go_simp
            simp only [Act.put, List.setIfInBounds_toArray, List.set_cons_zero, List.set_cons_succ]
            refine wpAnyH_take (i := 13) (v := (.int .i64 i)) rfl (by kernel_rfl) (by kernel_rfl) (by kernel_rfl) (fun _ _ _ h => h) (Or.inl ⟨by rfl, ?_⟩) trivial (show wpAnyH _ _ _ _ _ _ _ (Act.put _ (some 31) _) _ from ?_)
            · intro w hSw; go_simp
            simp only [Act.put, List.setIfInBounds_toArray, List.set_cons_zero, List.set_cons_succ]
            refine wpAnyH_take (i := 14) (v := (.int .i64 m)) rfl (by kernel_rfl) (by kernel_rfl) (by kernel_rfl) (fun _ _ _ h => h) (Or.inl ⟨by rfl, ?_⟩) trivial (show wpAnyH _ _ _ _ _ _ _ (Act.put _ (some 32) _) _ from ?_)
            · intro w hSw; go_simp
            simp only [Act.put, List.setIfInBounds_toArray, List.set_cons_zero, List.set_cons_succ]
            refine wpAnyH_take (i := 15) (v := (.int .i64 ((i : Int) + (m : Int)))) rfl (by kernel_rfl) (by kernel_rfl) (by kernel_rfl) (fun _ _ _ h => h) (Or.inl ⟨by rfl, ?_⟩) trivial (show wpAnyH _ _ _ _ _ _ _ (Act.put _ (some 33) _) _ from ?_)
            · intro w hSw; go_simp
            simp only [Act.put, List.setIfInBounds_toArray, List.set_cons_zero, List.set_cons_succ]
            refine wpAnyH_take (i := 16) (v := (.string (s.extract i (i + m)))) rfl (by kernel_rfl) (by kernel_rfl) (by kernel_rfl) (fun _ _ _ h => h) (Or.inl ⟨by rfl, ?_⟩) trivial (show wpAnyH _ _ _ _ _ _ _ (Act.put _ (some 34) _) _ from ?_)
            · intro w hSw; go_simp
            simp only [Act.put, List.setIfInBounds_toArray, List.set_cons_zero, List.set_cons_succ]
            refine wpAnyH_ready (rs := [9]) (by kernel_rfl) (by simp) ?_
            refine AllReadyH.cons rfl (fun K hK => ?_) AllReadyH.nil
            go_simp
            refine (one6_any c hc3 _).mono ?_
            rintro e w2 ⟨B, rfl, hB, hB2, hcell, hfree, hb2⟩
            have hconv := run_convert_bytes_arg (P := Try.prog) w2 36 5 Try.underlying36 Try.underlying5 B 0 (encL c).length (encL c).length ((encL c).map fun x : Nat => (x : Int)) (by simp) (fun i hi => by rw [Nat.zero_add, hcell i hi]; simp [hi]) 9 Try.underlying9
            rw [hM'.out] at hconv
            have hb := Lib.hid (below_on hb hb2); have hown := Lib.hid (owns_later hown.out hb2)
            clear hcell hfree hb2 hB hB2
            go_wp2_with fail
            refine hK.out _ _ trivial (fun _ => ?_)
            clear hK K
            refine wpAnyH_ready (rs := [10]) (by kernel_rfl) (by simp) ?_
            refine AllReadyH.cons rfl (fun K hK => ?_) AllReadyH.nil
            go_simp
            refine hK.out _ _ trivial (fun _ => ?_)
            clear hK K
            refine wpAnyH_take (i := 17) (v := (.bool false)) rfl (by kernel_rfl) (by kernel_rfl) (by kernel_rfl) (fun _ _ _ h => h) (Or.inl ⟨by rfl, ?_⟩) trivial (show wpAnyH _ _ _ _ _ _ _ (Act.put _ (some 35) _) _ from ?_)
            · intro w hSw; go_simp
            simp only [Act.put, List.setIfInBounds_toArray, List.set_cons_zero, List.set_cons_succ]
            refine wpAnyH_take (i := 18) (v := (.bool false)) rfl (by kernel_rfl) (by kernel_rfl) (by kernel_rfl) (fun _ _ _ h => h) (Or.inl ⟨by rfl, ?_⟩) trivial (show wpAnyH _ _ _ _ _ _ _ (Act.put _ (some 36) _) _ from ?_)
            · intro w hSw; go_simp
            simp only [Act.put, List.setIfInBounds_toArray, List.set_cons_zero, List.set_cons_succ]
            refine wpAnyH_done (by kernel_rfl) ?_ _
            refine NoPanic.normal ?_
            have hMt := Lib.hid ((match_str m2 hc3).1 hM'.out)
            have hch := Lib.hid (show chAt s i = some (c, m) by
              have h1 := hg'.out; have h2 := hm'.out; have h3 := hMt.out
              rw [hc'.out, hme'.out] at h3
              rw [hc'.out] at h2 ⊢
              rw [hme'.out]
              exact ch_good h1 h2 h3)
            go_wp2_with (at_builtin; refine wpList_append_own _ rfl (.tmp 39) (.tmp 41) 22 rfl w.heap.size 3 i64 (.int .i64 0) 1 8 Try.underlying22 hi hz0 hz1 hz2 rfl (by decide) _ j (intCells f j) rfl (hown.out.alloc _) ⟨w2.heap.size, 0, none⟩ 1 1 [.int .i64 c] rfl rfl (newz_at w2 _ _) (by intro u hu; simp at hu; subst hu; rfl) (by unfold maxLen; omega) (by omega) (by have := hb.out.size; simp; omega) ?_)
            intro v' w3 hown3 hgr hnil3
            rw [intCells_snoc] at hown3
            have hown4 := Lib.hid hown3
            have hb4 := Lib.hid ((hb.out.alloc hb.out.size _).grown hgr (by have := hb.out.size; simp; omega) (fun q hq => (hown.out.lt q hq).1))
            have hpos := Lib.hid (show posAt s (j + 1) = i + m by rw [hie'.out] at hch ⊢; exact pos_step hch.out)
            clear hown3 hgr hnil3
            go_wp2_with fail
            go_roundw
            case rel =>
              refine ⟨j + 1, putZ f j c, by rw [hpos.out]; exact m2, int_eq' (by rw [hpos.out]; omega), Lib.hid fun t ht => ?_, hown4.out, by rw [hpos.out]; omega, hb4.out⟩
              by_cases e : t = j
              · subst e
                rw [← hie'.out]
                exact ⟨hlt, c, m, hch.out, by unfold putZ; rw [if_pos rfl]⟩
              · obtain ⟨h1, c1, k1, h2, h3⟩ := hd.out t (by omega)
                exact ⟨h1, c1, k1, h2, by unfold putZ; rw [if_neg e]; exact h3⟩
            case measure => simp [intOfZ]; omega
          · have hM' := Lib.hid hM
            clear hM
            go_wp2_with fail
            have hb := hb.out.drew; have hown := Lib.hid (owns_later hown.out (Below.refl _ _).drew)
            refine wp_region_noPanic ?_
            refine wp_region_held_drew (S := fun _ => True) (by kernel_rfl) trivial (fun _ => ?_)
            refine wpAnyH_take (i := 0) (v := (.int .i64 m)) rfl (by kernel_rfl) (by kernel_rfl) (by kernel_rfl) (fun _ _ _ h => h) (Or.inl ⟨by rfl, ?_⟩) trivial (show wpAnyH _ _ _ _ _ _ _ (Act.put _ (some 18) _) _ from ?_)
            · intro w hSw; go_simp
            simp only [Act.put, List.setIfInBounds_toArray, List.set_cons_zero, List.set_cons_succ]
            refine wpAnyH_take (i := 1) (v := (.bool false)) rfl (by kernel_rfl) (by kernel_rfl) (by kernel_rfl) (fun _ _ _ h => h) (Or.inl ⟨by rfl, ?_⟩) trivial (show wpAnyH _ _ _ _ _ _ _ (Act.put _ (some 19) _) _ from ?_)
            · intro w hSw; go_simp
            simp only [Act.put, List.setIfInBounds_toArray, List.set_cons_zero, List.set_cons_succ]
            refine wpAnyH_take (i := 2) (v := (.bool false)) rfl (by kernel_rfl) (by kernel_rfl) (by kernel_rfl) (fun _ _ _ h => h) (Or.inl ⟨by rfl, ?_⟩) trivial (show wpAnyH _ _ _ _ _ _ _ (Act.put _ (some 20) _) _ from ?_)
            · intro w hSw; go_simp
            simp only [Act.put, List.setIfInBounds_toArray, List.set_cons_zero, List.set_cons_succ]
            refine wpAnyH_take (i := 3) (v := (.int .i64 c)) rfl (by kernel_rfl) (by kernel_rfl) (by kernel_rfl) (fun _ _ _ h => h) (Or.inl ⟨by rfl, ?_⟩) trivial (show wpAnyH _ _ _ _ _ _ _ (Act.put _ (some 21) _) _ from ?_)
            · intro w hSw; go_simp
            simp only [Act.put, List.setIfInBounds_toArray, List.set_cons_zero, List.set_cons_succ]
            refine wpAnyH_ready (rs := [4]) (by kernel_rfl) (by simp) ?_
            refine AllReadyH.cons rfl (fun K hK => ?_) AllReadyH.nil
            go_simp
            refine (may6_any c _).mono ?_
            rintro e w' ⟨rfl, rfl⟩
            rw [hm'.out]
            go_wp2_with fail
            refine hK.out _ _ trivial (fun _ => ?_)
            clear hK K
            refine wpAnyH_take (i := 5) (v := (.bool false)) rfl (by kernel_rfl) (by kernel_rfl) (by kernel_rfl) (fun _ _ _ h => h) (Or.inl ⟨by rfl, ?_⟩) trivial (show wpAnyH _ _ _ _ _ _ _ (Act.put _ (some 23) _) _ from ?_)
            · intro w hSw; go_simp
            simp only [Act.put, List.setIfInBounds_toArray, List.set_cons_zero, List.set_cons_succ]
            refine wpAnyH_take (i := 6) (v := (.bool false)) rfl (by kernel_rfl) (by kernel_rfl) (by kernel_rfl) (fun _ _ _ h => h) (Or.inl ⟨by rfl, ?_⟩) trivial (show wpAnyH _ _ _ _ _ _ _ (Act.put _ (some 24) _) _ from ?_)
            · intro w hSw; go_simp
            simp only [Act.put, List.setIfInBounds_toArray, List.set_cons_zero, List.set_cons_succ]
            refine wpAnyH_take (i := 7) (v := (.bool false)) rfl (by kernel_rfl) (by kernel_rfl) (by kernel_rfl) (fun _ _ _ h => h) (Or.inl ⟨by rfl, ?_⟩) trivial (show wpAnyH _ _ _ _ _ _ _ (Act.put _ (some 25) _) _ from ?_)
            · intro w hSw; go_simp
            simp only [Act.put, List.setIfInBounds_toArray, List.set_cons_zero, List.set_cons_succ]
            refine wpAnyH_take (i := 8) (v := (.int .i64 c)) rfl (by kernel_rfl) (by kernel_rfl) (by kernel_rfl) (fun _ _ _ h => h) (Or.inl ⟨by rfl, ?_⟩) trivial (show wpAnyH _ _ _ _ _ _ _ (Act.put _ (some 26) _) _ from ?_)
            · intro w hSw; go_simp
            simp only [Act.put, List.setIfInBounds_toArray, List.set_cons_zero, List.set_cons_succ]
            refine wpAnyH_take (i := 11) (v := (.string s)) rfl (by kernel_rfl) (by kernel_rfl) (by kernel_rfl) (fun _ _ _ h => h) (Or.inl ⟨by rfl, ?_⟩) trivial (show wpAnyH _ _ _ _ _ _ _ (Act.put _ (some 29) _) _ from ?_)
            · intro w hSw; go_simp
            simp only [Act.put, List.setIfInBounds_toArray, List.set_cons_zero, List.set_cons_succ]
            refine wpAnyH_take (i := 12) (v := (.int .i64 i)) rfl (by kernel_rfl) (by kernel_rfl) (by kernel_rfl) (fun _ _ _ h => h) (Or.inl ⟨by rfl, ?_⟩) trivial (show wpAnyH _ _ _ _ _ _ _ (Act.put _ (some 30) _) _ from ?_)
            · intro w hSw; go_simp
            simp only [Act.put, List.setIfInBounds_toArray, List.set_cons_zero, List.set_cons_succ]
            refine wpAnyH_take (i := 13) (v := (.int .i64 i)) rfl (by kernel_rfl) (by kernel_rfl) (by kernel_rfl) (fun _ _ _ h => h) (Or.inl ⟨by rfl, ?_⟩) trivial (show wpAnyH _ _ _ _ _ _ _ (Act.put _ (some 31) _) _ from ?_)
            · intro w hSw; go_simp
            simp only [Act.put, List.setIfInBounds_toArray, List.set_cons_zero, List.set_cons_succ]
            refine wpAnyH_take (i := 14) (v := (.int .i64 m)) rfl (by kernel_rfl) (by kernel_rfl) (by kernel_rfl) (fun _ _ _ h => h) (Or.inl ⟨by rfl, ?_⟩) trivial (show wpAnyH _ _ _ _ _ _ _ (Act.put _ (some 32) _) _ from ?_)
            · intro w hSw; go_simp
            simp only [Act.put, List.setIfInBounds_toArray, List.set_cons_zero, List.set_cons_succ]
            refine wpAnyH_take (i := 15) (v := (.int .i64 ((i : Int) + (m : Int)))) rfl (by kernel_rfl) (by kernel_rfl) (by kernel_rfl) (fun _ _ _ h => h) (Or.inl ⟨by rfl, ?_⟩) trivial (show wpAnyH _ _ _ _ _ _ _ (Act.put _ (some 33) _) _ from ?_)
            · intro w hSw; go_simp
            simp only [Act.put, List.setIfInBounds_toArray, List.set_cons_zero, List.set_cons_succ]
            refine wpAnyH_take (i := 16) (v := (.string (s.extract i (i + m)))) rfl (by kernel_rfl) (by kernel_rfl) (by kernel_rfl) (fun _ _ _ h => h) (Or.inl ⟨by rfl, ?_⟩) trivial (show wpAnyH _ _ _ _ _ _ _ (Act.put _ (some 34) _) _ from ?_)
            · intro w hSw; go_simp
            simp only [Act.put, List.setIfInBounds_toArray, List.set_cons_zero, List.set_cons_succ]
            refine wpAnyH_ready (rs := [9]) (by kernel_rfl) (by simp) ?_
            refine AllReadyH.cons rfl (fun K hK => ?_) AllReadyH.nil
            go_simp
            refine (one6_any c hc3 _).mono ?_
            rintro e w2 ⟨B, rfl, hB, hB2, hcell, hfree, hb2⟩
            have hconv := run_convert_bytes_arg (P := Try.prog) w2 36 5 Try.underlying36 Try.underlying5 B 0 (encL c).length (encL c).length ((encL c).map fun x : Nat => (x : Int)) (by simp) (fun i hi => by rw [Nat.zero_add, hcell i hi]; simp [hi]) 9 Try.underlying9
            obtain ⟨X, hX⟩ : ∃ X, X = strOfNums ((encL c).map fun x : Nat => (x : Int)) := ⟨_, rfl⟩
            rw [← hX] at hconv
            have hXne : (X.toList == (s.extract i (i + m)).toList) = false := by rw [beq_eq_false_iff_ne, hX]; exact fun h => hM'.out (bytes_toList h)
            clear hX
            have hb := Lib.hid (below_on hb hb2); have hown := Lib.hid (owns_later hown.out hb2)
            clear hcell hfree hb2 hB hB2
            go_wp2_with fail
            refine hK.out _ _ trivial (fun _ => ?_)
            clear hK K
            refine wpAnyH_ready (rs := [10]) (by kernel_rfl) (by simp) ?_
            refine AllReadyH.cons rfl (fun K hK => ?_) AllReadyH.nil
            go_simp
            refine hK.out _ _ trivial (fun _ => ?_)
            clear hK K
            refine wpAnyH_take (i := 17) (v := (.bool true)) rfl (by kernel_rfl) (by kernel_rfl) (by kernel_rfl) (fun _ _ _ h => h) (Or.inl ⟨by rfl, ?_⟩) trivial (show wpAnyH _ _ _ _ _ _ _ (Act.put _ (some 35) _) _ from ?_)
            · intro w hSw; go_simp
            simp only [Act.put, List.setIfInBounds_toArray, List.set_cons_zero, List.set_cons_succ]
            refine wpAnyH_take (i := 18) (v := (.bool true)) rfl (by kernel_rfl) (by kernel_rfl) (by kernel_rfl) (fun _ _ _ h => h) (Or.inl ⟨by rfl, ?_⟩) trivial (show wpAnyH _ _ _ _ _ _ _ (Act.put _ (some 36) _) _ from ?_)
            · intro w hSw; go_simp
            simp only [Act.put, List.setIfInBounds_toArray, List.set_cons_zero, List.set_cons_succ]
            refine wpAnyH_done (by kernel_rfl) ?_ _
            refine NoPanic.normal ?_
            have hn := Lib.hid (ch_bad hlt (fun k => hM'.out (by
              have h3 := k.2.2
              rw [← hc'.out, ← hme'.out] at h3
              exact (match_str m2 hc3).2 h3)))
            obtain ⟨ao, cap, rfl, k1, k2, k3⟩ := owns_ints hown.out
            have k3' := Lib.hid k3
            clear k3
            go_wp2_with fail
            go_ret2
            exact ⟨ao, j, cap, f, _, rfl, k1, k2, k3'.out, ⟨hd.out, .inr ⟨by rw [← hie'.out]; exact hlt, by rw [← hie'.out]; exact hn.out, by rw [← hie'.out]⟩⟩, hb.out⟩
        · have hm2 : mayZ ((guessC s i : Nat) : Int) = false := by simpa using hm
          have hn := Lib.hid (ch_bad hlt (fun k => hm k.2.1))
          have hg1 := hg.1
          obtain ⟨c, hc⟩ : ∃ c, c = guessC s i := ⟨_, rfl⟩
          obtain ⟨m, hme⟩ : ∃ m, m = lead (bt s i) := ⟨_, rfl⟩
          rw [← hc] at hm2 ⊢
          rw [← hme] at hg1 ⊢
          have g5 : ((m : Int) == 0) = false := by rw [beq_eq_false_iff_ne]; omega
          have hm2' := Lib.hid hm2
          clear hg hm hc hme hm2 hg1
          go_wp2_with fail
          go_quiet ((go_at_call 15; exact Calls.quiet_of_same (may6_no c hm2'.out _)))
          have hb := Lib.hid (below_drewN hb.out nq); have hown := Lib.hid (owns_later hown.out (below_drewN (Below.refl _ _) nq))
          obtain ⟨ao, cap, rfl, k1, k2, k3⟩ := owns_ints hown.out
          have k3' := Lib.hid k3
          clear k3
          go_wp2_with fail
          go_ret2
          exact ⟨ao, j, cap, f, _, rfl, k1, k2, k3'.out, ⟨hd.out, .inr ⟨by rw [← hie'.out]; exact hlt, by rw [← hie'.out]; exact hn.out, by rw [← hie'.out]⟩⟩, hb.out⟩
      · have hn := Lib.hid (ch_bad hlt (fun k => hg k.1))
        clear hg
        go_wp2_with fail
        go_quiet (fail)
        have hb := Lib.hid (below_drewN hb.out nq); have hown := Lib.hid (owns_later hown.out (below_drewN (Below.refl _ _) nq))
        obtain ⟨ao, cap, rfl, k1, k2, k3⟩ := owns_ints hown.out
        have k3' := Lib.hid k3
        clear k3
        go_wp2_with fail
        go_ret2
        exact ⟨ao, j, cap, f, _, rfl, k1, k2, k3'.out, ⟨hd.out, .inr ⟨by rw [← hie'.out]; exact hlt, by rw [← hie'.out]; exact hn.out, by rw [← hie'.out]⟩⟩, hb.out⟩
    · have e : posAt s j = s.size := by have := hie'.out; omega
      obtain ⟨ao, cap, rfl, k1, k2, k3⟩ := owns_ints hown.out
      have k3' := Lib.hid k3; have e' := Lib.hid e
      clear k3 e
      go_wp2_with fail
      go_ret2
      exact ⟨ao, j, cap, f, _, rfl, k1, k2, k3'.out, ⟨hd.out, .inl ⟨by have := e'.out; omega, rfl⟩⟩, hb.out⟩

end Go.Proofs.Ytgaombefigjilaa
